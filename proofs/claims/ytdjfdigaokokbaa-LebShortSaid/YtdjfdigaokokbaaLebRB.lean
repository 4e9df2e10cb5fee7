/- The document's answers of layer 1, walked: numbers in so many bytes. -/
import Derived.Test.YtdjfdigaokokbaaLebX
import Derived.Test.YtdjfdigaokokbaaLebMath
import Derived.Test.YtdjfdigaokokbaaOwn
import Derived.Deep.RegionWith
namespace Go.Proofs.Ytdjfdigaokokbaa
open Go.RowKit
set_option linter.unusedVariables false

/-- A row of bytes as a number from 0 on, of 64 bits. -/
def bu (l : List Int) : Int := l.foldl (fun n b => IntKind.u64.wrap (n * 256 + b)) 0
theorem bu_step {l : List Int} {k : Nat} (h : k < l.length) : bu (l.take (k + 1)) = IntKind.u64.wrap (bu (l.take k) * 256 + gi l k) := by
  rw [List.take_succ_eq_append_getElem h]
  unfold bu
  rw [List.foldl_append]
  simp [gi, h]
theorem wrap_both (n : Int) : IntKind.i64.wrap (IntKind.u64.wrap n) = IntKind.i64.wrap n := by
  rw [IntKind.wrap_u64, IntKind.wrap_i64, IntKind.wrap_i64]
  omega
theorem bu_bf_ : ∀ (l : List Int) (a c : Int), IntKind.i64.wrap a = IntKind.i64.wrap c → IntKind.i64.wrap (l.foldl (fun n b => IntKind.u64.wrap (n * 256 + b)) a) = IntKind.i64.wrap (bf c l) := by
  intro l
  induction l with
  | nil => intro a c h; exact h
  | cons x l ih =>
    intro a c h
    refine ih _ _ ?_
    show IntKind.i64.wrap (IntKind.u64.wrap (a * 256 + x)) = IntKind.i64.wrap (IntKind.i64.wrap (c * 256 + x))
    rw [wrap_both, ← wrap_mul a 256 x, h, wrap_mul, IntKind.wrap_i64, IntKind.wrap_i64]
    omega
theorem bu_bf (l : List Int) : IntKind.i64.wrap (bu l) = bf 0 l := by
  have h := bu_bf_ l 0 0 rfl
  have hb := bf_range l 0 (by omega)
  have e : IntKind.i64.wrap (bf 0 l) = bf 0 l := by
    rw [IntKind.wrap_i64]
    omega
  rw [e] at h
  exact h
theorem or_shift_u (n d : Int) (h0 : 0 ≤ d) (h1 : d < 256) : bits .or .u64 (IntKind.u64.wrap (n * 256)) d = IntKind.u64.wrap (n * 256 + d) := by
  show IntKind.u64.wrap ((BitVec.ofInt 64 (IntKind.u64.wrap (n * 256)) ||| BitVec.ofInt 64 d).toNat : Int) = _
  have e1 : (BitVec.ofInt 64 (IntKind.u64.wrap (n * 256))).toNat = 2 ^ 8 * (n % 72057594037927936).toNat := by
    rw [BitVec.toNat_ofInt, IntKind.wrap_u64]
    omega
  have e2 : (BitVec.ofInt 64 d).toNat = d.toNat := by
    rw [BitVec.toNat_ofInt]
    omega
  rw [BitVec.toNat_or, e1, e2, ← Nat.two_pow_add_eq_or_of_lt (by omega), IntKind.wrap_u64, IntKind.wrap_u64]
  omega

theorem bf_shift : ∀ (l : List Int) (a d : Int), IntKind.i64.wrap (bf (a + d) l) = IntKind.i64.wrap (bf a l + d * 256 ^ l.length) := by
  have go : ∀ (l : List Int) (a b d : Int), IntKind.i64.wrap b = IntKind.i64.wrap (a + d) → IntKind.i64.wrap (bf b l) = IntKind.i64.wrap (bf a l + d * 256 ^ l.length) := by
    intro l
    induction l with
    | nil => intro a b d h; simpa [bf] using h
    | cons x l ih =>
      intro a b d h
      have e := ih (IntKind.i64.wrap (a * 256 + x)) (IntKind.i64.wrap (b * 256 + x)) (d * 256) (by
        rw [IntKind.wrap_i64, IntKind.wrap_i64, IntKind.wrap_i64, IntKind.wrap_i64]
        rw [IntKind.wrap_i64, IntKind.wrap_i64] at h
        omega)
      rw [List.length_cons, Int.pow_succ, Int.mul_comm (256 ^ l.length) 256, ← Int.mul_assoc]
      exact e
  intro l a d
  exact go l a (a + d) d rfl
theorem lt_eq {a b c : Int} (h : a < b) (e : b = c) : a < c := e ▸ h
theorem pow256_le {k : Nat} (h : k ≤ 6) : (256 : Int) ^ k ≤ 281474976710656 := by
  have ht : k = 0 ∨ k = 1 ∨ k = 2 ∨ k = 3 ∨ k = 4 ∨ k = 5 ∨ k = 6 := by omega
  rcases ht with rfl | rfl | rfl | rfl | rfl | rfl | rfl <;> decide
theorem bu_small : ∀ (l : List Int), Fit .u8 l → l.length ≤ 7 → 0 ≤ bu l ∧ bu l < 256 ^ l.length := by
  have go : ∀ (l : List Int) (a : Int) (k : Nat), Fit .u8 l → k + l.length ≤ 7 → 0 ≤ a → a < 256 ^ k → 0 ≤ l.foldl (fun n b => IntKind.u64.wrap (n * 256 + b)) a ∧ l.foldl (fun n b => IntKind.u64.wrap (n * 256 + b)) a < 256 ^ (k + l.length) := by
    intro l
    induction l with
    | nil => intro a k _ _ h0 h1; exact ⟨h0, h1⟩
    | cons x l ih =>
      intro a k hf hk h0 h1
      have hx := hf.u8 (List.mem_cons_self)
      have hk' : k ≤ 6 := by simp at hk; omega
      have e := pow256_le hk'
      have hw : IntKind.u64.wrap (a * 256 + x) = a * 256 + x := by
        rw [IntKind.wrap_u64]
        omega
      have := ih (a * 256 + x) (k + 1) (fun y hy => hf y (List.mem_cons_of_mem _ hy)) (by simp at hk; omega) (by omega) (by rw [Int.pow_succ]; omega)
      simp only [List.foldl_cons, List.length_cons]
      rw [hw, show k + (l.length + 1) = k + 1 + l.length by omega]
      exact this
  intro l hf hl
  have := go l 0 0 hf (by omega) (by omega) (by simp)
  simpa [bu] using this
theorem or_high (x : Int) (i k : Nat) (h0 : 0 ≤ x) (h1 : x < (2 ^ i : Nat)) (h2 : 2 ^ i * k + 2 ^ i ≤ 18446744073709551616) : bits .or .u64 x ((2 ^ i * k : Nat) : Int) = x + ((2 ^ i * k : Nat) : Int) := by
  have hx : x.toNat < 2 ^ i := by omega
  show IntKind.u64.wrap ((BitVec.ofInt 64 x ||| BitVec.ofInt 64 ((2 ^ i * k : Nat) : Int)).toNat : Int) = _
  have e1 : (BitVec.ofInt 64 x).toNat = x.toNat := by
    rw [BitVec.toNat_ofInt]
    generalize 2 ^ i * k = q at *
    generalize 2 ^ i = p at *
    omega
  have e2 : (BitVec.ofInt 64 ((2 ^ i * k : Nat) : Int)).toNat = 2 ^ i * k := by
    rw [BitVec.toNat_ofInt]
    generalize 2 ^ i * k = q at *
    generalize 2 ^ i = p at *
    omega
  rw [BitVec.toNat_or, e1, e2, Nat.or_comm, ← Nat.two_pow_add_eq_or_of_lt hx, IntKind.wrap_u64]
  generalize 2 ^ i * k = q at *
  generalize 2 ^ i = p at *
  omega
/-- With a sign: what the highest byte's bit adds. -/
theorem bf_sign (l : List Int) (hf : Fit .u8 l) (s : Nat) (hs : l.length = s) (h1 : 1 ≤ s) (h7 : s ≤ 7) : IntKind.i64.wrap (bits .or .u64 (bu l) ((2 ^ (8 * s) * (2 ^ (64 - 8 * s) - 1) : Nat) : Int)) = bf (-1) l := by
  obtain ⟨b0, b1⟩ := bu_small l hf (by omega)
  have hb := bf_range l (-1) (by omega)
  have e := bf_shift l 0 (-1)
  have e2 := bu_bf l
  rw [hs] at e b1
  have ht : s = 1 ∨ s = 2 ∨ s = 3 ∨ s = 4 ∨ s = 5 ∨ s = 6 ∨ s = 7 := by omega
  rw [show (0 : Int) + -1 = -1 from rfl, ← e2] at e
  rcases ht with rfl | rfl | rfl | rfl | rfl | rfl | rfl
  all_goals
    rw [or_high _ _ _ b0 (lt_eq b1 (by decide)) (by decide)]
    rw [IntKind.wrap_i64, IntKind.wrap_i64] at e
    rw [IntKind.wrap_i64] at e
    rw [IntKind.wrap_i64]
    generalize bu l = x at *
    omega
theorem bf_eight (l : List Int) (hl : l.length = 8) (a : Int) (ha : -9223372036854775808 ≤ a ∧ a ≤ 9223372036854775807) : bf a l = bf 0 l := by
  have h1 := bf_shift l 0 a
  have h2 := bf_range l a ha
  have h3 := bf_range l 0 (by omega)
  rw [hl, Int.zero_add, show (256 : Int) ^ 8 = 18446744073709551616 from rfl] at h1
  rw [IntKind.wrap_i64, IntKind.wrap_i64] at h1
  omega

theorem take_any (v : Value) (l : List Int) (s : Nat) (w : World) (h : Row w .u8 v l) (hs : s ≤ l.length) (h8 : s ≤ 8) :
    Calls Try.prog 40 #[v, .int .i64 s] w fun e w' => e = .returned (.int .u64 (bu (l.take s))) ∧ w' = w := by
  obtain ⟨A, c, rfl, h2, h3, h4, h5, h6⟩ := h
  unfold maxLen at h3
  go_enter Try.func40, Try.ntmps40
  go_wp2
  go_loop [5, 6] (fun x i => ∃ (k : Nat) (m : Int), x = .int .u64 m ∧ i = .int .i64 k ∧ k ≤ s ∧ Hid (m = bu (l.take k))) (fun _ i => s - (intOf i).toNat)
  case atStart => exact ⟨0, 0, rfl, rfl, by omega, rfl⟩
  case round =>
    obtain ⟨k, m, rfl, rfl, hk, HM⟩ := hrel
    by_cases hlt : k < s
    · obtain ⟨b, o, rfl, hb, hx⟩ := h6 (by omega)
      have hy := hx k (by omega)
      have hf := h5.u8 (gi_mem (l := l) (j := k) (by omega))
      have hor := or_shift_u m (gi l k) (by omega) (by omega)
      have HN : Hid (IntKind.u64.wrap (m * 256 + gi l k) = bu (l.take (k + 1))) := by
        rw [Hid, bu_step (by omega), ← HM.out]
      clear hx h6
      go_wp2
      go_round
      case rel => exact ⟨k + 1, _, rfl, by go_num, by omega, HN⟩
      case measure => simp [intOf]; omega
    · have HK : Hid (k = s) := by rw [Hid]; omega
      go_wp2
      go_ret
      refine ⟨congrArg (fun x : Int => Ending.returned (.int .u64 x)) ?_, rfl⟩
      rw [HM.out, HK.out]

set_option maxHeartbeats 1000000 in
theorem refTakeBig_any (v : Value) (l : List Int) (size : Int) (w : World) (h : Row w .u8 v l) (hr : l.length ≤ 140737488355328) (hsl : -9223372036854775808 ≤ size) (hsh : size ≤ 9223372036854775807) :
    Calls Try.prog 27 #[v, .int .i64 size] w (Ret w (RowTake w (tB 7 3 l size))) := by
  by_cases h1 : size < 1 ∨ 7 < size
  · have e : tB 7 3 l size = (0, [], 2) := by unfold tB; rw [if_pos h1]
    rw [e]
    clear e
    by_cases h0 : size < 1
    · go_enter Try.func27, Try.ntmps27
      go_wp2
      go_ret3
      exact Ret.mk ⟨_, rfl, Own.nil _ _ _ _⟩ (Ext.refl _)
    · have h2 : 7 < size := by omega
      clear h1
      go_enter Try.func27, Try.ntmps27
      go_wp2
      go_ret3
      exact Ret.mk ⟨_, rfl, Own.nil _ _ _ _⟩ (Ext.refl _)
  · obtain ⟨s, rfl⟩ : ∃ s : Nat, size = (s : Int) := ⟨size.toNat, by omega⟩
    have hs1 : 1 ≤ s := by omega
    have hs2 : s ≤ 7 := by omega
    by_cases h2 : l.length < s
    · have e : tB 7 3 l s = (0, [], 3) := by unfold tB; rw [if_neg h1, if_pos (by omega)]
      rw [e]
      clear e h1
      obtain ⟨A, c, rfl, g2, g3, g4, g5, g6⟩ := h
      clear g6 g4
      go_enter Try.func27, Try.ntmps27
      go_wp2
      go_ret3
      exact Ret.mk ⟨_, rfl, Own.nil _ _ _ _⟩ (Ext.refl _)
    · have e : tB 7 3 l s = (IntKind.i64.wrap (bu (l.take s)), l.drop s, 0) := by
        unfold tB
        rw [if_neg h1, if_neg (by omega), Int.toNat_natCast, bu_bf]
        rfl
      rw [e]
      clear e h1
      have hrow := h
      obtain ⟨A, c, rfl, g2, g3, g4, g5, g6⟩ := h
      unfold maxLen at g3
      obtain ⟨b, o, rfl, hb, hx⟩ := g6 (by omega)
      have hsl' : s ≤ l.length := by omega
      have htail := hrow.tail s hsl'
      have hld : (l.drop s).length ≤ 140737488355328 := by simp; omega
      have hi1 : (s : Int) ≤ (l.length : Int) := by omega
      clear g6 g4 hx
      by_cases hcc : c = s
      · have hll : l.drop s = [] := List.drop_eq_nil_iff.2 (by omega)
        rw [hll]
        subst hcc
        clear hll htail hld
        go_enter Try.func27, Try.ntmps27
        go_wp2_with fail
        go_region_with (first
          | (go_at_call 40; refine (take_any _ l c _ (by exact hrow) hsl' (by omega)).mono ?_; rintro e w1 ⟨rfl, rfl⟩)
          | (go_at_call 12; refine (copyBytes_any _ [] _ (by exact Row.zero _ _ _ (by omega) (by simp [maxLen])) (by simp)).mono ?_; rintro e w2 ⟨v2, rfl, ho2, he2⟩))
        all_goals
          go_wp2
          go_ret3
          exact Ret.mk ⟨_, rfl, ho2⟩ ((Ext.refl w).drew.trans he2)
      · go_enter Try.func27, Try.ntmps27
        go_wp2_with fail
        go_region_with (first
          | (go_at_call 40; refine (take_any _ l s _ (by exact hrow) hsl' (by omega)).mono ?_; rintro e w1 ⟨rfl, rfl⟩)
          | (go_at_call 12; refine (copyBytes_any _ (l.drop s) _ (by exact htail) hld).mono ?_; rintro e w2 ⟨v2, rfl, ho2, he2⟩))
        all_goals
          go_wp2
          go_ret3
          exact Ret.mk ⟨_, rfl, ho2⟩ ((Ext.refl w).drew.trans he2)

theorem take_at (v : Value) (l : List Int) (z : Int) (s : Nat) (w : World) (h : Row w .u8 v l) (hz : z = s) (hs : s ≤ l.length) (h8 : s ≤ 8) :
    Calls Try.prog 40 #[v, .int .i64 z] w fun e w' => e = .returned (.int .u64 (bu (l.take s))) ∧ w' = w := by
  subst hz
  exact take_any v l s w h hs h8

set_option maxHeartbeats 1000000 in
theorem refTakeBigS_any (v : Value) (l : List Int) (size : Int) (w : World) (h : Row w .u8 v l) (hr : l.length ≤ 140737488355328) (hsl : -9223372036854775808 ≤ size) (hsh : size ≤ 9223372036854775807) :
    Calls Try.prog 29 #[v, .int .i64 size] w (Ret w (RowTake w (tB 8 4 l size))) := by
  by_cases h1 : size < 1 ∨ 8 < size
  · have e : tB 8 4 l size = (0, [], 2) := by unfold tB; rw [if_pos h1]
    rw [e]
    clear e
    by_cases h0 : size < 1
    · go_enter Try.func29, Try.ntmps29
      go_wp2
      go_ret3
      exact Ret.mk ⟨_, rfl, Own.nil _ _ _ _⟩ (Ext.refl _)
    · have h2 : 8 < size := by omega
      clear h1
      go_enter Try.func29, Try.ntmps29
      go_wp2
      go_ret3
      exact Ret.mk ⟨_, rfl, Own.nil _ _ _ _⟩ (Ext.refl _)
  · obtain ⟨s, rfl⟩ : ∃ s : Nat, size = (s : Int) := ⟨size.toNat, by omega⟩
    have hs1 : 1 ≤ s := by omega
    have hs2 : s ≤ 8 := by omega
    by_cases h2 : l.length < s
    · have e : tB 8 4 l s = (0, [], 3) := by unfold tB; rw [if_neg h1, if_pos (by omega)]
      rw [e]
      clear e h1
      obtain ⟨A, c, rfl, g2, g3, g4, g5, g6⟩ := h
      clear g6 g4
      go_enter Try.func29, Try.ntmps29
      go_wp2
      go_ret3
      exact Ret.mk ⟨_, rfl, Own.nil _ _ _ _⟩ (Ext.refl _)
    · have e : tB 8 4 l s = (bf (ab 4 (gi l 0)) (l.take s), l.drop s, 0) := by
        unfold tB
        rw [if_neg h1, if_neg (by omega), Int.toNat_natCast]
      rw [e]
      clear e h1
      have hrow := h
      obtain ⟨A, c, rfl, g2, g3, g4, g5, g6⟩ := h
      unfold maxLen at g3
      obtain ⟨b, o, rfl, hb, hx⟩ := g6 (by omega)
      have hy0 := hx 0 (by omega)
      rw [Nat.add_zero] at hy0
      have hf0 := g5.u8 (gi_mem (l := l) (j := 0) (by omega))
      have hsl' : s ≤ l.length := by omega
      have htail := hrow.tail s hsl'
      have hld : (l.drop s).length ≤ 140737488355328 := by simp; omega
      have hi1 : (s : Int) ≤ (l.length : Int) := by omega
      have hi0 : (0 : Int) < (l.length : Int) := by omega
      have htl : (l.take s).length = s := by simp; omega
      have HTL := Lib.hid htl
      clear g6 g4 hx htl
      by_cases hneg : 128 ≤ gi l 0 ∧ s ≤ 7
      · obtain ⟨hg, hs7⟩ := hneg
        have HR := Lib.hid (bf_sign (l.take s) (g5.take s) s HTL.out hs1 hs7)
        have HA : Hid (ab 4 (gi l 0) = -1) := by
          rw [Hid]
          simp only [ab]
          rw [if_neg (by omega), if_pos trivial]
          omega
        rw [HA.out, ← HR.out]
        have ht : s = 1 ∨ s = 2 ∨ s = 3 ∨ s = 4 ∨ s = 5 ∨ s = 6 ∨ s = 7 := by omega
        rcases ht with rfl | rfl | rfl | rfl | rfl | rfl | rfl
        · by_cases hcc : c = 1
          · have hll : l.drop 1 = [] := List.drop_eq_nil_iff.2 (by omega)
            rw [hll]
            have HCC := Lib.hid hcc
            clear hll htail hld
            subst hcc
            go_enter Try.func29, Try.ntmps29
            go_wp2_with (first
              | (go_at_call 40; refine (take_at _ l _ 1 _ (by exact hrow) (by rfl) hsl' (by omega)).mono ?_; rintro e w1 ⟨rfl, rfl⟩)
              | (go_at_call 12; refine (copyBytes_any _ [] _ (by exact Row.zero _ _ _ (by omega) (by simp [maxLen])) (by simp)).mono ?_; rintro e w2 ⟨v2, rfl, ho2, he2⟩))
            go_ret3
            refine Ret.mk ⟨_, congrArg (fun z : Int => Value.tuple #[.int .i64 z, _, _]) ?_, ho2⟩ he2
            rw [IntWalk.i64_left]
            exact congrArg (fun z : Int => wrap64 (bits .or .u64 (bu _) z)) (by decide +kernel)
          · go_enter Try.func29, Try.ntmps29
            go_wp2_with (first
              | (go_at_call 40; refine (take_at _ l _ 1 _ (by exact hrow) (by rfl) hsl' (by omega)).mono ?_; rintro e w1 ⟨rfl, rfl⟩)
              | (go_at_call 12; refine (copyBytes_any _ (l.drop 1) _ (by exact htail) hld).mono ?_; rintro e w2 ⟨v2, rfl, ho2, he2⟩))
            go_ret3
            refine Ret.mk ⟨_, congrArg (fun z : Int => Value.tuple #[.int .i64 z, _, _]) ?_, ho2⟩ he2
            rw [IntWalk.i64_left]
            exact congrArg (fun z : Int => wrap64 (bits .or .u64 (bu _) z)) (by decide +kernel)
        · by_cases hcc : c = 2
          · have hll : l.drop 2 = [] := List.drop_eq_nil_iff.2 (by omega)
            rw [hll]
            have HCC := Lib.hid hcc
            clear hll htail hld
            subst hcc
            go_enter Try.func29, Try.ntmps29
            go_wp2_with (first
              | (go_at_call 40; refine (take_at _ l _ 2 _ (by exact hrow) (by rfl) hsl' (by omega)).mono ?_; rintro e w1 ⟨rfl, rfl⟩)
              | (go_at_call 12; refine (copyBytes_any _ [] _ (by exact Row.zero _ _ _ (by omega) (by simp [maxLen])) (by simp)).mono ?_; rintro e w2 ⟨v2, rfl, ho2, he2⟩))
            go_ret3
            refine Ret.mk ⟨_, congrArg (fun z : Int => Value.tuple #[.int .i64 z, _, _]) ?_, ho2⟩ he2
            rw [IntWalk.i64_left]
            exact congrArg (fun z : Int => wrap64 (bits .or .u64 (bu _) z)) (by decide +kernel)
          · go_enter Try.func29, Try.ntmps29
            go_wp2_with (first
              | (go_at_call 40; refine (take_at _ l _ 2 _ (by exact hrow) (by rfl) hsl' (by omega)).mono ?_; rintro e w1 ⟨rfl, rfl⟩)
              | (go_at_call 12; refine (copyBytes_any _ (l.drop 2) _ (by exact htail) hld).mono ?_; rintro e w2 ⟨v2, rfl, ho2, he2⟩))
            go_ret3
            refine Ret.mk ⟨_, congrArg (fun z : Int => Value.tuple #[.int .i64 z, _, _]) ?_, ho2⟩ he2
            rw [IntWalk.i64_left]
            exact congrArg (fun z : Int => wrap64 (bits .or .u64 (bu _) z)) (by decide +kernel)
        · by_cases hcc : c = 3
          · have hll : l.drop 3 = [] := List.drop_eq_nil_iff.2 (by omega)
            rw [hll]
            have HCC := Lib.hid hcc
            clear hll htail hld
            subst hcc
            go_enter Try.func29, Try.ntmps29
            go_wp2_with (first
              | (go_at_call 40; refine (take_at _ l _ 3 _ (by exact hrow) (by rfl) hsl' (by omega)).mono ?_; rintro e w1 ⟨rfl, rfl⟩)
              | (go_at_call 12; refine (copyBytes_any _ [] _ (by exact Row.zero _ _ _ (by omega) (by simp [maxLen])) (by simp)).mono ?_; rintro e w2 ⟨v2, rfl, ho2, he2⟩))
            go_ret3
            refine Ret.mk ⟨_, congrArg (fun z : Int => Value.tuple #[.int .i64 z, _, _]) ?_, ho2⟩ he2
            rw [IntWalk.i64_left]
            exact congrArg (fun z : Int => wrap64 (bits .or .u64 (bu _) z)) (by decide +kernel)
          · go_enter Try.func29, Try.ntmps29
            go_wp2_with (first
              | (go_at_call 40; refine (take_at _ l _ 3 _ (by exact hrow) (by rfl) hsl' (by omega)).mono ?_; rintro e w1 ⟨rfl, rfl⟩)
              | (go_at_call 12; refine (copyBytes_any _ (l.drop 3) _ (by exact htail) hld).mono ?_; rintro e w2 ⟨v2, rfl, ho2, he2⟩))
            go_ret3
            refine Ret.mk ⟨_, congrArg (fun z : Int => Value.tuple #[.int .i64 z, _, _]) ?_, ho2⟩ he2
            rw [IntWalk.i64_left]
            exact congrArg (fun z : Int => wrap64 (bits .or .u64 (bu _) z)) (by decide +kernel)
        · by_cases hcc : c = 4
          · have hll : l.drop 4 = [] := List.drop_eq_nil_iff.2 (by omega)
            rw [hll]
            have HCC := Lib.hid hcc
            clear hll htail hld
            subst hcc
            go_enter Try.func29, Try.ntmps29
            go_wp2_with (first
              | (go_at_call 40; refine (take_at _ l _ 4 _ (by exact hrow) (by rfl) hsl' (by omega)).mono ?_; rintro e w1 ⟨rfl, rfl⟩)
              | (go_at_call 12; refine (copyBytes_any _ [] _ (by exact Row.zero _ _ _ (by omega) (by simp [maxLen])) (by simp)).mono ?_; rintro e w2 ⟨v2, rfl, ho2, he2⟩))
            go_ret3
            refine Ret.mk ⟨_, congrArg (fun z : Int => Value.tuple #[.int .i64 z, _, _]) ?_, ho2⟩ he2
            rw [IntWalk.i64_left]
            exact congrArg (fun z : Int => wrap64 (bits .or .u64 (bu _) z)) (by decide +kernel)
          · go_enter Try.func29, Try.ntmps29
            go_wp2_with (first
              | (go_at_call 40; refine (take_at _ l _ 4 _ (by exact hrow) (by rfl) hsl' (by omega)).mono ?_; rintro e w1 ⟨rfl, rfl⟩)
              | (go_at_call 12; refine (copyBytes_any _ (l.drop 4) _ (by exact htail) hld).mono ?_; rintro e w2 ⟨v2, rfl, ho2, he2⟩))
            go_ret3
            refine Ret.mk ⟨_, congrArg (fun z : Int => Value.tuple #[.int .i64 z, _, _]) ?_, ho2⟩ he2
            rw [IntWalk.i64_left]
            exact congrArg (fun z : Int => wrap64 (bits .or .u64 (bu _) z)) (by decide +kernel)
        · by_cases hcc : c = 5
          · have hll : l.drop 5 = [] := List.drop_eq_nil_iff.2 (by omega)
            rw [hll]
            have HCC := Lib.hid hcc
            clear hll htail hld
            subst hcc
            go_enter Try.func29, Try.ntmps29
            go_wp2_with (first
              | (go_at_call 40; refine (take_at _ l _ 5 _ (by exact hrow) (by rfl) hsl' (by omega)).mono ?_; rintro e w1 ⟨rfl, rfl⟩)
              | (go_at_call 12; refine (copyBytes_any _ [] _ (by exact Row.zero _ _ _ (by omega) (by simp [maxLen])) (by simp)).mono ?_; rintro e w2 ⟨v2, rfl, ho2, he2⟩))
            go_ret3
            refine Ret.mk ⟨_, congrArg (fun z : Int => Value.tuple #[.int .i64 z, _, _]) ?_, ho2⟩ he2
            rw [IntWalk.i64_left]
            exact congrArg (fun z : Int => wrap64 (bits .or .u64 (bu _) z)) (by decide +kernel)
          · go_enter Try.func29, Try.ntmps29
            go_wp2_with (first
              | (go_at_call 40; refine (take_at _ l _ 5 _ (by exact hrow) (by rfl) hsl' (by omega)).mono ?_; rintro e w1 ⟨rfl, rfl⟩)
              | (go_at_call 12; refine (copyBytes_any _ (l.drop 5) _ (by exact htail) hld).mono ?_; rintro e w2 ⟨v2, rfl, ho2, he2⟩))
            go_ret3
            refine Ret.mk ⟨_, congrArg (fun z : Int => Value.tuple #[.int .i64 z, _, _]) ?_, ho2⟩ he2
            rw [IntWalk.i64_left]
            exact congrArg (fun z : Int => wrap64 (bits .or .u64 (bu _) z)) (by decide +kernel)
        · by_cases hcc : c = 6
          · have hll : l.drop 6 = [] := List.drop_eq_nil_iff.2 (by omega)
            rw [hll]
            have HCC := Lib.hid hcc
            clear hll htail hld
            subst hcc
            go_enter Try.func29, Try.ntmps29
            go_wp2_with (first
              | (go_at_call 40; refine (take_at _ l _ 6 _ (by exact hrow) (by rfl) hsl' (by omega)).mono ?_; rintro e w1 ⟨rfl, rfl⟩)
              | (go_at_call 12; refine (copyBytes_any _ [] _ (by exact Row.zero _ _ _ (by omega) (by simp [maxLen])) (by simp)).mono ?_; rintro e w2 ⟨v2, rfl, ho2, he2⟩))
            go_ret3
            refine Ret.mk ⟨_, congrArg (fun z : Int => Value.tuple #[.int .i64 z, _, _]) ?_, ho2⟩ he2
            rw [IntWalk.i64_left]
            exact congrArg (fun z : Int => wrap64 (bits .or .u64 (bu _) z)) (by decide +kernel)
          · go_enter Try.func29, Try.ntmps29
            go_wp2_with (first
              | (go_at_call 40; refine (take_at _ l _ 6 _ (by exact hrow) (by rfl) hsl' (by omega)).mono ?_; rintro e w1 ⟨rfl, rfl⟩)
              | (go_at_call 12; refine (copyBytes_any _ (l.drop 6) _ (by exact htail) hld).mono ?_; rintro e w2 ⟨v2, rfl, ho2, he2⟩))
            go_ret3
            refine Ret.mk ⟨_, congrArg (fun z : Int => Value.tuple #[.int .i64 z, _, _]) ?_, ho2⟩ he2
            rw [IntWalk.i64_left]
            exact congrArg (fun z : Int => wrap64 (bits .or .u64 (bu _) z)) (by decide +kernel)
        · by_cases hcc : c = 7
          · have hll : l.drop 7 = [] := List.drop_eq_nil_iff.2 (by omega)
            rw [hll]
            have HCC := Lib.hid hcc
            clear hll htail hld
            subst hcc
            go_enter Try.func29, Try.ntmps29
            go_wp2_with (first
              | (go_at_call 40; refine (take_at _ l _ 7 _ (by exact hrow) (by rfl) hsl' (by omega)).mono ?_; rintro e w1 ⟨rfl, rfl⟩)
              | (go_at_call 12; refine (copyBytes_any _ [] _ (by exact Row.zero _ _ _ (by omega) (by simp [maxLen])) (by simp)).mono ?_; rintro e w2 ⟨v2, rfl, ho2, he2⟩))
            go_ret3
            refine Ret.mk ⟨_, congrArg (fun z : Int => Value.tuple #[.int .i64 z, _, _]) ?_, ho2⟩ he2
            rw [IntWalk.i64_left]
            exact congrArg (fun z : Int => wrap64 (bits .or .u64 (bu _) z)) (by decide +kernel)
          · go_enter Try.func29, Try.ntmps29
            go_wp2_with (first
              | (go_at_call 40; refine (take_at _ l _ 7 _ (by exact hrow) (by rfl) hsl' (by omega)).mono ?_; rintro e w1 ⟨rfl, rfl⟩)
              | (go_at_call 12; refine (copyBytes_any _ (l.drop 7) _ (by exact htail) hld).mono ?_; rintro e w2 ⟨v2, rfl, ho2, he2⟩))
            go_ret3
            refine Ret.mk ⟨_, congrArg (fun z : Int => Value.tuple #[.int .i64 z, _, _]) ?_, ho2⟩ he2
            rw [IntWalk.i64_left]
            exact congrArg (fun z : Int => wrap64 (bits .or .u64 (bu _) z)) (by decide +kernel)
      · have HE : Hid (bf (ab 4 (gi l 0)) (l.take s) = IntKind.i64.wrap (bu (l.take s))) := by
          rw [Hid, bu_bf]
          by_cases hg : 128 ≤ gi l 0
          · exact bf_eight _ (by have := HTL.out; omega) _ (by have := ab_bound 4 (gi l 0) (by omega); omega)
          · have e : ab 4 (gi l 0) = 0 := by
              simp only [ab]
              rw [if_neg (by omega), if_pos trivial]
              omega
            rw [e]
        rw [HE.out]
        by_cases hg : 128 ≤ gi l 0
        · have hs8 : 8 ≤ s := by omega
          clear hneg
          by_cases hcc : c = s
          · have hll : l.drop s = [] := List.drop_eq_nil_iff.2 (by omega)
            rw [hll]
            have HCC := Lib.hid hcc
            clear hll htail hld
            subst hcc
            go_enter Try.func29, Try.ntmps29
            go_wp2_with (first
              | (go_at_call 40; refine (take_any _ l _ _ (by exact hrow) hsl' (by omega)).mono ?_; rintro e w1 ⟨rfl, rfl⟩)
              | (go_at_call 12; refine (copyBytes_any _ [] _ (by exact Row.zero _ _ _ (by omega) (by simp [maxLen])) (by simp)).mono ?_; rintro e w2 ⟨v2, rfl, ho2, he2⟩))
            go_ret3
            exact Ret.mk ⟨_, congrArg (fun z : Int => Value.tuple #[.int .i64 z, _, _]) (IntWalk.i64_left _).symm, ho2⟩ he2
          · go_enter Try.func29, Try.ntmps29
            go_wp2_with (first
              | (go_at_call 40; refine (take_any _ l _ _ (by exact hrow) hsl' (by omega)).mono ?_; rintro e w1 ⟨rfl, rfl⟩)
              | (go_at_call 12; refine (copyBytes_any _ (l.drop s) _ (by exact htail) hld).mono ?_; rintro e w2 ⟨v2, rfl, ho2, he2⟩))
            go_ret3
            exact Ret.mk ⟨_, congrArg (fun z : Int => Value.tuple #[.int .i64 z, _, _]) (IntWalk.i64_left _).symm, ho2⟩ he2
        · clear hneg
          by_cases hcc : c = s
          · have hll : l.drop s = [] := List.drop_eq_nil_iff.2 (by omega)
            rw [hll]
            have HCC := Lib.hid hcc
            clear hll htail hld
            subst hcc
            go_enter Try.func29, Try.ntmps29
            go_wp2_with (first
              | (go_at_call 40; refine (take_any _ l _ _ (by exact hrow) hsl' (by omega)).mono ?_; rintro e w1 ⟨rfl, rfl⟩)
              | (go_at_call 12; refine (copyBytes_any _ [] _ (by exact Row.zero _ _ _ (by omega) (by simp [maxLen])) (by simp)).mono ?_; rintro e w2 ⟨v2, rfl, ho2, he2⟩))
            go_ret3
            exact Ret.mk ⟨_, congrArg (fun z : Int => Value.tuple #[.int .i64 z, _, _]) (IntWalk.i64_left _).symm, ho2⟩ he2
          · go_enter Try.func29, Try.ntmps29
            go_wp2_with (first
              | (go_at_call 40; refine (take_any _ l _ _ (by exact hrow) hsl' (by omega)).mono ?_; rintro e w1 ⟨rfl, rfl⟩)
              | (go_at_call 12; refine (copyBytes_any _ (l.drop s) _ (by exact htail) hld).mono ?_; rintro e w2 ⟨v2, rfl, ho2, he2⟩))
            go_ret3
            exact Ret.mk ⟨_, congrArg (fun z : Int => Value.tuple #[.int .i64 z, _, _]) (IntWalk.i64_left _).symm, ho2⟩ he2
end Go.Proofs.Ytdjfdigaokokbaa
