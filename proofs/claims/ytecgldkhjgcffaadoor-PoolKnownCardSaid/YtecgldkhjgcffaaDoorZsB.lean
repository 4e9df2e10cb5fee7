/- Several texts of this proof, one behind the other. -/
import Derived.Test.YtecgldkhjgcffaaDoorZsA
import Derived.Laws.BitsAllLaws
import Derived.IntWalk
/- Numbers as bytes: plain mathematics, no program. -/
namespace Go.Proofs.YtecgldkhjgcffaaDoor

/-- What the bits above a highest byte are meant to be, in each way. -/
def ab (wy d : Int) : Int := if wy = 2 then -(d / 64 % 2) else if wy = 4 then -(d / 128) else 0
/-- The short bytes of a number, at most f. -/
def dg (wy : Int) : Nat → Int → List Int
  | 0, _ => []
  | f + 1, n => if n / 128 = ab wy (n % 128) then [n % 128] else (n % 128 + 128) :: dg wy f (n / 128)

/-- How far a number may be from 0 to have at most f + 1 digits. -/
def InB (wy : Int) (f : Nat) (n : Int) : Prop := -(128 ^ f : Int) ≤ n ∧ n < 128 ^ f ∧ (wy = 2 ∨ wy = 1 ∧ 0 ≤ n)

theorem ab_one (d : Int) : ab 1 d = 0 := rfl
theorem ab_two (d : Int) : ab 2 d = -(d / 64 % 2) := rfl

theorem InB.next {wy : Int} {f : Nat} {n : Int} (h : InB wy (f + 1) n) : InB wy f (n / 128) := by
  unfold InB at *
  rw [Int.pow_succ] at h
  omega
theorem InB.last {wy : Int} {n : Int} (h : InB wy 0 n) : n / 128 = ab wy (n % 128) := by
  unfold InB at h
  obtain ⟨h1, h2, h3⟩ := h
  rw [Int.pow_zero] at h1 h2
  rcases h3 with rfl | ⟨rfl, h3⟩
  · have : n = 0 ∨ n = -1 := by omega
    rcases this with rfl | rfl <;> rfl
  · have : n = 0 := by omega
    subst this
    rfl
theorem InB.start {wy : Int} {n : Int} (h1 : -9223372036854775808 ≤ n) (h2 : n ≤ 9223372036854775807) (h3 : wy = 2 ∨ wy = 1 ∧ 0 ≤ n) : InB wy 9 n := by
  unfold InB
  refine ⟨?_, ?_, h3⟩
  · show -(9223372036854775808 : Int) ≤ n
    exact h1
  · show n < (9223372036854775808 : Int)
    omega

theorem InB.bound {wy : Int} {f : Nat} {m : Int} (h : InB wy f m) (hf : f ≤ 9) : -9223372036854775808 ≤ m ∧ m ≤ 9223372036854775807 := by
  have e : (128 : Int) ^ f ≤ 128 ^ 9 := by exact_mod_cast Nat.pow_le_pow_right (show 0 < 128 by omega) hf
  have e9 : (128 : Int) ^ 9 = 9223372036854775808 := rfl
  unfold InB at h
  omega

/-- How far a number is from 0 and -1. -/
def magI (n : Int) : Nat := (if 0 ≤ n then n else -n - 1).toNat
def mag (v : Value) : Nat := magI (RowKit.intOf v)
theorem mag_lt {wy : Int} {f : Nat} {m : Int} (h : InB wy f m) (hc : ¬ m / 128 = ab wy (m % 128)) : mag (.int .i64 (m / 128)) < mag (.int .i64 m) := by
  have h3 := h.2.2
  have n0 : ¬ m = 0 := by
    rintro rfl
    apply hc
    rcases h3 with rfl | ⟨rfl, _⟩ <;> rfl
  have n1 : ¬ m = -1 := by
    rintro rfl
    apply hc
    rcases h3 with rfl | ⟨rfl, h⟩
    · rfl
    · omega
  show magI (m / 128) < magI m
  unfold magI
  by_cases h0 : 0 ≤ m
  · rw [if_pos h0, if_pos (by omega)]
    omega
  · rw [if_neg h0, if_neg (by omega)]
    omega

theorem and127 (m : Int) : bits .and .i64 m 127 = m % 128 := by
  show IntKind.i64.wrap ((BitVec.ofInt 64 m &&& BitVec.ofInt 64 127).toNat : Int) = _
  have h1 : (BitVec.ofInt 64 m &&& BitVec.ofInt 64 127).toNat = (BitVec.ofInt 64 m).toNat % 128 := by
    rw [BitVec.toNat_and]
    exact Nat.and_two_pow_sub_one_eq_mod _ 7
  rw [h1, BitVec.toNat_ofInt, IntKind.wrap_i64]
  omega
theorem or128 (d : Int) (h0 : 0 ≤ d) (h1 : d < 128) : bits .or .u8 d 128 = d + 128 := by
  have h : ∀ x : Fin 128, bits .or .u8 (x.val : Int) 128 = (x.val : Int) + 128 := by decide +kernel
  have := h ⟨d.toNat, by omega⟩
  rwa [show ((d.toNat : Nat) : Int) = d by omega] at this

theorem dg_last {wy m : Int} (f : Nat) (h : m / 128 = ab wy (m % 128)) : dg wy (f + 1) m = [m % 128] := by
  unfold dg
  rw [if_pos h]
theorem dg_step {wy m : Int} (f : Nat) (h : ¬ m / 128 = ab wy (m % 128)) : dg wy (f + 1) m = (m % 128 + 128) :: dg wy f (m / 128) := by
  rw [dg, if_neg h]

theorem dg_fit (wy : Int) : ∀ (f : Nat) (n : Int), Fit .u8 (dg wy f n) := by
  intro f
  induction f with
  | zero => exact fun n => Fit.nil _
  | succ f ih =>
    intro n x hx
    unfold dg at hx
    have hw : ∀ y : Int, 0 ≤ y → y ≤ 255 → (Lit.int .u8 y).wf = true := by
      intro y h0 h1
      simp [Lit.wf, IntKind.min, IntKind.max, IntKind.signed, IntKind.bits]
      omega
    by_cases h : n / 128 = ab wy (n % 128)
    · rw [if_pos h] at hx
      obtain rfl : x = n % 128 := by simpa using hx
      exact hw _ (by omega) (by omega)
    · rw [if_neg h] at hx
      rcases List.mem_cons.1 hx with rfl | hx
      · exact hw _ (by omega) (by omega)
      · exact ih _ x hx
theorem dg_len (wy : Int) : ∀ (f : Nat) (n : Int), (dg wy f n).length ≤ f := by
  intro f
  induction f with
  | zero => intro n; simp [dg]
  | succ f ih =>
    intro n
    unfold dg
    split
    · simp
    · have := ih (n / 128)
      simp
      omega

/-- How many bytes of 128 and more a list begins with. -/
def fb : List Int → Nat
  | [] => 0
  | x :: r => if x < 128 then 0 else fb r + 1
theorem fb_le : ∀ l : List Int, fb l ≤ l.length := by
  intro l
  induction l with
  | nil => simp [fb]
  | cons x r ih =>
    unfold fb
    split
    · simp
    · simp
      omega
theorem fb_ge : ∀ (l : List Int) (k : Nat), k ≤ l.length → (∀ j, j < k → 128 ≤ gi l j) → k ≤ fb l := by
  intro l
  induction l with
  | nil => intro k hk _; simp at hk; omega
  | cons x r ih =>
    intro k hk h
    match k with
    | 0 => omega
    | k + 1 =>
      have h0 : 128 ≤ x := h 0 (by omega)
      unfold fb
      rw [if_neg (by omega)]
      have := ih k (by simpa using hk) (fun j hj => h (j + 1) (by omega))
      omega
theorem fb_is : ∀ (l : List Int) (k : Nat), k < l.length → (∀ j, j < k → 128 ≤ gi l j) → gi l k < 128 → fb l = k := by
  intro l
  induction l with
  | nil => intro k hk; simp at hk
  | cons x r ih =>
    intro k hk h hlt
    match k with
    | 0 =>
      have h0 : x < 128 := hlt
      unfold fb
      rw [if_pos h0]
    | k + 1 =>
      have h0 : 128 ≤ x := h 0 (by omega)
      unfold fb
      rw [if_neg (by omega), ih k (by simpa using hk) (fun j hj => h (j + 1) (by omega)) hlt]
/-- How many bytes a short number has, of at most so many, and what is wrong. -/
def spn (most : Nat) (l : List Int) : Int × Int := if most ≤ fb l then (0, 4) else if fb l = l.length then (0, 3) else ((fb l : Int) + 1, 0)

theorem spn_most {most : Nat} {l : List Int} (h : most ≤ l.length) (hg : ∀ j, j < most → 128 ≤ gi l j) : spn most l = (0, 4) := by
  unfold spn
  rw [if_pos (fb_ge l most h hg)]
theorem spn_end {most : Nat} {l : List Int} (h : l.length < most) (hg : ∀ j, j < l.length → 128 ≤ gi l j) : spn most l = (0, 3) := by
  have h1 := fb_ge l l.length (by omega) hg
  have h2 := fb_le l
  unfold spn
  rw [if_neg (by omega), if_pos (by omega)]
theorem spn_ok {most k : Nat} {l : List Int} (h : k < l.length) (hm : k < most) (hg : ∀ j, j < k → 128 ≤ gi l j) (hk : gi l k < 128) : spn most l = ((k : Int) + 1, 0) := by
  have e := fb_is l k h hg hk
  unfold spn
  rw [e, if_neg (by omega), if_neg (by omega)]

/-- The number of a row, its highest bits given. -/
def wof (acc : Int) : List Int → Int
  | [] => acc
  | x :: r => IntKind.i64.wrap (wof acc r * 128 + x % 128)
def wo (wy : Int) (l : List Int) : Int := wof (ab wy (gi l (l.length - 1))) l
theorem wof_bound (acc : Int) (h : -9223372036854775808 ≤ acc ∧ acc ≤ 9223372036854775807) : ∀ l, -9223372036854775808 ≤ wof acc l ∧ wof acc l ≤ 9223372036854775807 := by
  intro l
  cases l with
  | nil => exact h
  | cons x r =>
    unfold wof
    rw [IntKind.wrap_i64]
    omega
theorem ab_bound (wy d : Int) (h : 0 ≤ d ∧ d ≤ 255) : -1 ≤ ab wy d ∧ ab wy d ≤ 0 := by
  unfold ab
  split
  · omega
  · split <;> omega
theorem wo_bound (wy : Int) (l : List Int) (hl : 0 < l.length) (hf : Fit .u8 l) : -9223372036854775808 ≤ wo wy l ∧ wo wy l ≤ 9223372036854775807 := by
  have h := hf.u8 (gi_mem (l := l) (j := l.length - 1) (by omega))
  have := ab_bound wy (gi l (l.length - 1)) (by omega)
  exact wof_bound _ (by omega) l
theorem drop_cons {l : List Int} {k : Nat} (h : k < l.length) : l.drop k = gi l k :: l.drop (k + 1) := by
  rw [List.drop_eq_getElem_cons h]
  simp [gi, h]
theorem wof_drop (acc : Int) {l : List Int} {k : Nat} (h : k < l.length) : wof acc (l.drop k) = IntKind.i64.wrap (wof acc (l.drop (k + 1)) * 128 + gi l k % 128) := by
  rw [drop_cons h, wof]
theorem or_shift (n d : Int) (h0 : 0 ≤ d) (h1 : d < 128) : bits .or .i64 (RowKit.wrap64 (n * 128)) d = IntKind.i64.wrap (n * 128 + d) := by
  rw [← IntWalk.i64_left]
  show IntKind.i64.wrap ((BitVec.ofInt 64 (IntKind.i64.wrap (n * 128)) ||| BitVec.ofInt 64 d).toNat : Int) = _
  have e1 : (BitVec.ofInt 64 (IntKind.i64.wrap (n * 128))).toNat = 2 ^ 7 * (n % 144115188075855872).toNat := by
    rw [BitVec.toNat_ofInt, IntKind.wrap_i64]
    omega
  have e2 : (BitVec.ofInt 64 d).toNat = d.toNat := by
    rw [BitVec.toNat_ofInt]
    omega
  rw [BitVec.toNat_or, e1, e2, ← Nat.two_pow_add_eq_or_of_lt (by omega), IntKind.wrap_i64, IntKind.wrap_i64]
  omega
theorem or_shift8 (n d : Int) (h0 : 0 ≤ d) (h1 : d < 256) : bits .or .i64 (RowKit.wrap64 (n * 256)) d = IntKind.i64.wrap (n * 256 + d) := by
  rw [← IntWalk.i64_left]
  show IntKind.i64.wrap ((BitVec.ofInt 64 (IntKind.i64.wrap (n * 256)) ||| BitVec.ofInt 64 d).toNat : Int) = _
  have e1 : (BitVec.ofInt 64 (IntKind.i64.wrap (n * 256))).toNat = 2 ^ 8 * (n % 72057594037927936).toNat := by
    rw [BitVec.toNat_ofInt, IntKind.wrap_i64]
    omega
  have e2 : (BitVec.ofInt 64 d).toNat = d.toNat := by
    rw [BitVec.toNat_ofInt]
    omega
  rw [BitVec.toNat_or, e1, e2, ← Nat.two_pow_add_eq_or_of_lt (by omega), IntKind.wrap_i64, IntKind.wrap_i64]
  omega
theorem and127u8 (x : Int) (h0 : 0 ≤ x) (h1 : x < 256) : bits .and .u8 x 127 = x % 128 := by
  have h : ∀ x : Fin 256, bits .and .u8 (x.val : Int) 127 = (x.val : Int) % 128 := by decide +kernel
  have := h ⟨x.toNat, by omega⟩
  rwa [show ((x.toNat : Nat) : Int) = x by omega] at this

def uS (n : Int) : List Int × Int := if n < 0 ∨ 9007199254740991 < n then ([], 9) else (dg 1 10 n, 0)
/-- A short number off the beginning of bytes: the number, what stands behind, and what is wrong. -/
def tS (most : Nat) (wy : Int) (l : List Int) : Int × List Int × Int :=
  if (spn most l).2 = 0 then
    (if l.take (fb l + 1) = dg wy 10 (wo wy (l.take (fb l + 1))) then (wo wy (l.take (fb l + 1)), l.drop (fb l + 1), 0) else (0, [], 4))
  else (0, [], (spn most l).2)
def tU (l : List Int) : Int × List Int × Int := if 9007199254740991 < (tS 8 1 l).1 then (0, [], 4) else tS 8 1 l

/-- The number of bytes, the highest one first. -/
def bf (acc : Int) (l : List Int) : Int := l.foldl (fun n b => IntKind.i64.wrap (n * 256 + b)) acc
def tB (most : Int) (wy : Int) (l : List Int) (size : Int) : Int × List Int × Int :=
  if size < 1 ∨ most < size then (0, [], 2) else if (l.length : Int) < size then (0, [], 3) else (bf (ab wy (gi l 0)) (l.take size.toNat), l.drop size.toNat, 0)
/-- A number in so many bytes. -/
def bg : Nat → Int → List Int
  | 0, _ => []
  | s + 1, n => (n / 256 ^ s % 256) :: bg s n
def ftB (n size : Int) : Bool := decide (size = 8 ∨ -(2 ^ (8 * size - 1).toNat) ≤ n ∧ n < 2 ^ (8 * size).toNat)
def bS (n size : Int) : List Int × Int := if size < 1 ∨ 8 < size then ([], 2) else if ftB n size then (bg size.toNat n, 0) else ([], 9)

theorem spn_two (most : Nat) (l : List Int) : (spn most l).2 = 4 ∨ (spn most l).2 = 3 ∨ (spn most l).2 = 0 := by
  unfold spn
  split
  · exact .inl rfl
  · split
    · exact .inr (.inl rfl)
    · exact .inr (.inr rfl)
theorem spn_zero {most : Nat} {l : List Int} (h : (spn most l).2 = 0) : spn most l = ((fb l : Int) + 1, 0) ∧ fb l < most ∧ fb l < l.length := by
  have hl := fb_le l
  unfold spn at *
  split at h
  · simp at h
  · rename_i h1
    split at h
    · simp at h
    · rename_i h2
      rw [if_neg h1, if_neg h2]
      exact ⟨rfl, by omega, by omega⟩
theorem tS_bad {most : Nat} {wy : Int} {l : List Int} (h : ¬ (spn most l).2 = 0) : tS most wy l = (0, [], (spn most l).2) := by
  unfold tS
  rw [if_neg h]
theorem wof_small : ∀ (l : List Int), l.length ≤ 8 → 0 ≤ wof 0 l ∧ wof 0 l < 128 ^ l.length := by
  intro l
  induction l with
  | nil => intro _; simp [wof]
  | cons x r ih =>
    intro h
    have h' : r.length ≤ 7 := by simpa using h
    obtain ⟨i1, i2⟩ := ih (by omega)
    have e : (128 : Int) ^ r.length ≤ 128 ^ 7 := by exact_mod_cast Nat.pow_le_pow_right (show 0 < 128 by omega) h'
    have e7 : (128 : Int) ^ 7 = 562949953421312 := rfl
    unfold wof
    rw [List.length_cons, Int.pow_succ, IntKind.wrap_i64]
    omega
theorem wo_one (l : List Int) (h : l.length ≤ 8) : 0 ≤ wo 1 l ∧ wo 1 l < 72057594037927936 := by
  obtain ⟨h1, h2⟩ := wof_small l h
  have e : (128 : Int) ^ l.length ≤ 128 ^ 8 := by exact_mod_cast Nat.pow_le_pow_right (show 0 < 128 by omega) h
  have e8 : (128 : Int) ^ 8 = 72057594037927936 := rfl
  unfold wo
  rw [ab_one]
  omega
end Go.Proofs.YtecgldkhjgcffaaDoor
/- The walks of package leb. -/
namespace Go.Proofs.YtecgldkhjgcffaaDoor
open Go.RowKit
set_option linter.unusedVariables false

theorem above_any (d wy : Int) (w : World) (h0 : 0 ≤ d) (h1 : d ≤ 255) (hw : wy = 1 ∨ wy = 2 ∨ wy = 3 ∨ wy = 4) :
    Calls Tryd.prog 96 #[.int .u8 d, .int .i64 wy] w fun e w' => e = .returned (.int .i64 (ab wy d)) ∧ w = w' := by
  rcases hw with rfl | rfl | rfl | rfl
  all_goals
    go_enter Tryd.func96, Tryd.ntmps96
    go_wp2
    go_ret
    refine ⟨congrArg (fun x : Int => Ending.returned (.int .i64 x)) ?_, rfl⟩
    simp [ab]
    try omega

theorem digits_any (n wy : Int) (w : World) (h : InB wy 9 n) (hl : -9223372036854775808 ≤ n) (hh : n ≤ 9223372036854775807) :
    Calls Tryd.prog 78 #[.int .i64 n, .int .i64 wy] w (Ret w (fun v' w' => Own w.heap.size w' 5 .u8 v' (dg wy 10 n))) := by
  go_enter Tryd.func78, Tryd.ntmps78
  go_wp2_with fail
  refine wp_scope_again 0 (fun a' w' => ∃ (f : Nat) (m : Int) (pre : List Int) (v u6 u7 u8 u9 u10 u11 u12 u13 u14 u15 u16 u17 u18 u19 u20 u21 u22 u23 u24 u25 : Value), a' = { tmps := #[.int .i64 m, .int .i64 wy, undef, undef, .slice none 0 0, v, u6, u7, u8, u9, u10, u11, u12, u13, u14, u15, u16, u17, u18, u19, u20, u21, u22, u23, u24, u25], defers := [] } ∧ Ext w w' ∧ Own w.heap.size w' 5 .u8 v pre ∧ f ≤ 9 ∧ pre.length + f = 9 ∧ InB wy f m ∧ Hid (dg wy 10 n = pre ++ dg wy (f + 1) m)) (fun a' _ => mag (a'.tmps.getD 0 undef)) rfl ?_ ?_
  · rintro a' w' ⟨f, m, pre, v, u6, u7, u8, u9, u10, u11, u12, u13, u14, u15, u16, u17, u18, u19, u20, u21, u22, u23, u24, u25, rfl, he, ho, hf, hpl, hb, HD⟩
    go_wp2_with fail
    have hd : 0 ≤ m % 128 ∧ m % 128 ≤ 255 := by omega
    have hwy : wy = 1 ∨ wy = 2 ∨ wy = 3 ∨ wy = 4 := by have := hb.2.2; omega
    have hm := hb.bound hf
    have ha := and127
    have ho128 := or128 (m % 128) (by omega) (by omega)
    have h256 : m % 128 % 256 = m % 128 := by omega
    have Hpl := Lib.hid hpl
    have hpl2 : pre.length ≤ 9 := by omega
    clear hpl
    by_cases hc : m / 128 = ab wy (m % 128)
    · have hcb : (m / 128 == ab wy (m % 128)) = true := by simpa using hc
      have Hc := Lib.hid hc
      clear hc ho128
      go_wp2_with (first
        | (go_at_call 96; refine (above_any _ _ _ (by omega) (by omega) (by omega)).mono ?_; rintro e w1 ⟨rfl, rfl⟩)
        | (at_builtin; go_loud (refine wpList_app _ rfl _ _ w.heap.size 22 5 _ 1 .u8 rfl Tryd.underlying22 info8 rfl (by omega) _ pre rfl (ho.ext ((Ext.refl _).alloc _)) _ [m % 128] rfl (Row.built1 _ _ _ _ (wf_u8 (by omega) (by omega))) (by simp; omega) (by have := he.size; simp; omega) ?_)))
      intro v' w2 ho2 hg2 _
      go_wp2
      simp only [Exit.jump]
      go_ret
      refine Ret.mk ?_ ((he.alloc _).grown hg2 ho.low)
      rw [HD.out, dg_last f Hc.out]
      exact ho2
    · have hcb : (m / 128 == ab wy (m % 128)) = false := by simpa using hc
      have Hc := Lib.hid hc
      clear hc
      have hf1 : ¬ f = 0 := by
        intro h0
        subst h0
        exact Hc.out hb.last
      go_wp2_with (first
        | (go_at_call 96; refine (above_any _ _ _ (by omega) (by omega) (by omega)).mono ?_; rintro e w1 ⟨rfl, rfl⟩)
        | (at_builtin; go_loud (refine wpList_app _ rfl _ _ w.heap.size 22 5 _ 1 .u8 rfl Tryd.underlying22 info8 rfl (by omega) _ pre rfl (ho.ext ((Ext.refl _).alloc _)) _ [m % 128 + 128] rfl (Row.built1 _ _ _ _ (wf_u8 (by omega) (by omega))) (by simp; omega) (by have := he.size; simp; omega) ?_)))
      intro v' w2 ho2 hg2 _
      go_wp2
      go_step3
      obtain ⟨f', rfl⟩ : ∃ f', f = f' + 1 := ⟨f - 1, by omega⟩
      refine ⟨rfl, ⟨f', m / 128, pre ++ [m % 128 + 128], _, _, _, _, _, _, _, _, _, _, _, _, _, _, _, _, _, _, _, _, _, rfl, (he.alloc _).grown hg2 ho.low, ho2, by omega, ?_, hb.next, ?_⟩, ?_⟩
      · have := Hpl.out
        simp
        omega
      · have e := HD.out
        rw [dg_step _ Hc.out] at e
        rw [Hid, e]
        simp
      · exact mag_lt hb Hc.out
  · intro key
    go_wp2_with fail
    rename_i K hK
    go_step3
    refine hK _ _ (key _ _ ⟨9, n, [], _, _, _, _, _, _, _, _, _, _, _, _, _, _, _, _, _, _, _, _, _, rfl, Ext.refl _, Own.nil _ _ _ _, by omega, rfl, h, rfl⟩)

theorem S_any (n : Int) (w : World) (hl : -9223372036854775808 ≤ n) (hh : n ≤ 9223372036854775807) :
    Calls Tryd.prog 63 #[.int .i64 n] w (Ret w (fun v' w' => Own w.heap.size w' 5 .u8 v' (dg 2 10 n))) := by
  go_enter Tryd.func63, Tryd.ntmps63
  go_wp2_with (go_at_call 78; refine (digits_any n 2 _ (InB.start hl hh (.inl rfl)) hl hh).mono ?_; rintro e w' ⟨v', rfl, ho, he⟩)
  go_ret
  exact Ret.mk ho he

/-- A row of bytes and an error's number. -/
def RowErr (w : World) (l : List Int) (x : Int) (v : Value) (w' : World) : Prop := ∃ b, v = .tuple #[b, .int .i64 x] ∧ Own w.heap.size w' 5 .u8 b l



theorem U_any (n : Int) (w : World) (hl : -9223372036854775808 ≤ n) (hh : n ≤ 9223372036854775807) :
    Calls Tryd.prog 61 #[.int .i64 n] w (Ret w (RowErr w (uS n).1 (uS n).2)) := by
  by_cases h0 : n < 0
  · have e : uS n = ([], 9) := by unfold uS; rw [if_pos (.inl h0)]
    rw [e]
    clear e
    go_enter Tryd.func61, Tryd.ntmps61
    go_wp2
    go_ret2
    exact Ret.mk ⟨_, rfl, Own.nil _ _ _ _⟩ (Ext.refl _)
  · by_cases h1 : 9007199254740991 < n
    · have e : uS n = ([], 9) := by unfold uS; rw [if_pos (.inr h1)]
      rw [e]
      clear e
      go_enter Tryd.func61, Tryd.ntmps61
      go_wp2
      go_ret2
      exact Ret.mk ⟨_, rfl, Own.nil _ _ _ _⟩ (Ext.refl _)
    · have e : uS n = (dg 1 10 n, 0) := by unfold uS; rw [if_neg (by omega)]
      rw [e]
      clear e
      go_enter Tryd.func61, Tryd.ntmps61
      go_wp2_with (go_at_call 78; refine (digits_any n 1 _ (InB.start hl hh (.inr ⟨rfl, by omega⟩)) hl hh).mono ?_; rintro e w' ⟨v', rfl, ho, he⟩)
      go_ret2
      exact Ret.mk ⟨_, rfl, ho⟩ he

theorem span_any (v : Value) (l : List Int) (most : Nat) (w : World) (h : Row w .u8 v l) (hm : most ≤ 10) :
    Calls Tryd.prog 91 #[v, .int .i64 most] w fun e w' => e = .returned (.tuple #[.int .i64 (spn most l).1, .int .i64 (spn most l).2]) ∧ w = w' := by
  obtain ⟨A, c, rfl, h2, h3, h4, h5, h6⟩ := h
  unfold maxLen at h3
  go_enter Tryd.func91, Tryd.ntmps91
  go_wp2_with fail
  refine wp_scope_again 0 (fun a' w' => ∃ (k : Nat) (u7 u8 u9 u10 u11 u12 u13 u14 u15 u16 u17 u18 u19 u20 u21 u22 : Value), a' = { tmps := #[.slice A l.length c, .int .i64 most, undef, undef, .int .i64 0, .int .i64 0, .int .i64 k, u7, u8, u9, u10, u11, u12, u13, u14, u15, u16, u17, u18, u19, u20, u21, u22], defers := [] } ∧ w = w' ∧ k ≤ most ∧ k ≤ l.length ∧ Hid (∀ j, j < k → 128 ≤ gi l j)) (fun a' _ => 10 - (intOf (a'.tmps.getD 6 undef)).toNat) rfl ?_ ?_
  · rintro a' w' ⟨k, u7, u8, u9, u10, u11, u12, u13, u14, u15, u16, u17, u18, u19, u20, u21, u22, rfl, rfl, hk, hkl, HG⟩
    by_cases hkm : k = most
    · subst hkm
      go_wp2
      simp only [Exit.jump]
      go_ret2
      rw [spn_most hkl HG.out]
      exact ⟨rfl, rfl⟩
    · have hb1 : ((k : Int) == (most : Int)) = false := by simp; omega
      by_cases hkn : k = l.length
      · have hb2 : ((k : Int) == (l.length : Int)) = true := by simp; omega
        have Hkn := Lib.hid hkn
        clear hkn
        go_wp2
        simp only [Exit.jump]
        go_ret2
        rw [spn_end (l := l) (most := most) (by have := Hkn.out; omega) (by rw [← Hkn.out]; exact HG.out)]
        exact ⟨rfl, rfl⟩
      · have hb2 : ((k : Int) == (l.length : Int)) = false := by simp; omega
        obtain ⟨b, o, rfl, hb, hx⟩ := h6 (by omega)
        have hy := hx k (by omega)
        have hfit := h5.u8 (gi_mem (l := l) (j := k) (by omega))
        have hkm' : k < most := by omega
        have hkn' : k < l.length := by omega
        clear hx h6 h4 hkm hkn
        by_cases hc : gi l k < 128
        · go_wp2
          simp only [Exit.jump]
          go_ret2
          rw [spn_ok hkn' hkm' HG.out hc]
          exact ⟨rfl, rfl⟩
        · go_wp2
          go_step3
          refine ⟨rfl, ⟨k + 1, _, _, _, _, _, _, _, _, _, _, _, _, _, _, _, _, by go_num, rfl, by omega, by omega, ?_⟩, ?_⟩
          · intro j hj
            by_cases hjk : j = k
            · subst hjk
              omega
            · exact HG.out j (by omega)
          · simp [intOf]
            omega
  · intro key
    go_wp2_with fail
    rename_i K hK
    go_step3
    exact hK _ _ (key _ _ ⟨0, _, _, _, _, _, _, _, _, _, _, _, _, _, _, _, _, rfl, rfl, by omega, by omega, fun j hj => by omega⟩)

theorem worth_any (v : Value) (l : List Int) (wy : Int) (w : World) (h : Row w .u8 v l) (hl : 0 < l.length) (hw : wy = 1 ∨ wy = 2 ∨ wy = 3 ∨ wy = 4) :
    Calls Tryd.prog 92 #[v, .int .i64 wy] w fun e w' => e = .returned (.int .i64 (wo wy l)) ∧ w = w' := by
  obtain ⟨A, c, rfl, h2, h3, h4, h5, h6⟩ := h
  unfold maxLen at h3
  obtain ⟨b, o, rfl, hb, hx⟩ := h6 hl
  have hlast := hx (l.length - 1) (by omega)
  have hfl := h5.u8 (gi_mem (l := l) (j := l.length - 1) (by omega))
  have HX := Lib.hid hx
  clear h6 h4 hx
  have hle : 1 ≤ l.length := hl
  have eix : ((l.length : Int) - 1).toNat = l.length - 1 := by omega
  go_enter Tryd.func92, Tryd.ntmps92
  go_wp2_with fail
  refine wp_scope_again 0 (fun a' w' => ∃ (k : Nat) (x : Int) (u7 u8 u9 u10 u11 u12 u13 u14 u15 u16 u17 u18 u19 u20 u21 u22 u23 u24 u25 u26 u27 u28 u29 : Value), a' = { tmps := #[.slice (some ⟨b, o, none⟩) l.length c, .int .i64 wy, undef, undef, .int .i64 0, .int .i64 k, .int .i64 x, u7, u8, u9, u10, u11, u12, u13, u14, u15, u16, u17, u18, u19, u20, u21, u22, u23, u24, u25, u26, u27, u28, u29], defers := [] } ∧ w = w' ∧ 0 < k ∧ k ≤ l.length ∧ Hid (x = wof (ab wy (gi l (l.length - 1))) (l.drop k))) (fun a' _ => (intOf (a'.tmps.getD 5 undef)).toNat) rfl ?_ ?_
  · rintro a' w' ⟨k, x, u7, u8, u9, u10, u11, u12, u13, u14, u15, u16, u17, u18, u19, u20, u21, u22, u23, u24, u25, u26, u27, u28, u29, rfl, rfl, hk, hkl, HO⟩
    obtain ⟨j, rfl⟩ : ∃ j, k = j + 1 := ⟨k - 1, by omega⟩
    have hy := HX.out j (by omega)
    have hf := h5.u8 (gi_mem (l := l) (j := j) (by omega))
    have hsh := or_shift x (gi l j % 128) (by omega) (by omega)
    have HN : Hid (wrap64 (x * 128 + gi l j % 128) = wof (ab wy (gi l (l.length - 1))) (l.drop j)) := by
      rw [Hid, wof_drop (l := l) (k := j) _ (by omega), ← HO.out, IntWalk.i64_left]
    rw [IntWalk.i64_left] at hsh
    have hand := and127u8 (gi l j) (by omega) (by omega)
    clear hlast eix
    by_cases hj0 : 0 < j
    · go_wp2
      go_step3
      refine ⟨rfl, ⟨j, _, _, _, _, _, _, _, _, _, _, _, _, _, _, _, _, _, _, _, _, _, _, _, _, rfl, rfl, by omega, by omega, HN⟩, by simp [intOf]⟩
    · have hj1 : j = 0 := by omega
      have hj2 : (0 < (j : Int)) = False := by simp; omega
      have Hj := Lib.hid hj1
      clear hj1
      go_wp2
      simp only [Exit.jump]
      go_ret
      have e := Hj.out
      subst e
      exact ⟨congrArg (fun z : Int => Ending.returned (.int .i64 z)) HN.out, rfl⟩
  · intro key
    go_wp2_with (go_at_call 96; refine (above_any _ _ _ (by omega) (by omega) (by omega)).mono ?_; rintro e w1 ⟨rfl, rfl⟩)
    rename_i K hK
    go_step3
    refine hK _ _ (key _ _ ⟨l.length, _, _, _, _, _, _, _, _, _, _, _, _, _, _, _, _, _, _, _, _, _, _, _, _, rfl, rfl, by omega, by omega, ?_⟩)
    rw [Hid, List.drop_length]
    rfl
end Go.Proofs.YtecgldkhjgcffaaDoor
/- The walks of package leb that take numbers off. -/
namespace Go.Proofs.YtecgldkhjgcffaaDoor
open Go.RowKit
set_option linter.unusedVariables false

/-- A number, a row of bytes, an error's number. -/
def RowTake (w : World) (r : Int × List Int × Int) (v : Value) (w' : World) : Prop := ∃ b, v = .tuple #[.int .i64 r.1, b, .int .i64 r.2.2] ∧ Own w.heap.size w' 5 .u8 b r.2.1

set_option maxHeartbeats 1000000 in
theorem takeShort_any (v : Value) (l : List Int) (most : Nat) (wy : Int) (w : World) (h : Row w .u8 v l) (hw : wy = 1 ∧ most = 8 ∨ wy = 2 ∧ most = 10) (hr : l.length ≤ 140737488355328) :
    Calls Tryd.prog 75 #[v, .int .i64 most, .int .i64 wy] w (Ret w (RowTake w (tS most wy l))) := by
  by_cases hs : (spn most l).2 = 0
  · obtain ⟨hsp, hk1, hk2⟩ := spn_zero hs
    have hrow := h
    obtain ⟨A, c, rfl, h2, h3, h4, h5, h6⟩ := h
    unfold maxLen at h3
    obtain ⟨b, o, rfl, hb, hx⟩ := h6 (by omega)
    have HS := Lib.hid hsp
    obtain ⟨k, hk⟩ : ∃ k, k = fb l := ⟨_, rfl⟩
    rw [← hk] at hk1 hk2 HS
    have Hk := Lib.hid hk
    have hhead := hrow.head (k + 1) (by omega)
    have HT := Lib.hid hs
    have hle : k + 1 ≤ l.length := by omega
    clear hs hsp hx h6 h4 hk
    have hn0 : (k : Int) + 1 ≤ (l.length : Int) := by omega
    have htl : (l.take (k + 1)).length = k + 1 := by simp; omega
    have hwb := wo_bound wy (l.take (k + 1)) (by omega) (h5.take _)
    have hin : InB wy 9 (wo wy (l.take (k + 1))) := by
      refine InB.start hwb.1 hwb.2 ?_
      rcases hw with ⟨rfl, hm⟩ | ⟨rfl, hm⟩
      · exact .inr ⟨rfl, (wo_one _ (by omega)).1⟩
      · exact .inl rfl
    have hwy : wy = 1 ∨ wy = 2 ∨ wy = 3 ∨ wy = 4 := by omega
    have htS : tS most wy l = if l.take (k + 1) = dg wy 10 (wo wy (l.take (k + 1))) then (wo wy (l.take (k + 1)), l.drop (k + 1), 0) else (0, [], 4) := by
      rw [Hk.out]
      unfold tS
      rw [if_pos HT.out]
    by_cases hd : l.take (k + 1) = dg wy 10 (wo wy (l.take (k + 1)))
    · rw [if_pos hd] at htS
      rw [htS]
      have HD := Lib.hid hd
      have HL := Lib.hid htl
      clear hd htS htl HT Hk
      have htail := hrow.tail (k + 1) hle
      by_cases hcc : c = k + 1
      · have hll : l.drop (k + 1) = [] := List.drop_eq_nil_iff.2 (by omega)
        have HLL := Lib.hid hll
        clear hll htail
        have Hcc := Lib.hid hcc
        have hcl : l.length ≤ k + 1 := by omega
        clear hcc
        go_enter Tryd.func75, Tryd.ntmps75
        go_wp2_with (first
          | (go_at_call 91; refine (span_any _ l most _ hrow (by omega)).mono ?_; rintro e w1 ⟨rfl, rfl⟩; rw [HS.out])
          | (go_at_call 92; refine (worth_any _ _ wy _ hhead (by have := HL.out; omega) hwy).mono ?_; rintro e w1 ⟨rfl, rfl⟩)
          | (go_at_call 78; refine (digits_any _ wy _ hin hwb.1 hwb.2).mono ?_; rintro e w1 ⟨v1, rfl, ho1, he1⟩)
          | (go_at_call 93; refine (equal_any _ _ _ _ _ (by exact hhead.ext he1) (by exact ho1.row)).mono ?_; rintro e w2 ⟨rfl, rfl⟩; rw [decide_eq_true HD.out])
          | (go_at_call 57; refine (clone_any _ [] _ (by exact Row.none_ _ _ _) (by simp)).mono ?_; rintro e w2 ⟨v2, rfl, ho2, he2⟩))
        go_ret3
        refine Ret.mk ⟨_, rfl, ?_⟩ (he1.trans he2)
        rw [HLL.out]
        exact ho2.base he1.size
      · have hcc' : ¬ c = k + 1 := hcc
        go_enter Tryd.func75, Tryd.ntmps75
        go_wp2_with (first
          | (go_at_call 91; refine (span_any _ l most _ hrow (by omega)).mono ?_; rintro e w1 ⟨rfl, rfl⟩; rw [HS.out])
          | (go_at_call 92; refine (worth_any _ _ wy _ hhead (by have := HL.out; omega) hwy).mono ?_; rintro e w1 ⟨rfl, rfl⟩)
          | (go_at_call 78; refine (digits_any _ wy _ hin hwb.1 hwb.2).mono ?_; rintro e w1 ⟨v1, rfl, ho1, he1⟩)
          | (go_at_call 93; refine (equal_any _ _ _ _ _ (by exact hhead.ext he1) (by exact ho1.row)).mono ?_; rintro e w2 ⟨rfl, rfl⟩; rw [decide_eq_true HD.out])
          | (go_at_call 57; go_loud (refine (clone_any _ (l.drop (k + 1)) _ (by exact htail.ext he1) (by simp; omega)).mono ?_); rintro e w2 ⟨v2, rfl, ho2, he2⟩))
        go_ret3
        exact Ret.mk ⟨_, rfl, ho2.base he1.size⟩ (he1.trans he2)
    · rw [if_neg hd] at htS
      rw [htS]
      have HD := Lib.hid hd
      have HL := Lib.hid htl
      clear hd htS htl HT Hk
      go_enter Tryd.func75, Tryd.ntmps75
      go_wp2_with (first
        | (go_at_call 91; refine (span_any _ l most _ hrow (by omega)).mono ?_; rintro e w1 ⟨rfl, rfl⟩; rw [HS.out])
        | (go_at_call 92; refine (worth_any _ _ wy _ hhead (by have := HL.out; omega) hwy).mono ?_; rintro e w1 ⟨rfl, rfl⟩)
        | (go_at_call 78; refine (digits_any _ wy _ hin hwb.1 hwb.2).mono ?_; rintro e w1 ⟨v1, rfl, ho1, he1⟩)
        | (go_at_call 93; refine (equal_any _ _ _ _ _ (by exact hhead.ext he1) (by exact ho1.row)).mono ?_; rintro e w2 ⟨rfl, rfl⟩; rw [decide_eq_false HD.out]))
      go_ret3
      exact Ret.mk ⟨_, rfl, Own.nil _ _ _ _⟩ he1
  · rw [tS_bad hs]
    obtain ⟨x, hx⟩ : ∃ x, x = (spn most l).2 := ⟨_, rfl⟩
    have h1 : (spn most l).1 = 0 := by
      unfold spn at *
      split
      · rfl
      · split
        · rfl
        · rename_i h1 h2
          rw [if_neg h1, if_neg h2] at hs
          exact absurd rfl hs
    rw [← hx] at hs ⊢
    have H1 : Hid (spn most l = (0, x)) := by rw [Hid, hx, ← h1]
    have hb : (x != 0) = true := by simp [hs]
    clear hx h1 hs
    go_enter Tryd.func75, Tryd.ntmps75
    go_wp2_with (first
      | (go_at_call 91; refine (span_any _ l most _ h (by omega)).mono ?_; rintro e w1 ⟨rfl, rfl⟩; rw [H1.out]))
    go_ret3
    exact Ret.mk ⟨_, rfl, Own.nil _ _ _ _⟩ (Ext.refl _)

theorem takeShort_at (v : Value) (l : List Int) (m : Int) (most : Nat) (wy : Int) (w : World) (h : Row w .u8 v l) (he : m = (most : Int)) (hw : wy = 1 ∧ most = 8 ∨ wy = 2 ∧ most = 10) (hr : l.length ≤ 140737488355328) :
    Calls Tryd.prog 75 #[v, .int .i64 m, .int .i64 wy] w (Ret w (RowTake w (tS most wy l))) := by
  subst he
  exact takeShort_any v l most wy w h hw hr

theorem tS_rest (most : Nat) (wy : Int) (l : List Int) : (tS most wy l).1 = 0 ∨ (tS most wy l).2.2 = 0 := by
  unfold tS
  split
  · split
    · exact .inr rfl
    · exact .inl rfl
  · exact .inl rfl

theorem TakeS_any (v : Value) (l : List Int) (w : World) (h : Row w .u8 v l) (hr : l.length ≤ 140737488355328) :
    Calls Tryd.prog 72 #[v] w (Ret w (RowTake w (tS 10 2 l))) := by
  go_enter Tryd.func72, Tryd.ntmps72
  go_wp2_with (first
    | (go_at_call 75; refine (takeShort_at _ l 10 10 2 _ h rfl (by omega) hr).mono ?_; rintro e w1 ⟨v1, rfl, ⟨b1, rfl, ho1⟩, he1⟩))
  go_ret3
  exact Ret.mk ⟨_, rfl, ho1⟩ he1

theorem TakeU_any (v : Value) (l : List Int) (w : World) (h : Row w .u8 v l) (hr : l.length ≤ 140737488355328) :
    Calls Tryd.prog 54 #[v] w (Ret w (RowTake w (tU l))) := by
  by_cases hb : 9007199254740991 < (tS 8 1 l).1
  · have e : tU l = (0, [], 4) := by unfold tU; rw [if_pos hb]
    rw [e]
    clear e
    go_enter Tryd.func54, Tryd.ntmps54
    go_wp2_with (first
      | (go_at_call 75; refine (takeShort_at _ l 8 8 1 _ h rfl (by omega) hr).mono ?_; rintro e w1 ⟨v1, rfl, ⟨b1, rfl, ho1⟩, he1⟩))
    go_ret3
    exact Ret.mk ⟨_, rfl, Own.nil _ _ _ _⟩ he1
  · have e : tU l = tS 8 1 l := by unfold tU; rw [if_neg hb]
    rw [e]
    clear e
    go_enter Tryd.func54, Tryd.ntmps54
    go_wp2_with (first
      | (go_at_call 75; refine (takeShort_at _ l 8 8 1 _ h rfl (by omega) hr).mono ?_; rintro e w1 ⟨v1, rfl, ⟨b1, rfl, ho1⟩, he1⟩))
    go_ret3
    exact Ret.mk ⟨_, rfl, ho1⟩ he1
end Go.Proofs.YtecgldkhjgcffaaDoor
/- Numbers as bytes: what follows from how they are written: plain mathematics, no program. -/
namespace Go.Proofs.YtecgldkhjgcffaaDoor

/-- The last number of a list. -/
def lst (l : List Int) : Int := gi l (l.length - 1)
theorem lst_one (x : Int) : lst [x] = x := rfl
theorem lst_cons (x : Int) {l : List Int} (h : 0 < l.length) : lst (x :: l) = lst l := by
  unfold lst
  obtain ⟨n, hn⟩ : ∃ n, l.length = n + 1 := ⟨l.length - 1, by omega⟩
  rw [List.length_cons, hn]
  rfl
theorem dg_pos (wy : Int) (f : Nat) (n : Int) : 0 < (dg wy (f + 1) n).length := by
  unfold dg
  split <;> simp
theorem gi_zero (x : Int) (l : List Int) : gi (x :: l) 0 = x := rfl
theorem gi_succ (x : Int) (l : List Int) (j : Nat) : gi (x :: l) (j + 1) = gi l j := rfl

/-- All bytes of a short number but the last one are 128 and more; that one is less. -/
theorem dg_more (wy : Int) : ∀ (f : Nat) (n : Int), InB wy f n → fb (dg wy (f + 1) n) + 1 = (dg wy (f + 1) n).length := by
  intro f
  induction f with
  | zero =>
    intro n h
    rw [dg_last 0 h.last]
    have : n % 128 < 128 := by omega
    simp [fb, this]
  | succ f ih =>
    intro n h
    by_cases hc : n / 128 = ab wy (n % 128)
    · rw [dg_last _ hc]
      have : n % 128 < 128 := by omega
      simp [fb, this]
    · rw [dg_step _ hc]
      have := ih (n / 128) h.next
      have h1 : ¬ n % 128 + 128 < 128 := by omega
      simp only [fb, if_neg h1, List.length_cons]
      omega
theorem fb_append {l : List Int} (r : List Int) : fb l + 1 ≤ l.length → fb (l ++ r) = fb l := by
  induction l with
  | nil => intro h; simp at h
  | cons x l ih =>
    intro h
    unfold fb at h ⊢
    rw [List.cons_append]
    by_cases hx : x < 128
    · simp [hx]
    · simp only [hx, if_false, List.length_cons] at h ⊢
      rw [ih (by omega)]
theorem fb_take : ∀ (l : List Int) (k : Nat), k ≤ fb l → fb (l.take k) = k := by
  intro l
  induction l with
  | nil => intro k h; simp [fb] at h ⊢; omega
  | cons x l ih =>
    intro k h
    match k with
    | 0 => simp [fb]
    | k + 1 =>
      unfold fb at h
      by_cases hx : x < 128
      · simp [hx] at h
      · simp only [hx, if_false] at h
        rw [List.take_succ_cons]
        simp only [fb, hx, if_false]
        rw [ih k (by omega)]
/-- A short number's bytes tell it. -/
theorem wof_dg (wy : Int) : ∀ (f : Nat) (n : Int), f ≤ 9 → InB wy f n → wof (ab wy (lst (dg wy (f + 1) n))) (dg wy (f + 1) n) = n := by
  intro f
  induction f with
  | zero =>
    intro n _ h
    have hb := h.bound (by omega)
    rw [dg_last 0 h.last, lst_one, ← h.last]
    simp only [wof]
    rw [IntKind.wrap_i64]
    omega
  | succ f ih =>
    intro n hf h
    have hb := h.bound hf
    by_cases hc : n / 128 = ab wy (n % 128)
    · rw [dg_last _ hc, lst_one, ← hc]
      simp only [wof]
      rw [IntKind.wrap_i64]
      omega
    · rw [dg_step _ hc, lst_cons _ (dg_pos wy f _)]
      have := ih (n / 128) (by omega) h.next
      simp only [wof]
      rw [this, IntKind.wrap_i64]
      omega
theorem wo_dg {wy n : Int} (h : InB wy 9 n) : wo wy (dg wy 10 n) = n := wof_dg wy 9 n (by omega) h

/-- What was written is read, and what stands behind it is left. -/
theorem tS_dg {most : Nat} {wy n : Int} (h : InB wy 9 n) (hm : (dg wy 10 n).length ≤ most) (r : List Int) : tS most wy (dg wy 10 n ++ r) = (n, r, 0) := by
  have h1 : fb (dg wy 10 n) + 1 = (dg wy 10 n).length := dg_more wy 9 n h
  have h2 : fb (dg wy 10 n ++ r) = fb (dg wy 10 n) := fb_append r (by omega)
  have h3 : fb (dg wy 10 n) + 1 = (dg wy 10 n).length := h1
  have hs : spn most (dg wy 10 n ++ r) = ((fb (dg wy 10 n) : Int) + 1, 0) := by
    unfold spn
    rw [h2, if_neg (by omega), if_neg (by simp; omega)]
  have ht : (dg wy 10 n ++ r).take (fb (dg wy 10 n) + 1) = dg wy 10 n := by rw [h3, List.take_left]
  have hd : (dg wy 10 n ++ r).drop (fb (dg wy 10 n) + 1) = r := by rw [h3, List.drop_left]
  unfold tS
  rw [hs, h2, ht, hd, wo_dg h, if_pos rfl, if_pos rfl]
/-- Cut, they end too early. -/
theorem tS_cut {most : Nat} {wy n : Int} (h : InB wy 9 n) (hm : (dg wy 10 n).length ≤ most) {k : Nat} (hk : k < (dg wy 10 n).length) : tS most wy ((dg wy 10 n).take k) = (0, [], 3) := by
  have h1 : fb (dg wy 10 n) + 1 = (dg wy 10 n).length := dg_more wy 9 n h
  have h2 := fb_take (dg wy 10 n) k (by omega)
  have hl : ((dg wy 10 n).take k).length = k := by simp; omega
  have hs : spn most ((dg wy 10 n).take k) = (0, 3) := by
    unfold spn
    rw [h2, hl, if_neg (by omega), if_pos rfl]
  rw [tS_bad (by rw [hs]; decide), hs]

/-- How long a short number from 0 on is. -/
theorem dg_one_len : ∀ (f : Nat) (g : Nat) (n : Int), 0 ≤ n → n < 128 ^ (g + 1) → (dg 1 f n).length ≤ g + 1 := by
  intro f
  induction f with
  | zero => intro g n _ _; simp [dg]
  | succ f ih =>
    intro g n h0 h1
    by_cases hc : n / 128 = ab 1 (n % 128)
    · rw [dg_last _ hc]
      simp
    · rw [dg_step _ hc]
      rw [ab_one] at hc
      match g with
      | 0 => simp at h1; omega
      | g + 1 =>
        rw [Int.pow_succ] at h1
        have := ih g (n / 128) (by omega) (by omega)
        simp
        omega
theorem dg_one_eight {n : Int} (h0 : 0 ≤ n) (h1 : n ≤ 9007199254740991) : (dg 1 10 n).length ≤ 8 := by
  refine dg_one_len 10 7 n h0 ?_
  show n < (72057594037927936 : Int)
  omega

/-- In how many steps of seven bits nothing but a sign is left. -/
def szs : Nat → Int → Nat
  | 0, _ => 0
  | f + 1, n => if -64 ≤ n ∧ n ≤ 63 then 1 else szs f (n / 128) + 1
theorem szs_end {f : Nat} {m : Int} (h : -64 ≤ m ∧ m ≤ 63) : szs (f + 1) m = 1 := by rw [szs, if_pos h]
theorem szs_next {f : Nat} {m : Int} (h : ¬ (-64 ≤ m ∧ m ≤ 63)) : szs (f + 1) m = szs f (m / 128) + 1 := by rw [szs, if_neg h]
theorem ends_two (n : Int) : n / 128 = ab 2 (n % 128) ↔ -64 ≤ n ∧ n ≤ 63 := by
  rw [ab_two]
  omega
theorem dg_szs : ∀ (f : Nat) (n : Int), (dg 2 f n).length = szs f n := by
  intro f
  induction f with
  | zero => intro n; rfl
  | succ f ih =>
    intro n
    unfold szs
    by_cases hc : -64 ≤ n ∧ n ≤ 63
    · rw [dg_last _ ((ends_two n).2 hc), if_pos hc]
      rfl
    · rw [dg_step _ (fun h => hc ((ends_two n).1 h)), if_neg hc, List.length_cons, ih]

/-- What is read is what would be written. -/
theorem tS_ok {most : Nat} {wy : Int} {l : List Int} (h : (tS most wy l).2.2 = 0) : dg wy 10 (tS most wy l).1 ++ (tS most wy l).2.1 = l := by
  unfold tS at *
  split at h
  · rename_i hs
    rw [if_pos hs]
    split at h
    · rename_i hd
      rw [if_pos hd]
      simp only
      rw [← hd, List.take_append_drop]
    · simp at h
  · rename_i hs
    simp at h
    exact absurd h hs
theorem tS_err {most : Nat} {wy : Int} {l : List Int} (h : ¬ (tS most wy l).2.2 = 0) : (tS most wy l).1 = 0 ∧ (tS most wy l).2.1 = [] ∧ ((tS most wy l).2.2 = 3 ∨ (tS most wy l).2.2 = 4) := by
  have h2 := spn_two most l
  unfold tS at *
  split
  · rename_i hs
    rw [if_pos hs] at h
    split
    · rename_i hd
      rw [if_pos hd] at h
      simp at h
    · simp
  · simp only
    refine ⟨trivial, trivial, ?_⟩
    rename_i hs
    omega
theorem tS_range {wy : Int} {most : Nat} {l : List Int} (hf : Fit .u8 l) : -9223372036854775808 ≤ (tS most wy l).1 ∧ (tS most wy l).1 ≤ 9223372036854775807 := by
  unfold tS
  split
  · rename_i hs
    have := spn_zero hs
    split
    · exact wo_bound wy _ (by simp; omega) (hf.take _)
    · simp
  · simp
theorem tU_ok {l : List Int} (h : (tU l).2.2 = 0) : uS (tU l).1 = (dg 1 10 (tU l).1, 0) ∧ dg 1 10 (tU l).1 ++ (tU l).2.1 = l := by
  unfold tU at *
  split at h
  · simp at h
  · rename_i hb
    rw [if_neg hb]
    refine ⟨?_, tS_ok h⟩
    have h0 : 0 ≤ (tS 8 1 l).1 := by
      unfold tS
      split
      · rename_i hs
        have := spn_zero hs
        split
        · exact (wo_one _ (by simp; omega)).1
        · simp
      · simp
    unfold uS
    rw [if_neg (by omega)]
theorem tU_err {l : List Int} (h : ¬ (tU l).2.2 = 0) : (tU l).1 = 0 ∧ (tU l).2.1 = [] := by
  unfold tU at *
  split
  · exact ⟨rfl, rfl⟩
  · rename_i hb
    rw [if_neg hb] at h
    have := tS_err h
    exact ⟨this.1, this.2.1⟩
theorem tU_dg {n : Int} (h0 : 0 ≤ n) (h1 : n ≤ 9007199254740991) (r : List Int) : tU (dg 1 10 n ++ r) = (n, r, 0) := by
  have hin : InB 1 9 n := InB.start (by omega) (by omega) (.inr ⟨rfl, h0⟩)
  unfold tU
  rw [tS_dg hin (dg_one_eight h0 h1), if_neg (by simp; omega)]
theorem tU_cut {n : Int} (h0 : 0 ≤ n) (h1 : n ≤ 9007199254740991) {k : Nat} (hk : k < (dg 1 10 n).length) : tU ((dg 1 10 n).take k) = (0, [], 3) := by
  have hin : InB 1 9 n := InB.start (by omega) (by omega) (.inr ⟨rfl, h0⟩)
  unfold tU
  rw [tS_cut hin (dg_one_eight h0 h1) hk, if_neg (by simp)]
theorem uS_ok {n : Int} (h0 : 0 ≤ n) (h1 : n ≤ 9007199254740991) : uS n = (dg 1 10 n, 0) := by
  unfold uS
  rw [if_neg (by omega)]

/-- No short number's bytes are the beginning of another one's. -/
theorem dg_apart {wy n m : Int} (hn : InB wy 9 n) (hm : InB wy 9 m) (h : dg wy 10 m <+: dg wy 10 n) : n = m := by
  obtain ⟨r, hr⟩ := h
  have h1 := tS_dg (most := 10) hn (dg_len wy 10 n) []
  have h2 := tS_dg (most := 10) hm (dg_len wy 10 m) r
  rw [List.append_nil, ← hr, h2] at h1
  exact (congrArg Prod.fst h1).symm

/-- The number of bytes, the highest one first: what was written is read. -/
theorem bg_len : ∀ (s : Nat) (n : Int), (bg s n).length = s := by
  intro s
  induction s with
  | zero => intro n; rfl
  | succ s ih => intro n; simp [bg, ih]
theorem bg_fit : ∀ (s : Nat) (n : Int), Fit .u8 (bg s n) := by
  intro s
  induction s with
  | zero => intro n; exact Fit.nil _
  | succ s ih =>
    intro n x hx
    unfold bg at hx
    rcases List.mem_cons.1 hx with rfl | hx
    · exact wf_u8 (by omega) (by omega)
    · exact ih n x hx
theorem wrap_mul (a b c : Int) : IntKind.i64.wrap (IntKind.i64.wrap a * b + c) = IntKind.i64.wrap (a * b + c) := by
  rw [IntKind.wrap_i64, IntKind.wrap_i64, IntKind.wrap_i64]
  have h : ((a + 9223372036854775808) % 18446744073709551616 - 9223372036854775808) = a - 18446744073709551616 * ((a + 9223372036854775808) / 18446744073709551616) := by omega
  rw [h, Int.sub_mul, Int.mul_assoc]
  have h2 : a * b - 18446744073709551616 * ((a + 9223372036854775808) / 18446744073709551616 * b) + c + 9223372036854775808 = (a * b + c + 9223372036854775808) + 18446744073709551616 * (-((a + 9223372036854775808) / 18446744073709551616 * b)) := by
    rw [Int.mul_neg]
    omega
  rw [h2, Int.add_mul_emod_self_left]
theorem emod_is {n m k r : Int} (h : n = k * m + r) (h0 : 0 ≤ r) (h1 : r < m) : n % m = r := by
  rw [h, Int.add_comm, Int.add_mul_emod_self_right]
  exact Int.emod_eq_of_lt h0 h1
theorem emod_two (n p : Int) (hp : 0 < p) : n % (p * 256) = n / p % 256 * p + n % p := by
  have h1 := Int.emod_add_mul_ediv n p
  have h2 := Int.emod_add_mul_ediv (n / p) 256
  have h3 : 0 ≤ n % p := Int.emod_nonneg n (by omega)
  have h4 : n % p < p := Int.emod_lt_of_pos n hp
  have h5 : 0 ≤ n / p % 256 * p := Int.mul_nonneg (by omega) (by omega)
  have h6 : n / p % 256 * p ≤ 255 * p := Int.mul_le_mul_of_nonneg_right (by omega) (by omega)
  refine emod_is (k := n / p / 256) ?_ (by omega) (by omega)
  have e : p * (n / p) = p * (n / p % 256) + p * 256 * (n / p / 256) := by
    rw [Int.mul_assoc, ← Int.mul_add, h2]
  rw [Int.mul_comm (n / p / 256), Int.mul_comm (n / p % 256)]
  omega
theorem bf_bg : ∀ (s : Nat) (acc n : Int), IntKind.i64.wrap (bf acc (bg s n)) = IntKind.i64.wrap (acc * 256 ^ s + n % 256 ^ s) := by
  intro s
  induction s with
  | zero =>
    intro acc n
    simp [bg, bf, Int.emod_one]
  | succ s ih =>
    intro acc n
    have e : bf acc (bg (s + 1) n) = bf (IntKind.i64.wrap (acc * 256 + n / 256 ^ s % 256)) (bg s n) := rfl
    have hp : (256 : Int) ^ (s + 1) = 256 ^ s * 256 := Int.pow_succ 256 s
    have hpos : (0 : Int) < 256 ^ s := Int.pow_pos (by omega)
    have hm : n % 256 ^ (s + 1) = n / 256 ^ s % 256 * 256 ^ s + n % 256 ^ s := by
      rw [hp]
      exact emod_two n _ hpos
    rw [e, ih, wrap_mul, hm, hp]
    congr 1
    rw [Int.add_mul, Int.mul_assoc, Int.mul_comm 256 (256 ^ s)]
    omega
theorem bf_range : ∀ (l : List Int) (acc : Int), -9223372036854775808 ≤ acc ∧ acc ≤ 9223372036854775807 → -9223372036854775808 ≤ bf acc l ∧ bf acc l ≤ 9223372036854775807 := by
  intro l
  induction l with
  | nil => intro acc h; exact h
  | cons x r ih =>
    intro acc h
    have e : bf acc (x :: r) = bf (IntKind.i64.wrap (acc * 256 + x)) r := rfl
    rw [e]
    refine ih _ ?_
    rw [IntKind.wrap_i64]
    omega
theorem gi_app {l : List Int} (r : List Int) {j : Nat} (h : j < l.length) : gi (l ++ r) j = gi l j := by
  unfold gi
  rw [List.getD_eq_getElem?_getD, List.getD_eq_getElem?_getD, List.getElem?_append_left h]
theorem bg_first (s : Nat) (n : Int) (r : List Int) : gi (bg (s + 1) n ++ r) 0 = n / 256 ^ s % 256 := by
  rw [gi_app r (by rw [bg_len]; omega)]
  rfl
theorem tB_bg (most wy : Int) (s : Nat) (n : Int) (r : List Int) (h1 : 1 ≤ s) (h2 : (s : Int) ≤ most) : tB most wy (bg s n ++ r) s = (bf (ab wy (gi (bg s n ++ r) 0)) (bg s n), r, 0) := by
  have hl := bg_len s n
  have ht : (bg s n ++ r).take s = bg s n := by
    have : (bg s n ++ r).take (bg s n).length = bg s n := List.take_left
    rwa [hl] at this
  have hd : (bg s n ++ r).drop s = r := by
    have : (bg s n ++ r).drop (bg s n).length = r := List.drop_left
    rwa [hl] at this
  unfold tB
  rw [if_neg (by omega), if_neg (by rw [List.length_append, hl]; omega), Int.toNat_natCast, ht, hd]
/-- With a sign it is the number, or one below 0 in place of one from 0 on. -/
theorem tB_sign (s : Nat) (n : Int) (r : List Int) (h1 : 1 ≤ s) (h2 : s ≤ 8) (hl : -9223372036854775808 ≤ n) (hh : n ≤ 9223372036854775807) (hf : ftB n s = true) :
    ∃ c, tB 8 4 (bg s n ++ r) s = (c, r, 0) ∧ (c = n ∨ c < 0 ∧ 0 ≤ n) := by
  obtain ⟨t, rfl⟩ : ∃ t, s = t + 1 := ⟨s - 1, by omega⟩
  refine ⟨_, tB_bg 8 4 (t + 1) n r (by omega) (by omega), ?_⟩
  rw [bg_first]
  have hb := bf_range (bg (t + 1) n) (ab 4 (n / 256 ^ t % 256)) (by have := ab_bound 4 (n / 256 ^ t % 256) (by omega); omega)
  have hw := bf_bg (t + 1) (ab 4 (n / 256 ^ t % 256)) n
  rw [IntKind.wrap_i64, IntKind.wrap_i64] at hw
  generalize bf (ab 4 (n / 256 ^ t % 256)) (bg (t + 1) n) = c at *
  have ht : t = 0 ∨ t = 1 ∨ t = 2 ∨ t = 3 ∨ t = 4 ∨ t = 5 ∨ t = 6 ∨ t = 7 := by omega
  rcases ht with rfl | rfl | rfl | rfl | rfl | rfl | rfl | rfl <;> simp [ftB, ab] at hf hw <;> omega
theorem tB_plain (s : Nat) (n : Int) (r : List Int) (h1 : 1 ≤ s) (h2 : s ≤ 7) (h0 : 0 ≤ n) (hh : n ≤ 9223372036854775807) (hf : ftB n s = true) : tB 7 3 (bg s n ++ r) s = (n, r, 0) := by
  rw [tB_bg 7 3 s n r h1 (by omega)]
  have hb := bf_range (bg s n) 0 (by omega)
  have hw := bf_bg s 0 n
  rw [IntKind.wrap_i64, IntKind.wrap_i64] at hw
  have e : bf (ab 3 (gi (bg s n ++ r) 0)) (bg s n) = n := by
    show bf 0 (bg s n) = n
    generalize bf 0 (bg s n) = c at *
    have ht : s = 1 ∨ s = 2 ∨ s = 3 ∨ s = 4 ∨ s = 5 ∨ s = 6 ∨ s = 7 := by omega
    rcases ht with rfl | rfl | rfl | rfl | rfl | rfl | rfl <;> simp [ftB] at hf hw <;> omega
  rw [e]
theorem tB_some (s : Nat) (n z : Int) (r : List Int) (h1 : 1 ≤ z) (h2 : z ≤ 7) (h3 : z ≤ s) : ∃ d t, tB 7 3 (bg s n ++ r) z = (d, t, 0) := by
  unfold tB
  rw [if_neg (by omega), if_neg (by rw [List.length_append, bg_len]; omega)]
  exact ⟨_, _, rfl⟩

theorem tB_short (most wy s : Int) (l : List Int) (h1 : 1 ≤ s) (h2 : s ≤ most) (h3 : (l.length : Int) < s) : tB most wy l s = (0, [], 3) := by
  unfold tB
  rw [if_neg (by omega), if_pos h3]
/-- Which of two lists comes first: -1, 0, 1. -/
def cmpI : List Int → List Int → Int
  | [], [] => 0
  | [], _ :: _ => -1
  | _ :: _, [] => 1
  | a :: ra, b :: rb => if a < b then -1 else if b < a then 1 else cmpI ra rb
theorem pow_pos256 (s : Nat) : (0 : Int) < 256 ^ s := Int.pow_pos (by omega)
theorem cmpI_bg : ∀ (s : Nat) (a b : Int), (cmpI (bg s a) (bg s b) < 0 ↔ a % 256 ^ s < b % 256 ^ s) ∧ (cmpI (bg s a) (bg s b) = 0 ↔ a % 256 ^ s = b % 256 ^ s) := by
  intro s
  induction s with
  | zero =>
    intro a b
    simp [bg, cmpI, Int.emod_one]
  | succ s ih =>
    intro a b
    have hp := pow_pos256 s
    have ea := emod_two a _ hp
    have eb := emod_two b _ hp
    have a1 := Int.emod_nonneg a (show (256 : Int) ^ s ≠ 0 by omega)
    have a2 := Int.emod_lt_of_pos a hp
    have b1 := Int.emod_nonneg b (show (256 : Int) ^ s ≠ 0 by omega)
    have b2 := Int.emod_lt_of_pos b hp
    rw [Int.pow_succ, ea, eb]
    simp only [bg, cmpI]
    obtain ⟨i1, i2⟩ := ih a b
    generalize a / 256 ^ s % 256 = x at *
    generalize b / 256 ^ s % 256 = y at *
    generalize (256 : Int) ^ s = P at *
    by_cases h1 : x < y
    · rw [if_pos h1]
      have : (x + 1) * P ≤ y * P := Int.mul_le_mul_of_nonneg_right (by omega) (by omega)
      rw [Int.add_mul] at this
      refine ⟨⟨fun _ => by omega, fun _ => by omega⟩, ⟨fun h => by omega, fun h => by omega⟩⟩
    · rw [if_neg h1]
      by_cases h2 : y < x
      · rw [if_pos h2]
        have : (y + 1) * P ≤ x * P := Int.mul_le_mul_of_nonneg_right (by omega) (by omega)
        rw [Int.add_mul] at this
        refine ⟨⟨fun _ => by omega, fun _ => by omega⟩, ⟨fun h => by omega, fun h => by omega⟩⟩
      · rw [if_neg h2]
        have hxy : x = y := by omega
        subst hxy
        refine ⟨⟨fun h => ?_, fun h => i1.2 (by omega)⟩, ⟨fun h => ?_, fun h => i2.2 (by omega)⟩⟩
        · have := i1.1 h
          omega
        · have := i2.1 h
          omega
theorem cmpI_order (s : Nat) (a b : Int) (a0 : 0 ≤ a) (a1 : a < 256 ^ s) (b0 : 0 ≤ b) (b1 : b < 256 ^ s) : decide (cmpI (bg s a) (bg s b) < 0) = decide (a < b) ∧ (cmpI (bg s a) (bg s b) == 0) = (a == b) := by
  obtain ⟨h1, h2⟩ := cmpI_bg s a b
  rw [Int.emod_eq_of_lt a0 a1, Int.emod_eq_of_lt b0 b1] at h1 h2
  refine ⟨by rw [decide_eq_decide]; exact h1, ?_⟩
  rw [Bool.eq_iff_iff, beq_iff_eq, beq_iff_eq]
  exact h2
theorem cmpI_range : ∀ (l m : List Int), cmpI l m = -1 ∨ cmpI l m = 0 ∨ cmpI l m = 1 := by
  intro l
  induction l with
  | nil => intro m; cases m <;> simp [cmpI]
  | cons a l ih =>
    intro m
    cases m with
    | nil => simp [cmpI]
    | cons b m =>
      simp only [cmpI]
      split
      · exact .inl rfl
      · split
        · exact .inr (.inr rfl)
        · exact ih m
end Go.Proofs.YtecgldkhjgcffaaDoor
/- Numbers in so many bytes, of 64 bits: plain mathematics. -/
namespace Go.Proofs.YtecgldkhjgcffaaDoor
open Go.RowKit
set_option linter.unusedVariables false

/-- A row of bytes as a number from 0 on, of 64 bits. -/
def bu (l : List Int) : Int := l.foldl (fun n b => IntKind.u64.wrap (n * 256 + b)) 0
theorem bu_step {l : List Int} {k : Nat} (h : k < l.length) : bu (l.take (k + 1)) = IntKind.u64.wrap (bu (l.take k) * 256 + gi l k) := by
  rw [List.take_succ_eq_append_getElem h]
  unfold bu
  rw [List.foldl_append]
  simp [gi, h]
theorem wrap_both (n : Int) : IntKind.i64.wrap (IntKind.u64.wrap n) = IntKind.i64.wrap n := by
  rw [IntKind.wrap_u64, IntKind.wrap_i64, IntKind.wrap_i64]
  omega
theorem bu_bf_ : ∀ (l : List Int) (a c : Int), IntKind.i64.wrap a = IntKind.i64.wrap c → IntKind.i64.wrap (l.foldl (fun n b => IntKind.u64.wrap (n * 256 + b)) a) = IntKind.i64.wrap (bf c l) := by
  intro l
  induction l with
  | nil => intro a c h; exact h
  | cons x l ih =>
    intro a c h
    refine ih _ _ ?_
    show IntKind.i64.wrap (IntKind.u64.wrap (a * 256 + x)) = IntKind.i64.wrap (IntKind.i64.wrap (c * 256 + x))
    rw [wrap_both, ← wrap_mul a 256 x, h, wrap_mul, IntKind.wrap_i64, IntKind.wrap_i64]
    omega
theorem bu_bf (l : List Int) : IntKind.i64.wrap (bu l) = bf 0 l := by
  have h := bu_bf_ l 0 0 rfl
  have hb := bf_range l 0 (by omega)
  have e : IntKind.i64.wrap (bf 0 l) = bf 0 l := by
    rw [IntKind.wrap_i64]
    omega
  rw [e] at h
  exact h
theorem or_shift_u (n d : Int) (h0 : 0 ≤ d) (h1 : d < 256) : bits .or .u64 (IntKind.u64.wrap (n * 256)) d = IntKind.u64.wrap (n * 256 + d) := by
  show IntKind.u64.wrap ((BitVec.ofInt 64 (IntKind.u64.wrap (n * 256)) ||| BitVec.ofInt 64 d).toNat : Int) = _
  have e1 : (BitVec.ofInt 64 (IntKind.u64.wrap (n * 256))).toNat = 2 ^ 8 * (n % 72057594037927936).toNat := by
    rw [BitVec.toNat_ofInt, IntKind.wrap_u64]
    omega
  have e2 : (BitVec.ofInt 64 d).toNat = d.toNat := by
    rw [BitVec.toNat_ofInt]
    omega
  rw [BitVec.toNat_or, e1, e2, ← Nat.two_pow_add_eq_or_of_lt (by omega), IntKind.wrap_u64, IntKind.wrap_u64]
  omega

theorem bf_shift : ∀ (l : List Int) (a d : Int), IntKind.i64.wrap (bf (a + d) l) = IntKind.i64.wrap (bf a l + d * 256 ^ l.length) := by
  have go : ∀ (l : List Int) (a b d : Int), IntKind.i64.wrap b = IntKind.i64.wrap (a + d) → IntKind.i64.wrap (bf b l) = IntKind.i64.wrap (bf a l + d * 256 ^ l.length) := by
    intro l
    induction l with
    | nil => intro a b d h; simpa [bf] using h
    | cons x l ih =>
      intro a b d h
      have e := ih (IntKind.i64.wrap (a * 256 + x)) (IntKind.i64.wrap (b * 256 + x)) (d * 256) (by
        rw [IntKind.wrap_i64, IntKind.wrap_i64, IntKind.wrap_i64, IntKind.wrap_i64]
        rw [IntKind.wrap_i64, IntKind.wrap_i64] at h
        omega)
      rw [List.length_cons, Int.pow_succ, Int.mul_comm (256 ^ l.length) 256, ← Int.mul_assoc]
      exact e
  intro l a d
  exact go l a (a + d) d rfl
theorem lt_eq {a b c : Int} (h : a < b) (e : b = c) : a < c := e ▸ h
theorem pow256_le {k : Nat} (h : k ≤ 6) : (256 : Int) ^ k ≤ 281474976710656 := by
  have ht : k = 0 ∨ k = 1 ∨ k = 2 ∨ k = 3 ∨ k = 4 ∨ k = 5 ∨ k = 6 := by omega
  rcases ht with rfl | rfl | rfl | rfl | rfl | rfl | rfl <;> decide
theorem bu_small : ∀ (l : List Int), Fit .u8 l → l.length ≤ 7 → 0 ≤ bu l ∧ bu l < 256 ^ l.length := by
  have go : ∀ (l : List Int) (a : Int) (k : Nat), Fit .u8 l → k + l.length ≤ 7 → 0 ≤ a → a < 256 ^ k → 0 ≤ l.foldl (fun n b => IntKind.u64.wrap (n * 256 + b)) a ∧ l.foldl (fun n b => IntKind.u64.wrap (n * 256 + b)) a < 256 ^ (k + l.length) := by
    intro l
    induction l with
    | nil => intro a k _ _ h0 h1; exact ⟨h0, h1⟩
    | cons x l ih =>
      intro a k hf hk h0 h1
      have hx := hf.u8 (List.mem_cons_self)
      have hk' : k ≤ 6 := by simp at hk; omega
      have e := pow256_le hk'
      have hw : IntKind.u64.wrap (a * 256 + x) = a * 256 + x := by
        rw [IntKind.wrap_u64]
        omega
      have := ih (a * 256 + x) (k + 1) (fun y hy => hf y (List.mem_cons_of_mem _ hy)) (by simp at hk; omega) (by omega) (by rw [Int.pow_succ]; omega)
      simp only [List.foldl_cons, List.length_cons]
      rw [hw, show k + (l.length + 1) = k + 1 + l.length by omega]
      exact this
  intro l hf hl
  have := go l 0 0 hf (by omega) (by omega) (by simp)
  simpa [bu] using this
theorem or_high (x : Int) (i k : Nat) (h0 : 0 ≤ x) (h1 : x < (2 ^ i : Nat)) (h2 : 2 ^ i * k + 2 ^ i ≤ 18446744073709551616) : bits .or .u64 x ((2 ^ i * k : Nat) : Int) = x + ((2 ^ i * k : Nat) : Int) := by
  have hx : x.toNat < 2 ^ i := by omega
  show IntKind.u64.wrap ((BitVec.ofInt 64 x ||| BitVec.ofInt 64 ((2 ^ i * k : Nat) : Int)).toNat : Int) = _
  have e1 : (BitVec.ofInt 64 x).toNat = x.toNat := by
    rw [BitVec.toNat_ofInt]
    generalize 2 ^ i * k = q at *
    generalize 2 ^ i = p at *
    omega
  have e2 : (BitVec.ofInt 64 ((2 ^ i * k : Nat) : Int)).toNat = 2 ^ i * k := by
    rw [BitVec.toNat_ofInt]
    generalize 2 ^ i * k = q at *
    generalize 2 ^ i = p at *
    omega
  rw [BitVec.toNat_or, e1, e2, Nat.or_comm, ← Nat.two_pow_add_eq_or_of_lt hx, IntKind.wrap_u64]
  generalize 2 ^ i * k = q at *
  generalize 2 ^ i = p at *
  omega
/-- With a sign: what the highest byte's bit adds. -/
theorem bf_sign (l : List Int) (hf : Fit .u8 l) (s : Nat) (hs : l.length = s) (h1 : 1 ≤ s) (h7 : s ≤ 7) : IntKind.i64.wrap (bits .or .u64 (bu l) ((2 ^ (8 * s) * (2 ^ (64 - 8 * s) - 1) : Nat) : Int)) = bf (-1) l := by
  obtain ⟨b0, b1⟩ := bu_small l hf (by omega)
  have hb := bf_range l (-1) (by omega)
  have e := bf_shift l 0 (-1)
  have e2 := bu_bf l
  rw [hs] at e b1
  have ht : s = 1 ∨ s = 2 ∨ s = 3 ∨ s = 4 ∨ s = 5 ∨ s = 6 ∨ s = 7 := by omega
  rw [show (0 : Int) + -1 = -1 from rfl, ← e2] at e
  rcases ht with rfl | rfl | rfl | rfl | rfl | rfl | rfl
  all_goals
    rw [or_high _ _ _ b0 (lt_eq b1 (by decide)) (by decide)]
    rw [IntKind.wrap_i64, IntKind.wrap_i64] at e
    rw [IntKind.wrap_i64] at e
    rw [IntKind.wrap_i64]
    generalize bu l = x at *
    omega
theorem bf_eight (l : List Int) (hl : l.length = 8) (a : Int) (ha : -9223372036854775808 ≤ a ∧ a ≤ 9223372036854775807) : bf a l = bf 0 l := by
  have h1 := bf_shift l 0 a
  have h2 := bf_range l a ha
  have h3 := bf_range l 0 (by omega)
  rw [hl, Int.zero_add, show (256 : Int) ^ 8 = 18446744073709551616 from rfl] at h1
  rw [IntKind.wrap_i64, IntKind.wrap_i64] at h1
  omega
end Go.Proofs.YtecgldkhjgcffaaDoor
