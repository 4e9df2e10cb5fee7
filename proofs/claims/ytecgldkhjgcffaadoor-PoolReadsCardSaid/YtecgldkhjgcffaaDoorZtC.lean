/- Several texts of this proof, one behind the other. -/
import Derived.Test.YtecgldkhjgcffaaDoorZtB
import Derived.Test.YtecgldkhjgcffaaDoorZtA
import Derived.Deep.RegionWith
/- The document's answers of layer 1, walked. -/
namespace Go.Proofs.YtecgldkhjgcffaaDoor
open Go.RowKit
set_option linter.unusedVariables false

set_option maxHeartbeats 1000000 in
theorem refU_any (n : Int) (w : World) (hl : -9223372036854775808 ≤ n) (hh : n ≤ 9223372036854775807) :
    Calls Tryd.prog 64 #[.int .i64 n] w (Ret w (RowErr w (uS n).1 (uS n).2)) := by
  by_cases h0 : n < 0
  · have e : uS n = ([], 9) := by unfold uS; rw [if_pos (.inl h0)]
    rw [e]
    clear e
    go_enter Tryd.func64, Tryd.ntmps64
    go_wp2
    go_ret2
    exact Ret.mk ⟨_, rfl, Own.nil _ _ _ _⟩ (Ext.refl _)
  · by_cases h1 : 9007199254740991 < n
    · have e : uS n = ([], 9) := by unfold uS; rw [if_pos (.inr h1)]
      rw [e]
      clear e
      go_enter Tryd.func64, Tryd.ntmps64
      go_wp2
      go_ret2
      exact Ret.mk ⟨_, rfl, Own.nil _ _ _ _⟩ (Ext.refl _)
    · have e : uS n = (dg 1 10 n, 0) := by unfold uS; rw [if_neg (by omega)]
      rw [e]
      clear e
      have hin : InB 1 9 n := InB.start hl hh (.inr ⟨rfl, by omega⟩)
      go_enter Tryd.func64, Tryd.ntmps64
      go_wp2
      go_loopw [0, 4] (fun x o wr => ∃ (f : Nat) (m : Int) (pre : List Int), x = .int .i64 m ∧ Ext w wr ∧ Own w.heap.size wr 5 .u8 o pre ∧ f ≤ 9 ∧ Hid (pre.length + f = 9) ∧ pre.length ≤ 9 ∧ InB 1 f m ∧ Hid (dg 1 10 n = pre ++ dg 1 (f + 1) m)) (fun x _ _ => mag x)
      case atStart => exact ⟨9, n, [], rfl, Ext.refl _, Own.nil _ _ _ _, by omega, rfl, by simp, hin, rfl⟩
      case round =>
        clear h0 h1 hin
        obtain ⟨f, m, pre, rfl, he, ho, hf, HP, hpl, hb, HD⟩ := hrel
        have hm := hb.bound hf
        have hm0 : 0 ≤ m := by have := hb.2.2; omega
        by_cases hc : m < 128
        · have HC : Hid (m / 128 = ab 1 (m % 128)) := by rw [Hid, ab_one]; omega
          go_wp2_with (at_builtin; refine wpList_app _ rfl _ _ w.heap.size 22 5 _ 1 .u8 rfl Tryd.underlying22 info8 rfl (by omega) _ pre rfl (ho.ext ((Ext.refl _).alloc _)) _ [_] rfl (Row.built1 _ _ _ _ (wf_u8 (by omega) (by omega))) (by simp; omega) (by have := he.size; simp; omega) ?_; intro v2 w2 ho2 hg2 _)
          go_ret2
          refine Ret.mk ⟨_, rfl, ?_⟩ ((he.alloc _).grown hg2 ho.low)
          rw [HD.out, dg_last f HC.out]
          have e : m % 128 = m := by omega
          rw [e]
          simpa using ho2
        · have HC : Hid (¬ m / 128 = ab 1 (m % 128)) := by rw [Hid, ab_one]; omega
          have hf1 : ¬ f = 0 := by
            rintro rfl
            exact HC.out hb.last
          obtain ⟨g, rfl⟩ : ∃ g, f = g + 1 := ⟨f - 1, by omega⟩
          go_wp2_with (at_builtin; refine wpList_app _ rfl _ _ w.heap.size 22 5 _ 1 .u8 rfl Tryd.underlying22 info8 rfl (by omega) _ pre rfl (ho.ext ((Ext.refl _).alloc _)) _ [_] rfl (Row.built1 _ _ _ _ (wf_u8 (by omega) (by omega))) (by simp; omega) (by have := he.size; simp; omega) ?_; intro v2 w2 ho2 hg2 _)
          go_roundw
          case rel =>
            refine ⟨g, m / 128, pre ++ [m % 128 + 128], rfl, (he.alloc _).grown hg2 ho.low, ho2, by omega, ?_, ?_, hb.next, ?_⟩
            · have := HP.out
              simp [Hid]
              omega
            · have := HP.out
              simp
              omega
            · rw [Hid, HD.out, dg_step _ HC.out]
              simp
          case measure => exact mag_lt hb HC.out

set_option maxHeartbeats 1000000 in
theorem refS_any (n : Int) (w : World) (hl : -9223372036854775808 ≤ n) (hh : n ≤ 9223372036854775807) :
    Calls Tryd.prog 40 #[.int .i64 n] w (Ret w (fun v' w' => Own w.heap.size w' 5 .u8 v' (dg 2 10 n))) := by
  have hin : InB 2 9 n := InB.start hl hh (.inl rfl)
  go_enter Tryd.func40, Tryd.ntmps40
  go_wp2
  go_loopw [0, 3] (fun x o wr => ∃ (f : Nat) (m : Int) (pre : List Int), x = .int .i64 m ∧ Ext w wr ∧ Own w.heap.size wr 5 .u8 o pre ∧ f ≤ 9 ∧ Hid (pre.length + f = 9) ∧ pre.length ≤ 9 ∧ InB 2 f m ∧ Hid (dg 2 10 n = pre ++ dg 2 (f + 1) m)) (fun x _ _ => mag x)
  case atStart => exact ⟨9, n, [], rfl, Ext.refl _, Own.nil _ _ _ _, by omega, rfl, by simp, hin, rfl⟩
  case round =>
    clear hin
    obtain ⟨f, m, pre, rfl, he, ho, hf, HP, hpl, hb, HD⟩ := hrel
    have hm := hb.bound hf
    have ha := and127
    have h256 : m % 128 % 256 = m % 128 := by omega
    by_cases hc : m / 128 = ab 2 (m % 128)
    · have HC := Lib.hid hc
      rw [ab_two] at hc
      by_cases hd : m % 128 < 64
      · have hz : (m / 128 == 0) = true := beq_iff_eq.2 (by omega)
        clear hc
        go_wp2_with (at_builtin; refine wpList_app _ rfl _ _ w.heap.size 22 5 _ 1 .u8 rfl Tryd.underlying22 info8 rfl (by omega) _ pre rfl (ho.ext ((Ext.refl _).alloc _)) _ [_] rfl (Row.built1 _ _ _ _ (wf_u8 (by omega) (by omega))) (by simp; omega) (by have := he.size; simp; omega) ?_; intro v2 w2 ho2 hg2 _)
        go_ret
        refine Ret.mk ?_ ((he.alloc _).grown hg2 ho.low)
        rw [HD.out, dg_last f HC.out]
        simpa using ho2
      · have hz : (m / 128 == 0) = false := beq_eq_false_iff_ne.2 (by omega)
        have hz1 : (m / 128 == -1) = true := beq_iff_eq.2 (by omega)
        clear hc
        go_wp2_with (at_builtin; refine wpList_app _ rfl _ _ w.heap.size 22 5 _ 1 .u8 rfl Tryd.underlying22 info8 rfl (by omega) _ pre rfl (ho.ext ((Ext.refl _).alloc _)) _ [_] rfl (Row.built1 _ _ _ _ (wf_u8 (by omega) (by omega))) (by simp; omega) (by have := he.size; simp; omega) ?_; intro v2 w2 ho2 hg2 _)
        go_ret
        refine Ret.mk ?_ ((he.alloc _).grown hg2 ho.low)
        rw [HD.out, dg_last f HC.out]
        simpa using ho2
    · have HC := Lib.hid hc
      have hf1 : ¬ f = 0 := by
        rintro rfl
        exact HC.out hb.last
      obtain ⟨g, rfl⟩ : ∃ g, f = g + 1 := ⟨f - 1, by omega⟩
      rw [ab_two] at hc
      have fin : ∀ (v2 : Value) (w2 : World), Own w.heap.size w2 5 .u8 v2 (pre ++ [m % 128 + 128]) → Ext w w2 → ∃ (f : Nat) (m' : Int) (pre' : List Int), Value.int .i64 (m / 128) = .int .i64 m' ∧ Ext w w2 ∧ Own w.heap.size w2 5 .u8 v2 pre' ∧ f ≤ 9 ∧ Hid (pre'.length + f = 9) ∧ pre'.length ≤ 9 ∧ InB 2 f m' ∧ Hid (dg 2 10 n = pre' ++ dg 2 (f + 1) m') := by
        intro v2 w2 ho2 he2
        refine ⟨g, m / 128, pre ++ [m % 128 + 128], rfl, he2, ho2, by omega, ?_, ?_, hb.next, ?_⟩
        · have := HP.out
          simp [Hid]
          omega
        · have := HP.out
          simp
          omega
        · rw [Hid, HD.out, dg_step _ HC.out]
          simp
      have hcases : (m / 128 == 0) = false ∧ (m / 128 == -1) = false ∨ (m / 128 == 0) = true ∧ (m / 128 == -1) = false ∧ 64 ≤ m % 128 ∨ (m / 128 == 0) = false ∧ (m / 128 == -1) = true ∧ m % 128 < 64 := by
        rw [beq_eq_false_iff_ne, beq_eq_false_iff_ne, beq_iff_eq, beq_iff_eq]
        omega
      have HF := Lib.hid fin
      clear hc fin
      rcases hcases with ⟨q1, q2⟩ | ⟨q1, q2, q3⟩ | ⟨q1, q2, q3⟩
      all_goals
        go_wp2_with (at_builtin; refine wpList_app _ rfl _ _ w.heap.size 22 5 _ 1 .u8 rfl Tryd.underlying22 info8 rfl (by omega) _ pre rfl (ho.ext ((Ext.refl _).alloc _)) _ [_] rfl (Row.built1 _ _ _ _ (wf_u8 (by omega) (by omega))) (by simp; omega) (by have := he.size; simp; omega) ?_; intro v2 w2 ho2 hg2 _)
        go_roundw
        case rel => exact HF.out _ _ ho2 ((he.alloc _).grown hg2 ho.low)
        case measure => exact mag_lt hb HC.out
end Go.Proofs.YtecgldkhjgcffaaDoor
/- The document's answers of layer 1, walked: short numbers taken off. -/
namespace Go.Proofs.YtecgldkhjgcffaaDoor
open Go.RowKit
set_option linter.unusedVariables false

/-- The number that digits tell, the lowest one first. -/
def lov : List Int → Int
  | [] => 0
  | x :: r => x % 128 + 128 * lov r
theorem lov_bound : ∀ l : List Int, 0 ≤ lov l ∧ lov l < 128 ^ l.length := by
  intro l
  induction l with
  | nil => simp [lov]
  | cons x r ih =>
    simp only [lov, List.length_cons]
    rw [Int.pow_succ]
    omega
theorem lov_app : ∀ (l : List Int) (x : Int), lov (l ++ [x]) = lov l + x % 128 * 128 ^ l.length := by
  intro l x
  induction l with
  | nil => simp [lov]
  | cons y r ih =>
    simp only [List.cons_append, lov, ih, List.length_cons]
    rw [Int.pow_succ, Int.mul_add]
    have : 128 * (x % 128 * 128 ^ r.length) = x % 128 * (128 ^ r.length * 128) := by
      rw [Int.mul_comm 128, Int.mul_assoc]
    omega
theorem lov_step {l : List Int} {k : Nat} (h : k < l.length) : lov (l.take (k + 1)) = lov (l.take k) + gi l k % 128 * 128 ^ k := by
  have e : l.take (k + 1) = l.take k ++ [gi l k] := by
    rw [List.take_succ_eq_append_getElem h]
    simp [gi, h]
  rw [e, lov_app, List.length_take, Nat.min_eq_left (by omega)]
theorem wof_lov : ∀ (l : List Int) (acc : Int), IntKind.i64.wrap (wof acc l) = IntKind.i64.wrap (lov l + acc * 128 ^ l.length) := by
  intro l acc
  induction l with
  | nil => simp [wof, lov]
  | cons x r ih =>
    simp only [wof, lov, List.length_cons]
    rw [Int.pow_succ, ← Int.mul_assoc]
    rw [IntKind.wrap_i64, IntKind.wrap_i64] at ih
    rw [IntKind.wrap_i64, IntKind.wrap_i64, IntKind.wrap_i64]
    generalize acc * 128 ^ r.length = q at *
    omega
theorem wo_lov (wy : Int) (l : List Int) (hl : 0 < l.length) (hf : Fit .u8 l) : wo wy l = IntKind.i64.wrap (lov l + ab wy (lst l) * 128 ^ l.length) := by
  have h := wof_lov l (ab wy (lst l))
  have hb := wo_bound wy l hl hf
  have e : wof (ab wy (lst l)) l = wo wy l := rfl
  rw [e] at h
  rw [← h, IntKind.wrap_i64]
  omega
theorem lst_take {l : List Int} {k : Nat} (h : k < l.length) : lst (l.take (k + 1)) = gi l k := by
  unfold lst
  have e : (l.take (k + 1)).length = k + 1 := by simp; omega
  rw [e]
  simp [gi]
theorem fb_take_succ {l : List Int} {k : Nat} (h : fb l = k) (hk : k < l.length) : fb (l.take (k + 1)) + 1 = (l.take (k + 1)).length := by
  have h1 : fb (l.take (k + 1) ++ l.drop (k + 1)) = k := by rw [List.take_append_drop]; exact h
  have hlen : (l.take (k + 1)).length = k + 1 := by simp; omega
  rw [hlen]
  rcases Nat.lt_or_ge (fb (l.take (k + 1))) (k + 1) with hlt | hge
  · have := fb_append (l := l.take (k + 1)) (l.drop (k + 1)) (by omega)
    omega
  · exfalso
    have h2 := fb_take l (k + 1)
    have h3 := fb_le (l.take (k + 1))
    have h4 : fb (l.take (k + 1)) = k + 1 := by omega
    have go : ∀ (a b : List Int), fb a = a.length → a.length ≤ fb (a ++ b) := by
      intro a
      induction a with
      | nil => intro b _; simp
      | cons x a ih =>
        intro b hx
        simp only [fb, List.length_cons, List.cons_append] at hx ⊢
        by_cases hc : x < 128
        · simp [hc] at hx
        · simp only [hc, if_false] at hx ⊢
          have := ih b (by omega)
          omega
    have := go (l.take (k + 1)) (l.drop (k + 1)) (by omega)
    omega
/-- Which rows are as short as can be. -/
theorem canon : ∀ (f : Nat) (r : List Int), Fit .u8 r → fb r + 1 = r.length → r.length ≤ f → (r = dg 1 f (lov r) ↔ r.length = 1 ∨ ¬ lst r = 0) := by
  intro f
  induction f with
  | zero => intro r _ h1 h2; omega
  | succ f ih =>
    intro r hf h1 h2
    match r with
    | [] => simp [fb] at h1
    | [x] =>
      have hx := hf.u8 (List.mem_cons_self)
      have hx2 : x < 128 := by
        unfold fb at h1
        split at h1
        · assumption
        · simp [fb] at h1
      have e : lov [x] = x := by simp [lov]; omega
      rw [e, dg_last f (by rw [ab_one]; omega)]
      have : x % 128 = x := by omega
      simp [this]
    | x :: y :: r =>
      have hx := hf.u8 (List.mem_cons_self)
      have hx2 : ¬ x < 128 := by
        intro hc
        unfold fb at h1
        simp [hc] at h1
      have h1' : fb (y :: r) + 1 = (y :: r).length := by
        unfold fb at h1
        simp only [hx2, if_false, List.length_cons] at h1 ⊢
        omega
      have hf' : Fit .u8 (y :: r) := fun z hz => hf z (List.mem_cons_of_mem _ hz)
      have i := ih (y :: r) hf' h1' (by simpa using h2)
      have hl : lst (x :: y :: r) = lst (y :: r) := lst_cons x (by simp)
      have e : lov (x :: y :: r) = x - 128 + 128 * lov (y :: r) := by
        simp only [lov]
        omega
      obtain ⟨b0, _⟩ := lov_bound (y :: r)
      rw [hl]
      by_cases hz : lov (y :: r) = 0
      · have hd : dg 1 (f + 1) (lov (x :: y :: r)) = [x - 128] := by
          rw [e, hz, dg_last f (by rw [ab_one]; omega)]
          congr 1
          omega
        rw [hd]
        have hlz : lst (y :: r) = 0 := by
          have go : ∀ (a : List Int), Fit .u8 a → fb a + 1 = a.length → lov a = 0 → lst a = 0 := by
            intro a
            induction a with
            | nil => intro _ h _; simp [fb] at h
            | cons z a iha =>
              intro hfa ha hz
              have hzz := hfa.u8 (List.mem_cons_self)
              match a with
              | [] =>
                unfold fb at ha
                split at ha
                · simp [lov] at hz
                  show z = 0
                  omega
                · simp [fb] at ha
              | z2 :: a =>
                have hc : ¬ z < 128 := by
                  intro hc
                  unfold fb at ha
                  simp [hc] at ha
                obtain ⟨q0, _⟩ := lov_bound (z2 :: a)
                have hz' : z % 128 + 128 * lov (z2 :: a) = 0 := hz
                rw [lst_cons z (by simp)]
                refine iha (fun w hw => hfa w (List.mem_cons_of_mem _ hw)) ?_ (by omega)
                unfold fb at ha
                simp only [hc, if_false, List.length_cons] at ha ⊢
                omega
          exact go _ hf' h1' hz
        refine ⟨fun h => ?_, fun h => ?_⟩
        · injection h with _ h
          cases h
        · rcases h with h | h
          · simp at h
          · exact absurd hlz h
      · have hd : dg 1 (f + 1) (lov (x :: y :: r)) = x :: dg 1 f (lov (y :: r)) := by
          rw [e, dg_step f (by rw [ab_one]; omega)]
          have e1 : (x - 128 + 128 * lov (y :: r)) % 128 + 128 = x := by omega
          have e2 : (x - 128 + 128 * lov (y :: r)) / 128 = lov (y :: r) := by omega
          rw [e1, e2]
        rw [hd]
        have hone : (y :: r).length = 1 → ¬ lst (y :: r) = 0 := by
          intro h hl0
          match r, h with
          | [], _ =>
            have : y = 0 := hl0
            apply hz
            simp [lov, this]
        refine ⟨fun h => ?_, fun h => ?_⟩
        · injection h with _ h
          rcases i.1 h with h | h
          · exact .inr (hone h)
          · exact .inr h
        · rcases h with h | h
          · simp at h
          · rw [← i.2 (.inr h)]
/-- A number from 0 on, taken off: what the chapter says of it. -/
theorem tU_eq {l : List Int} {k : Nat} (hf : Fit .u8 l) (h8 : k < 8) (hk : k < l.length) (hg : ∀ j, j < k → 128 ≤ gi l j) (hx : gi l k < 128) :
    tU l = if gi l k = 0 ∧ 0 < k ∨ 9007199254740991 < lov (l.take (k + 1)) then (0, [], 4) else (lov (l.take (k + 1)), l.drop (k + 1), 0) := by
  have hfb := fb_is l k hk hg hx
  have hsp := spn_ok (most := 8) hk h8 hg hx
  have hlen : (l.take (k + 1)).length = k + 1 := by simp; omega
  have hft := hf.take (k + 1)
  have hlv : wo 1 (l.take (k + 1)) = lov (l.take (k + 1)) := by
    have h1 := wo_one (l.take (k + 1)) (by omega)
    have h2 := wo_lov 1 (l.take (k + 1)) (by omega) hft
    have h3 := lov_bound (l.take (k + 1))
    have h4 : (128 : Int) ^ (l.take (k + 1)).length ≤ 72057594037927936 := by
      rw [hlen]
      have ht : k = 0 ∨ k = 1 ∨ k = 2 ∨ k = 3 ∨ k = 4 ∨ k = 5 ∨ k = 6 ∨ k = 7 := by omega
      rcases ht with rfl | rfl | rfl | rfl | rfl | rfl | rfl | rfl <;> decide
    rw [ab_one, Int.zero_mul, IntKind.wrap_i64] at h2
    omega
  have hc := canon 10 (l.take (k + 1)) hft (fb_take_succ hfb hk) (by omega)
  rw [hlen, lst_take hk] at hc
  have hS : tS 8 1 l = if l.take (k + 1) = dg 1 10 (lov (l.take (k + 1))) then (lov (l.take (k + 1)), l.drop (k + 1), 0) else (0, [], 4) := by
    unfold tS
    rw [hsp, if_pos rfl, hfb, hlv]
  unfold tU
  rw [hS]
  by_cases hd : l.take (k + 1) = dg 1 10 (lov (l.take (k + 1)))
  · rw [if_pos hd]
    have := hc.1 hd
    have hn : ¬ (gi l k = 0 ∧ 0 < k) := by omega
    simp only [hn, false_or]
  · rw [if_neg hd]
    have : ¬ (k + 1 = 1 ∨ ¬ gi l k = 0) := fun h => hd (hc.2 h)
    rw [if_neg (by simp), if_pos (.inl (by omega))]
theorem tU_trunc {l : List Int} (h : l.length < 8) (hg : ∀ j, j < l.length → 128 ≤ gi l j) : tU l = (0, [], 3) := by
  have hsp := spn_end (most := 8) h hg
  unfold tU
  rw [tS_bad (by rw [hsp]; simp), hsp, if_neg (by simp)]
theorem tU_long {l : List Int} (h : 8 ≤ l.length) (hg : ∀ j, j < 8 → 128 ≤ gi l j) : tU l = (0, [], 4) := by
  have hsp := spn_most (most := 8) h hg
  unfold tU
  rw [tS_bad (by rw [hsp]; simp), hsp, if_neg (by simp)]
end Go.Proofs.YtecgldkhjgcffaaDoor
/- The document's answer of layer 1, walked: TakeS. -/
namespace Go.Proofs.YtecgldkhjgcffaaDoor
open Go.RowKit
set_option linter.unusedVariables false

theorem pow128 (i : Nat) : (128 : Int) ^ i = ((2 ^ (7 * i) : Nat) : Int) := by
  rw [Nat.pow_mul]
  exact_mod_cast rfl
theorem pow128_le {i : Nat} (h : i ≤ 9) : (128 : Int) ^ i ≤ 9223372036854775808 := by
  have ht : i = 0 ∨ i = 1 ∨ i = 2 ∨ i = 3 ∨ i = 4 ∨ i = 5 ∨ i = 6 ∨ i = 7 ∨ i = 8 ∨ i = 9 := by omega
  rcases ht with rfl | rfl | rfl | rfl | rfl | rfl | rfl | rfl | rfl | rfl <;> decide
theorem lov_take {l : List Int} {i : Nat} (h : i ≤ l.length) : 0 ≤ lov (l.take i) ∧ lov (l.take i) < 128 ^ i := by
  have := lov_bound (l.take i)
  rwa [List.length_take, Nat.min_eq_left h] at this
theorem dig_step {l : List Int} {i : Nat} {m : Int} (h : i < l.length) (h8 : i ≤ 8) (hm : m = IntKind.u64.wrap (lov (l.take i))) : bits .or .u64 m (gi l i % 128 * 128 ^ i) = IntKind.u64.wrap (lov (l.take (i + 1))) := by
  obtain ⟨b0, b1⟩ := lov_take (l := l) (i := i) (by omega)
  have hp := pow128_le (i := i + 1) (by omega)
  have hp0 := pow128_le (i := i) (by omega)
  rw [Int.pow_succ] at hp
  have hm2 : m = lov (l.take i) := by
    rw [hm, IntKind.wrap_u64]
    omega
  rw [lov_step h, ← hm2]
  have h0 : 0 ≤ gi l i % 128 ∧ gi l i % 128 < 128 := by omega
  rw [← hm2] at b0 b1
  generalize gi l i % 128 = d at *
  have e : d * 128 ^ i = ((2 ^ (7 * i) * d.toNat : Nat) : Int) := by
    rw [pow128, Int.natCast_mul, Int.mul_comm]
    congr 1
    omega
  have hle : d * 128 ^ i ≤ 127 * 128 ^ i := Int.mul_le_mul_of_nonneg_right (by omega) (by omega)
  rw [e]
  rw [e] at hle
  rw [pow128] at b1 hle hp
  rw [or_high m (7 * i) d.toNat b0 b1 (by omega), IntKind.wrap_u64]
  omega
theorem dig_nine {l : List Int} {m : Int} (h : 9 < l.length) (hm : m = IntKind.u64.wrap (lov (l.take 9))) : bits .or .u64 m (IntKind.u64.wrap (gi l 9 % 128 * 9223372036854775808)) = IntKind.u64.wrap (lov (l.take 10)) := by
  obtain ⟨b0, b1⟩ := lov_take (l := l) (i := 9) (by omega)
  have hp0 : (128 : Int) ^ 9 = 9223372036854775808 := by decide
  rw [hp0] at b1
  have hm2 : m = lov (l.take 9) := by
    rw [hm, IntKind.wrap_u64]
    omega
  rw [show lov (l.take 10) = lov (l.take 9) + gi l 9 % 128 * 128 ^ 9 from lov_step h, ← hm2, hp0]
  rw [← hm2] at b0 b1
  have h0 : 0 ≤ gi l 9 % 128 ∧ gi l 9 % 128 < 128 := by omega
  generalize gi l 9 % 128 = d at *
  have e : IntKind.u64.wrap (d * 9223372036854775808) = ((2 ^ 63 * (d % 2).toNat : Nat) : Int) := by
    rw [IntKind.wrap_u64]
    omega
  rw [e, or_high m 63 (d % 2).toNat b0 (by simpa using b1) (by omega), IntKind.wrap_u64]
  omega
/-- The tenth digit is all sign. -/
theorem dg_ten (n : Int) (h : InB 2 9 n) (hl : (dg 2 10 n).length = 10) : gi (dg 2 10 n) 9 = 0 ∨ gi (dg 2 10 n) 9 = 127 := by
  have go : ∀ (f : Nat) (m : Int), InB 2 f m → (dg 2 (f + 1) m).length = f + 1 → gi (dg 2 (f + 1) m) f = 0 ∨ gi (dg 2 (f + 1) m) f = 127 := by
    intro f
    induction f with
    | zero =>
      intro m hb _
      rw [dg_last 0 hb.last]
      obtain ⟨h1, h2, _⟩ := hb
      rw [Int.pow_zero] at h1 h2
      show m % 128 = 0 ∨ m % 128 = 127
      omega
    | succ f ih =>
      intro m hb hl
      by_cases hc : m / 128 = ab 2 (m % 128)
      · rw [dg_last _ hc] at hl
        simp at hl
      · rw [dg_step _ hc] at hl ⊢
        exact ih (m / 128) hb.next (by simpa using hl)
  exact go 9 n h hl
theorem tS_eq {l : List Int} {k : Nat} (h10 : k < 10) (hk : k < l.length) (hg : ∀ j, j < k → 128 ≤ gi l j) (hx : gi l k < 128) :
    tS 10 2 l = if l.take (k + 1) = dg 2 10 (wo 2 (l.take (k + 1))) then (wo 2 (l.take (k + 1)), l.drop (k + 1), 0) else (0, [], 4) := by
  have hfb := fb_is l k hk hg hx
  have hsp := spn_ok (most := 10) hk h10 hg hx
  unfold tS
  rw [hsp, if_pos rfl, hfb]
theorem tS_nine {l : List Int} (hf : Fit .u8 l) (hk : 9 < l.length) (h0 : ¬ gi l 9 = 0) (h1 : ¬ gi l 9 = 127) : ¬ l.take (9 + 1) = dg 2 10 (wo 2 (l.take (9 + 1))) := by
  intro e
  have hlen : (l.take (9 + 1)).length = 10 := by simp; omega
  have hb := wo_bound 2 (l.take (9 + 1)) (by omega) (hf.take _)
  have ht := dg_ten (wo 2 (l.take (9 + 1))) (InB.start hb.1 hb.2 (.inl rfl)) (by rw [← e]; exact hlen)
  rw [← e] at ht
  have e2 : gi (l.take (9 + 1)) 9 = gi l 9 := by simp [gi]
  omega
theorem tS_trunc {l : List Int} (h : l.length < 10) (hg : ∀ j, j < l.length → 128 ≤ gi l j) : tS 10 2 l = (0, [], 3) := by
  have hsp := spn_end (most := 10) h hg
  rw [tS_bad (by rw [hsp]; simp), hsp]
theorem tS_long {l : List Int} (h : 10 ≤ l.length) (hg : ∀ j, j < 10 → 128 ≤ gi l j) : tS 10 2 l = (0, [], 4) := by
  have hsp := spn_most (most := 10) h hg
  rw [tS_bad (by rw [hsp]; simp), hsp]
/-- Without bits above: the number's sign needs none, or there is no room. -/
theorem sign_none {l : List Int} {k : Nat} {m : Int} (hf : Fit .u8 l) (hk : k < l.length) (h9 : k ≤ 9) (hx : gi l k < 64 ∨ k = 9) (hx2 : gi l k < 128) (hm : m = IntKind.u64.wrap (lov (l.take (k + 1)))) : wrap64 m = wo 2 (l.take (k + 1)) := by
  have hlen : (l.take (k + 1)).length = k + 1 := by simp; omega
  have h := wo_lov 2 (l.take (k + 1)) (by omega) (hf.take _)
  have hg := hf.u8 (gi_mem (l := l) (j := k) hk)
  rw [hlen, lst_take hk] at h
  rw [h, hm, ← IntWalk.i64_left, wrap_both]
  rcases hx with hx | rfl
  · have e : ab 2 (gi l k) = 0 := by rw [ab_two]; omega
    rw [e, Int.zero_mul, Int.add_zero]
  · have e : (128 : Int) ^ (9 + 1) = 1180591620717411303424 := by decide
    have e2 : ab 2 (gi l 9) = 0 ∨ ab 2 (gi l 9) = -1 := by rw [ab_two]; omega
    rw [e, IntKind.wrap_i64, IntKind.wrap_i64]
    rcases e2 with e2 | e2 <;> rw [e2] <;> omega
theorem sign_some {l : List Int} {k : Nat} {m : Int} (hf : Fit .u8 l) (hk : k < l.length) (h8 : k ≤ 8) (hx : 64 ≤ gi l k) (hx2 : gi l k < 128) (hm : m = IntKind.u64.wrap (lov (l.take (k + 1)))) : wrap64 (bits .or .u64 m ((2 ^ (7 * (k + 1)) * (2 ^ (64 - 7 * (k + 1)) - 1) : Nat) : Int)) = wo 2 (l.take (k + 1)) := by
  have hlen : (l.take (k + 1)).length = k + 1 := by simp; omega
  have h := wo_lov 2 (l.take (k + 1)) (by omega) (hf.take _)
  rw [hlen, lst_take hk] at h
  have e : ab 2 (gi l k) = -1 := by rw [ab_two]; omega
  obtain ⟨b0, b1⟩ := lov_take (l := l) (i := k + 1) (by omega)
  rw [e] at h
  rw [h, hm, ← IntWalk.i64_left]
  generalize lov (l.take (k + 1)) = q at *
  have ht : k = 0 ∨ k = 1 ∨ k = 2 ∨ k = 3 ∨ k = 4 ∨ k = 5 ∨ k = 6 ∨ k = 7 ∨ k = 8 := by omega
  rcases ht with rfl | rfl | rfl | rfl | rfl | rfl | rfl | rfl | rfl
  · have e1 : (128 : Int) ^ (0 + 1) = 128 := by decide
    rw [e1] at b1 ⊢
    have e2 : IntKind.u64.wrap q = q := by rw [IntKind.wrap_u64]; omega
    rw [e2, or_high q (7 * (0 + 1)) (2 ^ (64 - 7 * (0 + 1)) - 1) b0 (lt_eq b1 (by decide)) (by decide), show ((2 ^ (7 * (0 + 1)) * (2 ^ (64 - 7 * (0 + 1)) - 1) : Nat) : Int) = 18446744073709551488 from by decide, IntKind.wrap_i64, IntKind.wrap_i64]
    omega
  · have e1 : (128 : Int) ^ (1 + 1) = 16384 := by decide
    rw [e1] at b1 ⊢
    have e2 : IntKind.u64.wrap q = q := by rw [IntKind.wrap_u64]; omega
    rw [e2, or_high q (7 * (1 + 1)) (2 ^ (64 - 7 * (1 + 1)) - 1) b0 (lt_eq b1 (by decide)) (by decide), show ((2 ^ (7 * (1 + 1)) * (2 ^ (64 - 7 * (1 + 1)) - 1) : Nat) : Int) = 18446744073709535232 from by decide, IntKind.wrap_i64, IntKind.wrap_i64]
    omega
  · have e1 : (128 : Int) ^ (2 + 1) = 2097152 := by decide
    rw [e1] at b1 ⊢
    have e2 : IntKind.u64.wrap q = q := by rw [IntKind.wrap_u64]; omega
    rw [e2, or_high q (7 * (2 + 1)) (2 ^ (64 - 7 * (2 + 1)) - 1) b0 (lt_eq b1 (by decide)) (by decide), show ((2 ^ (7 * (2 + 1)) * (2 ^ (64 - 7 * (2 + 1)) - 1) : Nat) : Int) = 18446744073707454464 from by decide, IntKind.wrap_i64, IntKind.wrap_i64]
    omega
  · have e1 : (128 : Int) ^ (3 + 1) = 268435456 := by decide
    rw [e1] at b1 ⊢
    have e2 : IntKind.u64.wrap q = q := by rw [IntKind.wrap_u64]; omega
    rw [e2, or_high q (7 * (3 + 1)) (2 ^ (64 - 7 * (3 + 1)) - 1) b0 (lt_eq b1 (by decide)) (by decide), show ((2 ^ (7 * (3 + 1)) * (2 ^ (64 - 7 * (3 + 1)) - 1) : Nat) : Int) = 18446744073441116160 from by decide, IntKind.wrap_i64, IntKind.wrap_i64]
    omega
  · have e1 : (128 : Int) ^ (4 + 1) = 34359738368 := by decide
    rw [e1] at b1 ⊢
    have e2 : IntKind.u64.wrap q = q := by rw [IntKind.wrap_u64]; omega
    rw [e2, or_high q (7 * (4 + 1)) (2 ^ (64 - 7 * (4 + 1)) - 1) b0 (lt_eq b1 (by decide)) (by decide), show ((2 ^ (7 * (4 + 1)) * (2 ^ (64 - 7 * (4 + 1)) - 1) : Nat) : Int) = 18446744039349813248 from by decide, IntKind.wrap_i64, IntKind.wrap_i64]
    omega
  · have e1 : (128 : Int) ^ (5 + 1) = 4398046511104 := by decide
    rw [e1] at b1 ⊢
    have e2 : IntKind.u64.wrap q = q := by rw [IntKind.wrap_u64]; omega
    rw [e2, or_high q (7 * (5 + 1)) (2 ^ (64 - 7 * (5 + 1)) - 1) b0 (lt_eq b1 (by decide)) (by decide), show ((2 ^ (7 * (5 + 1)) * (2 ^ (64 - 7 * (5 + 1)) - 1) : Nat) : Int) = 18446739675663040512 from by decide, IntKind.wrap_i64, IntKind.wrap_i64]
    omega
  · have e1 : (128 : Int) ^ (6 + 1) = 562949953421312 := by decide
    rw [e1] at b1 ⊢
    have e2 : IntKind.u64.wrap q = q := by rw [IntKind.wrap_u64]; omega
    rw [e2, or_high q (7 * (6 + 1)) (2 ^ (64 - 7 * (6 + 1)) - 1) b0 (lt_eq b1 (by decide)) (by decide), show ((2 ^ (7 * (6 + 1)) * (2 ^ (64 - 7 * (6 + 1)) - 1) : Nat) : Int) = 18446181123756130304 from by decide, IntKind.wrap_i64, IntKind.wrap_i64]
    omega
  · have e1 : (128 : Int) ^ (7 + 1) = 72057594037927936 := by decide
    rw [e1] at b1 ⊢
    have e2 : IntKind.u64.wrap q = q := by rw [IntKind.wrap_u64]; omega
    rw [e2, or_high q (7 * (7 + 1)) (2 ^ (64 - 7 * (7 + 1)) - 1) b0 (lt_eq b1 (by decide)) (by decide), show ((2 ^ (7 * (7 + 1)) * (2 ^ (64 - 7 * (7 + 1)) - 1) : Nat) : Int) = 18374686479671623680 from by decide, IntKind.wrap_i64, IntKind.wrap_i64]
    omega
  · have e1 : (128 : Int) ^ (8 + 1) = 9223372036854775808 := by decide
    rw [e1] at b1 ⊢
    have e2 : IntKind.u64.wrap q = q := by rw [IntKind.wrap_u64]; omega
    rw [e2, or_high q (7 * (8 + 1)) (2 ^ (64 - 7 * (8 + 1)) - 1) b0 (lt_eq b1 (by decide)) (by decide), show ((2 ^ (7 * (8 + 1)) * (2 ^ (64 - 7 * (8 + 1)) - 1) : Nat) : Int) = 9223372036854775808 from by decide, IntKind.wrap_i64, IntKind.wrap_i64]
    omega
theorem high_const {k : Nat} (h : k ≤ 8) : IntKind.u64.wrap (18446744073709551615 * 2 ^ (7 * (k + 1))) = ((2 ^ (7 * (k + 1)) * (2 ^ (64 - 7 * (k + 1)) - 1) : Nat) : Int) := by
  have ht : k = 0 ∨ k = 1 ∨ k = 2 ∨ k = 3 ∨ k = 4 ∨ k = 5 ∨ k = 6 ∨ k = 7 ∨ k = 8 := by omega
  rcases ht with rfl | rfl | rfl | rfl | rfl | rfl | rfl | rfl | rfl <;> decide +kernel
theorem sign_some2 {l : List Int} {k : Nat} {m : Int} (hf : Fit .u8 l) (hk : k < l.length) (h8 : k ≤ 8) (hx : 64 ≤ gi l k) (hx2 : gi l k < 128) (hm : m = IntKind.u64.wrap (lov (l.take (k + 1)))) : wrap64 (bits .or .u64 m (IntKind.u64.wrap (18446744073709551615 * 2 ^ (7 * (k + 1))))) = wo 2 (l.take (k + 1)) := by
  rw [high_const h8]
  exact sign_some hf hk h8 hx hx2 hm
end Go.Proofs.YtecgldkhjgcffaaDoor
