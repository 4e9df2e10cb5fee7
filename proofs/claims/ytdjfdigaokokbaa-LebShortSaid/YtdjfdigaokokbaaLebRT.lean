/- The document's answers of layer 1, walked: short numbers taken off. -/
import Derived.Test.YtdjfdigaokokbaaLebR
import Derived.Test.YtdjfdigaokokbaaLebRB
namespace Go.Proofs.Ytdjfdigaokokbaa
open Go.RowKit
set_option linter.unusedVariables false

/-- The number that digits tell, the lowest one first. -/
def lov : List Int → Int
  | [] => 0
  | x :: r => x % 128 + 128 * lov r
theorem lov_bound : ∀ l : List Int, 0 ≤ lov l ∧ lov l < 128 ^ l.length := by
  intro l
  induction l with
  | nil => simp [lov]
  | cons x r ih =>
    simp only [lov, List.length_cons]
    rw [Int.pow_succ]
    omega
theorem lov_app : ∀ (l : List Int) (x : Int), lov (l ++ [x]) = lov l + x % 128 * 128 ^ l.length := by
  intro l x
  induction l with
  | nil => simp [lov]
  | cons y r ih =>
    simp only [List.cons_append, lov, ih, List.length_cons]
    rw [Int.pow_succ, Int.mul_add]
    have : 128 * (x % 128 * 128 ^ r.length) = x % 128 * (128 ^ r.length * 128) := by
      rw [Int.mul_comm 128, Int.mul_assoc]
    omega
theorem lov_step {l : List Int} {k : Nat} (h : k < l.length) : lov (l.take (k + 1)) = lov (l.take k) + gi l k % 128 * 128 ^ k := by
  have e : l.take (k + 1) = l.take k ++ [gi l k] := by
    rw [List.take_succ_eq_append_getElem h]
    simp [gi, h]
  rw [e, lov_app, List.length_take, Nat.min_eq_left (by omega)]
theorem wof_lov : ∀ (l : List Int) (acc : Int), IntKind.i64.wrap (wof acc l) = IntKind.i64.wrap (lov l + acc * 128 ^ l.length) := by
  intro l acc
  induction l with
  | nil => simp [wof, lov]
  | cons x r ih =>
    simp only [wof, lov, List.length_cons]
    rw [Int.pow_succ, ← Int.mul_assoc]
    rw [IntKind.wrap_i64, IntKind.wrap_i64] at ih
    rw [IntKind.wrap_i64, IntKind.wrap_i64, IntKind.wrap_i64]
    generalize acc * 128 ^ r.length = q at *
    omega
theorem wo_lov (wy : Int) (l : List Int) (hl : 0 < l.length) (hf : Fit .u8 l) : wo wy l = IntKind.i64.wrap (lov l + ab wy (lst l) * 128 ^ l.length) := by
  have h := wof_lov l (ab wy (lst l))
  have hb := wo_bound wy l hl hf
  have e : wof (ab wy (lst l)) l = wo wy l := rfl
  rw [e] at h
  rw [← h, IntKind.wrap_i64]
  omega
theorem lst_take {l : List Int} {k : Nat} (h : k < l.length) : lst (l.take (k + 1)) = gi l k := by
  unfold lst
  have e : (l.take (k + 1)).length = k + 1 := by simp; omega
  rw [e]
  simp [gi]
theorem fb_take_succ {l : List Int} {k : Nat} (h : fb l = k) (hk : k < l.length) : fb (l.take (k + 1)) + 1 = (l.take (k + 1)).length := by
  have h1 : fb (l.take (k + 1) ++ l.drop (k + 1)) = k := by rw [List.take_append_drop]; exact h
  have hlen : (l.take (k + 1)).length = k + 1 := by simp; omega
  rw [hlen]
  rcases Nat.lt_or_ge (fb (l.take (k + 1))) (k + 1) with hlt | hge
  · have := fb_append (l := l.take (k + 1)) (l.drop (k + 1)) (by omega)
    omega
  · exfalso
    have h2 := fb_take l (k + 1)
    have h3 := fb_le (l.take (k + 1))
    have h4 : fb (l.take (k + 1)) = k + 1 := by omega
    have go : ∀ (a b : List Int), fb a = a.length → a.length ≤ fb (a ++ b) := by
      intro a
      induction a with
      | nil => intro b _; simp
      | cons x a ih =>
        intro b hx
        simp only [fb, List.length_cons, List.cons_append] at hx ⊢
        by_cases hc : x < 128
        · simp [hc] at hx
        · simp only [hc, if_false] at hx ⊢
          have := ih b (by omega)
          omega
    have := go (l.take (k + 1)) (l.drop (k + 1)) (by omega)
    omega
/-- Which rows are as short as can be. -/
theorem canon : ∀ (f : Nat) (r : List Int), Fit .u8 r → fb r + 1 = r.length → r.length ≤ f → (r = dg 1 f (lov r) ↔ r.length = 1 ∨ ¬ lst r = 0) := by
  intro f
  induction f with
  | zero => intro r _ h1 h2; omega
  | succ f ih =>
    intro r hf h1 h2
    match r with
    | [] => simp [fb] at h1
    | [x] =>
      have hx := hf.u8 (List.mem_cons_self)
      have hx2 : x < 128 := by
        unfold fb at h1
        split at h1
        · assumption
        · simp [fb] at h1
      have e : lov [x] = x := by simp [lov]; omega
      rw [e, dg_last f (by rw [ab_one]; omega)]
      have : x % 128 = x := by omega
      simp [this]
    | x :: y :: r =>
      have hx := hf.u8 (List.mem_cons_self)
      have hx2 : ¬ x < 128 := by
        intro hc
        unfold fb at h1
        simp [hc] at h1
      have h1' : fb (y :: r) + 1 = (y :: r).length := by
        unfold fb at h1
        simp only [hx2, if_false, List.length_cons] at h1 ⊢
        omega
      have hf' : Fit .u8 (y :: r) := fun z hz => hf z (List.mem_cons_of_mem _ hz)
      have i := ih (y :: r) hf' h1' (by simpa using h2)
      have hl : lst (x :: y :: r) = lst (y :: r) := lst_cons x (by simp)
      have e : lov (x :: y :: r) = x - 128 + 128 * lov (y :: r) := by
        simp only [lov]
        omega
      obtain ⟨b0, _⟩ := lov_bound (y :: r)
      rw [hl]
      by_cases hz : lov (y :: r) = 0
      · have hd : dg 1 (f + 1) (lov (x :: y :: r)) = [x - 128] := by
          rw [e, hz, dg_last f (by rw [ab_one]; omega)]
          congr 1
          omega
        rw [hd]
        have hlz : lst (y :: r) = 0 := by
          have go : ∀ (a : List Int), Fit .u8 a → fb a + 1 = a.length → lov a = 0 → lst a = 0 := by
            intro a
            induction a with
            | nil => intro _ h _; simp [fb] at h
            | cons z a iha =>
              intro hfa ha hz
              have hzz := hfa.u8 (List.mem_cons_self)
              match a with
              | [] =>
                unfold fb at ha
                split at ha
                · simp [lov] at hz
                  show z = 0
                  omega
                · simp [fb] at ha
              | z2 :: a =>
                have hc : ¬ z < 128 := by
                  intro hc
                  unfold fb at ha
                  simp [hc] at ha
                obtain ⟨q0, _⟩ := lov_bound (z2 :: a)
                have hz' : z % 128 + 128 * lov (z2 :: a) = 0 := hz
                rw [lst_cons z (by simp)]
                refine iha (fun w hw => hfa w (List.mem_cons_of_mem _ hw)) ?_ (by omega)
                unfold fb at ha
                simp only [hc, if_false, List.length_cons] at ha ⊢
                omega
          exact go _ hf' h1' hz
        refine ⟨fun h => ?_, fun h => ?_⟩
        · injection h with _ h
          cases h
        · rcases h with h | h
          · simp at h
          · exact absurd hlz h
      · have hd : dg 1 (f + 1) (lov (x :: y :: r)) = x :: dg 1 f (lov (y :: r)) := by
          rw [e, dg_step f (by rw [ab_one]; omega)]
          have e1 : (x - 128 + 128 * lov (y :: r)) % 128 + 128 = x := by omega
          have e2 : (x - 128 + 128 * lov (y :: r)) / 128 = lov (y :: r) := by omega
          rw [e1, e2]
        rw [hd]
        have hone : (y :: r).length = 1 → ¬ lst (y :: r) = 0 := by
          intro h hl0
          match r, h with
          | [], _ =>
            have : y = 0 := hl0
            apply hz
            simp [lov, this]
        refine ⟨fun h => ?_, fun h => ?_⟩
        · injection h with _ h
          rcases i.1 h with h | h
          · exact .inr (hone h)
          · exact .inr h
        · rcases h with h | h
          · simp at h
          · rw [← i.2 (.inr h)]
/-- A number from 0 on, taken off: what the chapter says of it. -/
theorem tU_eq {l : List Int} {k : Nat} (hf : Fit .u8 l) (h8 : k < 8) (hk : k < l.length) (hg : ∀ j, j < k → 128 ≤ gi l j) (hx : gi l k < 128) :
    tU l = if gi l k = 0 ∧ 0 < k ∨ 9007199254740991 < lov (l.take (k + 1)) then (0, [], 4) else (lov (l.take (k + 1)), l.drop (k + 1), 0) := by
  have hfb := fb_is l k hk hg hx
  have hsp := spn_ok (most := 8) hk h8 hg hx
  have hlen : (l.take (k + 1)).length = k + 1 := by simp; omega
  have hft := hf.take (k + 1)
  have hlv : wo 1 (l.take (k + 1)) = lov (l.take (k + 1)) := by
    have h1 := wo_one (l.take (k + 1)) (by omega)
    have h2 := wo_lov 1 (l.take (k + 1)) (by omega) hft
    have h3 := lov_bound (l.take (k + 1))
    have h4 : (128 : Int) ^ (l.take (k + 1)).length ≤ 72057594037927936 := by
      rw [hlen]
      have ht : k = 0 ∨ k = 1 ∨ k = 2 ∨ k = 3 ∨ k = 4 ∨ k = 5 ∨ k = 6 ∨ k = 7 := by omega
      rcases ht with rfl | rfl | rfl | rfl | rfl | rfl | rfl | rfl <;> decide
    rw [ab_one, Int.zero_mul, IntKind.wrap_i64] at h2
    omega
  have hc := canon 10 (l.take (k + 1)) hft (fb_take_succ hfb hk) (by omega)
  rw [hlen, lst_take hk] at hc
  have hS : tS 8 1 l = if l.take (k + 1) = dg 1 10 (lov (l.take (k + 1))) then (lov (l.take (k + 1)), l.drop (k + 1), 0) else (0, [], 4) := by
    unfold tS
    rw [hsp, if_pos rfl, hfb, hlv]
  unfold tU
  rw [hS]
  by_cases hd : l.take (k + 1) = dg 1 10 (lov (l.take (k + 1)))
  · rw [if_pos hd]
    have := hc.1 hd
    have hn : ¬ (gi l k = 0 ∧ 0 < k) := by omega
    simp only [hn, false_or]
  · rw [if_neg hd]
    have : ¬ (k + 1 = 1 ∨ ¬ gi l k = 0) := fun h => hd (hc.2 h)
    rw [if_neg (by simp), if_pos (.inl (by omega))]
theorem tU_trunc {l : List Int} (h : l.length < 8) (hg : ∀ j, j < l.length → 128 ≤ gi l j) : tU l = (0, [], 3) := by
  have hsp := spn_end (most := 8) h hg
  unfold tU
  rw [tS_bad (by rw [hsp]; simp), hsp, if_neg (by simp)]
theorem tU_long {l : List Int} (h : 8 ≤ l.length) (hg : ∀ j, j < 8 → 128 ≤ gi l j) : tU l = (0, [], 4) := by
  have hsp := spn_most (most := 8) h hg
  unfold tU
  rw [tS_bad (by rw [hsp]; simp), hsp, if_neg (by simp)]
end Go.Proofs.Ytdjfdigaokokbaa
