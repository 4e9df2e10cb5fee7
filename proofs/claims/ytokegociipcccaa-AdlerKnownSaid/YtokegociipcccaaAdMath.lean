/- Sums of bytes: what follows: plain mathematics, no program. -/
import Derived.Test.YtokegociipcccaaAdSpec
namespace Go.Proofs.Ytokegociipcccaa

/-- Each number as many times as there are from it on, of n from the first one on. -/
def wt (n : Int) : List Int → Int
  | [] => 0
  | x :: l => x * n + wt (n - 1) l
theorem up_wt (a : Int) (l : List Int) : up a l = l.length * a + wt l.length l := by
  induction l generalizing a with
  | nil => simp [up, wt]
  | cons x l ih =>
    simp only [up, wt, List.length_cons, ih, Int.natCast_succ]
    rw [show (l.length : Int) + 1 - 1 = l.length by omega, Int.mul_add, Int.add_mul, Int.one_mul, Int.mul_add x, Int.mul_one, Int.mul_comm x]
    omega
theorem wt_app (n : Int) (l m : List Int) : wt n (l ++ m) = wt n l + wt (n - l.length) m := by
  induction l generalizing n with
  | nil => simp [wt]
  | cons x l ih =>
    simp only [List.cons_append, wt, ih, List.length_cons, Int.natCast_succ]
    rw [show n - 1 - (l.length : Int) = n - (l.length + 1) by omega]
    omega
theorem wt_one (n x : Int) : wt n [x] = x * n := by simp [wt]
theorem wt_take (n : Int) {l : List Int} {k : Nat} (h : k < l.length) : wt n (l.take (k + 1)) = wt n (l.take k) + gi l k * (n - k) := by
  rw [take_one h, wt_app, wt_one, show (l.take k).length = k by rw [List.length_take]; omega]
theorem prod_u8 {x n : Int} (hx : 0 ≤ x ∧ x ≤ 255) (hn : 0 ≤ n) (hn' : n ≤ 50000) : 0 ≤ x * n ∧ x * n ≤ 12750000 :=
  ⟨Int.mul_nonneg hx.1 hn, Int.le_trans (Int.mul_le_mul_of_nonneg_right hx.2 hn) (by omega)⟩
theorem wt_bd {l : List Int} (h : Fit .u8 l) {n : Int} (hn : (l.length : Int) ≤ n) (hn' : n ≤ 50000) : 0 ≤ wt n l ∧ wt n l ≤ 12750000 * l.length := by
  induction l generalizing n with
  | nil => simp [wt]
  | cons x l ih =>
    obtain ⟨hx, hl⟩ := h.cons
    rw [List.length_cons] at hn
    have h1 := ih hl (n := n - 1) (by omega) (by omega)
    have h2 := prod_u8 hx (n := n) (by omega) hn'
    simp only [wt, List.length_cons]
    omega
theorem sm_set {l : List Int} {k : Nat} (h : k < l.length) (y : Int) : sm (l.set k y) = sm l + (y - gi l k) := by
  induction l generalizing k with
  | nil => simp at h
  | cons x l ih =>
    cases k with
    | zero => simp only [List.set_cons_zero, sm, gi, List.getD_cons_zero]; omega
    | succ k =>
      have := ih (k := k) (by simpa using h)
      simp only [gi] at this
      simp only [List.set_cons_succ, sm, gi, List.getD_cons_succ, this]
      omega
theorem wt_set {l : List Int} {k : Nat} (h : k < l.length) (n y : Int) : wt n (l.set k y) = wt n l + (y - gi l k) * (n - k) := by
  induction l generalizing k n with
  | nil => simp at h
  | cons x l ih =>
    cases k with
    | zero => simp [wt, gi, Int.sub_mul]; omega
    | succ k =>
      have := ih (k := k) (by simpa using h) (n - 1)
      simp only [gi] at this
      simp only [List.set_cons_succ, wt, gi, List.getD_cons_succ, this, Int.natCast_succ]
      rw [show n - 1 - (k : Int) = n - (k + 1) by omega]
      omega
theorem gi_set_ne {l : List Int} {i k : Nat} (h : i ≠ k) (y : Int) : gi (l.set i y) k = gi l k := by
  simp [gi, List.getElem?_set_ne h]
theorem gi_set_same {l : List Int} {i : Nat} (h : i < l.length) (y : Int) : gi (l.set i y) i = y := by
  simp [gi, h]
theorem set_same (l : List Int) (k : Nat) : l.set k (gi l k) = l := by
  induction l generalizing k with
  | nil => rfl
  | cons x l ih =>
    cases k with
    | zero => rfl
    | succ k =>
      have := ih k
      simp only [gi] at this
      simp only [gi, List.set_cons_succ, List.getD_cons_succ, this]
theorem adL_one (l : List Int) : adL 1 l = (1 + sm l) % 65521 := by
  unfold adL
  rfl
theorem adH_one (l : List Int) : adH 1 l = (l.length + wt l.length l) % 65521 := by
  unfold adH
  rw [show (1 : Int) / 65536 = 0 from rfl, show (1 : Int) % 65536 = 1 from rfl, up_wt]
  omega

/-- If one byte is another one, the sum is another one. -/
theorem adl_one_byte {l : List Int} {k : Nat} (h : k < l.length) (hf : Fit .u8 l) {y : Int} (hy : 0 ≤ y ∧ y ≤ 255) (hne : y ≠ gi l k) : ¬ adl 1 l = adl 1 (l.set k y) := by
  rw [adl_eq]
  rintro ⟨h1, _⟩
  rw [adL_one, adL_one, sm_set h] at h1
  have := hf.u8 (gi_mem h)
  omega
theorem no_prod {d e : Nat} (hd0 : 0 < d) (hd : d < 65521) (he0 : 0 < e) (he : e < 256) : ¬ 65521 ∣ d * e := by
  intro h
  have hc : ∀ e, e < 256 → 0 < e → Nat.gcd 65521 e = 1 := by decide +kernel
  have := Nat.le_of_dvd hd0 (Nat.Coprime.dvd_of_dvd_mul_right (hc e he he0) h)
  omega
theorem no_prod_int {d e : Int} (hd0 : d ≠ 0) (hd : d < 65521) (hd' : -65521 < d) (he0 : e ≠ 0) (he : e ≤ 255) (he' : -255 ≤ e) : ¬ (65521 : Int) ∣ d * e := by
  intro h
  have h1 : (65521 : Nat) ∣ d.natAbs * e.natAbs := by
    rw [← Int.natAbs_mul]
    exact Int.natAbs_dvd_natAbs.2 h
  exact no_prod (by omega) (by omega) (by omega) (by omega) h1
theorem cross (D n i k : Int) : D * (n - i) + -D * (n - k) = (k - i) * D := by
  rw [Int.neg_mul, Int.mul_sub, Int.mul_sub, Int.sub_mul, Int.mul_comm k, Int.mul_comm i]
  omega
/-- If two bytes change places. -/
def swp (l : List Int) (i k : Nat) : List Int := (l.set i (gi l k)).set k (gi l i)
theorem swp_len (l : List Int) (i k : Nat) : (swp l i k).length = l.length := by simp [swp]
theorem swp_same {l : List Int} {i k : Nat} (h : gi l i = gi l k) : swp l i k = l := by
  unfold swp
  rw [← h, set_same, h, set_same]
theorem swp_wt {l : List Int} {i k : Nat} (hi : i < l.length) (hk : k < l.length) (n : Int) : wt n (swp l i k) = wt n l + ((k : Int) - i) * (gi l k - gi l i) := by
  unfold swp
  by_cases h : i = k
  · subst h
    rw [set_same, set_same]
    simp
  · rw [wt_set (by simpa using hk), wt_set hi, gi_set_ne h]
    rw [show gi l i - gi l k = -(gi l k - gi l i) by omega, Int.add_assoc, cross]
theorem adl_swap {l : List Int} {i k : Nat} (hi : i < l.length) (hk : k < l.length) (hf : Fit .u8 l) (h1 : (i : Int) - k < 65521) (h2 : (k : Int) - i < 65521) : adl 1 l = adl 1 (swp l i k) ↔ gi l i = gi l k := by
  constructor
  · intro h
    have h3 := (adl_eq.1 h).2
    rw [adH_one, adH_one, swp_len, swp_wt hi hk] at h3
    by_cases he : gi l i = gi l k
    · exact he
    · have hx := hf.u8 (gi_mem hi)
      have hy := hf.u8 (gi_mem hk)
      have hik : i ≠ k := fun e => he (by rw [e])
      refine (no_prod_int (d := (k : Int) - i) (e := gi l k - gi l i) (by omega) (by omega) (by omega) (by omega) (by omega) (by omega) ?_).elim
      omega
  · intro h
    rw [swp_same h]
end Go.Proofs.Ytokegociipcccaa
