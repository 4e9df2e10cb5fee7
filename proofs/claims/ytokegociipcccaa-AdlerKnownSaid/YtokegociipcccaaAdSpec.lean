/- Sums of bytes: plain mathematics, no program. -/
import Derived.Test.YtokegociipcccaaBase
namespace Go.Proofs.Ytokegociipcccaa

/-- All numbers of a list together. -/
def sm : List Int → Int
  | [] => 0
  | x :: l => x + sm l
/-- What an upper half gains of a list, from a lower half on, if nothing is divided. -/
def up (a : Int) : List Int → Int
  | [] => 0
  | x :: l => a + x + up (a + x) l
/-- 1 + 2 + .. + n. -/
def tri : Nat → Int
  | 0 => 0
  | n + 1 => tri n + (n + 1)
/-- The lower and the upper half of what comes of going on from a sum. -/
def adL (s : Int) (l : List Int) : Int := (s % 65536 + sm l) % 65521
def adH (s : Int) (l : List Int) : Int := (s / 65536 + up (s % 65536) l) % 65521
def adl (s : Int) (l : List Int) : Int := adH s l * 65536 + adL s l

theorem sm_app (l m : List Int) : sm (l ++ m) = sm l + sm m := by
  induction l with
  | nil => simp [sm]
  | cons x l ih => simp only [List.cons_append, sm, ih]; omega
theorem up_app (a : Int) (l m : List Int) : up a (l ++ m) = up a l + up (a + sm l) m := by
  induction l generalizing a with
  | nil => simp [sm, up]
  | cons x l ih => simp only [List.cons_append, sm, up, ih, Int.add_assoc]
theorem sm_one (x : Int) : sm [x] = x := by simp [sm]
theorem up_one (a x : Int) : up a [x] = a + x := by simp [up]
theorem take_one {l : List Int} {k : Nat} (h : k < l.length) : l.take (k + 1) = l.take k ++ [gi l k] := by
  rw [List.take_succ_eq_append_getElem h]
  simp [gi, h]
theorem sm_take {l : List Int} {k : Nat} (h : k < l.length) : sm (l.take (k + 1)) = sm (l.take k) + gi l k := by
  rw [take_one h, sm_app, sm_one]
theorem up_take (a : Int) {l : List Int} {k : Nat} (h : k < l.length) : up a (l.take (k + 1)) = up a (l.take k) + (a + (sm (l.take k) + gi l k)) := by
  rw [take_one h, up_app, up_one, Int.add_assoc]

theorem Fit.cons {x : Int} {l : List Int} (h : Fit .u8 (x :: l)) : (0 ≤ x ∧ x ≤ 255) ∧ Fit .u8 l :=
  ⟨by have := h.u8 (List.mem_cons_self); omega, fun y hy => h y (List.mem_cons_of_mem _ hy)⟩
theorem sm_bd {l : List Int} (h : Fit .u8 l) : 0 ≤ sm l ∧ sm l ≤ 255 * l.length := by
  induction l with
  | nil => simp [sm]
  | cons x l ih =>
    obtain ⟨hx, hl⟩ := h.cons
    have := ih hl
    simp only [sm, List.length_cons]
    omega
theorem up_bd {l : List Int} (h : Fit .u8 l) {a : Int} (ha : 0 ≤ a) : 0 ≤ up a l ∧ up a l ≤ l.length * a + 255 * tri l.length := by
  induction l generalizing a with
  | nil => simp [up, tri]
  | cons x l ih =>
    obtain ⟨hx, hl⟩ := h.cons
    have := ih hl (a := a + x) (by omega)
    simp only [up, tri, List.length_cons]
    have e : (l.length : Int) * (a + x) = l.length * a + l.length * x := Int.mul_add _ _ _
    have e2 : ((l.length + 1 : Nat) : Int) * a = l.length * a + a := by rw [Int.natCast_succ, Int.add_mul, Int.one_mul]
    have e3 : (l.length : Int) * x ≤ l.length * 255 := Int.mul_le_mul_of_nonneg_left hx.2 (Int.natCast_nonneg _)
    have e4 : 255 * (tri l.length + (l.length + 1)) = 255 * tri l.length + 255 * l.length + 255 := by omega
    omega
theorem tri_mono {m n : Nat} (h : m ≤ n) : tri m ≤ tri n := by
  induction n with
  | zero => rw [Nat.le_zero.1 h]; exact Int.le_refl _
  | succ n ih =>
    by_cases e : m = n + 1
    · rw [e]; exact Int.le_refl _
    · have := ih (by omega)
      simp only [tri]
      omega
theorem tri_two (n : Nat) : 2 * tri n = n * (n + 1) := by
  induction n with
  | zero => rfl
  | succ n ih =>
    simp only [tri, Int.mul_add, ih, Int.natCast_succ, Int.add_mul, Int.mul_one, Int.one_mul]
    omega
theorem tri_most : tri 5552 = 15415128 := by have := tri_two 5552; omega
/-- Behind so many bytes both halves still have room. -/
theorem up_room {l : List Int} (h : Fit .u8 l) {a : Int} (ha : 0 ≤ a) (ha' : a ≤ 65520) (hn : l.length ≤ 5552) : 0 ≤ up a l ∧ up a l ≤ 4294624680 := by
  have h1 := up_bd h ha
  have h2 := tri_mono hn
  rw [tri_most] at h2
  have h3 : (l.length : Int) * a ≤ 5552 * 65520 := Int.le_trans (Int.mul_le_mul_of_nonneg_left ha' (Int.natCast_nonneg _)) (Int.mul_le_mul_of_nonneg_right (by omega) (by decide))
  omega

theorem up_shift (a t : Int) (l : List Int) : up (a + t) l = up a l + t * l.length := by
  induction l generalizing a with
  | nil => simp [up]
  | cons x l ih =>
    simp only [up, List.length_cons]
    rw [show a + t + x = (a + x) + t by omega, ih, Int.natCast_succ, Int.mul_add, Int.mul_one]
    omega
theorem up_mod (a : Int) (l : List Int) (b : Int) : (b + up (a % 65521) l) % 65521 = (b + up a l) % 65521 := by
  have e : a = a % 65521 + 65521 * (a / 65521) := by omega
  conv => rhs; rw [e, up_shift, Int.mul_assoc, ← Int.add_assoc, Int.add_mul_emod_self_left]
theorem lo_step (a : Int) (p q : List Int) : ((a + sm p) % 65521 + sm q) % 65521 = (a + sm (p ++ q)) % 65521 := by
  rw [sm_app, ← Int.add_assoc]
  omega
theorem hi_step (a b : Int) (p q : List Int) : ((b + up a p) % 65521 + up ((a + sm p) % 65521) q) % 65521 = (b + up a (p ++ q)) % 65521 := by
  rw [up_mod, up_app, ← Int.add_assoc]
  omega
theorem adL_bd (s : Int) (l : List Int) : 0 ≤ adL s l ∧ adL s l < 65521 := by unfold adL; omega
theorem adH_bd (s : Int) (l : List Int) : 0 ≤ adH s l ∧ adH s l < 65521 := by unfold adH; omega
theorem adl_bd (s : Int) (l : List Int) : 0 ≤ adl s l ∧ adl s l ≤ 4294967295 := by have := adL_bd s l; have := adH_bd s l; unfold adl; omega
theorem adl_lo (s : Int) (l : List Int) : adl s l % 65536 = adL s l := by have := adL_bd s l; unfold adl; omega
theorem adl_hi (s : Int) (l : List Int) : adl s l / 65536 = adH s l := by have := adL_bd s l; unfold adl; omega
/-- Bytes that come in two pieces have the sum of all. -/
theorem adl_app (s : Int) (l m : List Int) : adl (adl s l) m = adl s (l ++ m) := by
  have e1 : adL (adl s l) m = adL s (l ++ m) := by
    unfold adL
    rw [adl_lo]
    exact lo_step _ _ _
  have e2 : adH (adl s l) m = adH s (l ++ m) := by
    unfold adH
    rw [adl_lo, adl_hi]
    exact hi_step _ _ _ _
  unfold adl at e1 e2 ⊢
  rw [e1, e2]
theorem adl_eq {s : Int} {l m : List Int} : adl s l = adl s m ↔ adL s l = adL s m ∧ adH s l = adH s m := by
  constructor
  · intro h
    exact ⟨by rw [← adl_lo, ← adl_lo, h], by rw [← adl_hi, ← adl_hi, h]⟩
  · rintro ⟨h1, h2⟩
    unfold adl
    rw [h1, h2]
end Go.Proofs.Ytokegociipcccaa
