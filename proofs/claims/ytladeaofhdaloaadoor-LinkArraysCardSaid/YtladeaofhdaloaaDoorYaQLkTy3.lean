/- What types of a set's classes tell: arrays of classes. -/
import Derived.Test.YtladeaofhdaloaaDoorYaQLkTy2
namespace Go.Proofs.YtladeaofhdaloaaDoor
open Go.RowKit
set_option linter.unusedVariables false
theorem find_built (r : List Kl) (i : Nat) (h : i < 8) : findZ (builtZ ++ r) (gk builtZ i).nm = i := by
  rcases i with _ | _ | _ | _ | _ | _ | _ | _ | i
  all_goals first
    | omega
    | (unfold findZ builtZ gk; simp [findA, nObj, nThr])
section
variable {B s : Nat} {N : List Kl} {w : World}
theorem SetIs.self (h : SetIs B s N w) {x : Nat} (hx : x < N.length) : findZ N (gk N x).nm = x := by
  rcases Nat.lt_or_ge x 8 with h8 | h8
  · obtain ⟨r, hr⟩ := h.bl
    rw [hr, gk_built r x h8]
    exact find_built r x h8
  · have h1 := (fltZ_none.1 h.flt x h8 hx).1
    unfold flt1 at h1
    split at h1
    · assumption
    · cases h1
theorem SetIs.obj (h : SetIs B s N w) : findZ N nObj = 0 := by
  obtain ⟨r, hr⟩ := h.bl
  rw [hr]
  exact find_obj r
theorem SetIs.name_eq (h : SetIs B s N w) {x y : Nat} (hx : x < N.length) (hy : y < N.length) : (gk N x).nm = (gk N y).nm ↔ x = y := by
  constructor
  · intro e
    have h1 := h.self hx
    rw [e, h.self hy] at h1
    omega
  · intro e; rw [e]
theorem SetIs.name_obj (h : SetIs B s N w) {y : Nat} (hy : y < N.length) : (gk N y).nm = nObj ↔ y = 0 := by
  constructor
  · intro e
    have h1 := h.self hy
    rw [e, h.obj] at h1
    omega
  · intro e
    subst e
    obtain ⟨r, hr⟩ := h.bl
    rw [hr, gk_built r 0 (by omega)]
    rfl
theorem SetIs.ref36 (h : SetIs B s N w) {x : Nat} (hx : x < N.length) {k : Int} (hk : k = 3 ∨ k = 6) : refZ N k (gk N x).nm = true := by
  unfold refZ mayZ
  rw [if_pos hk, h.self hx]
  simp
  omega
theorem SetIs.bt66 (h : SetIs B s N w) {x y : Nat} (hx : x < N.length) (hy : y < N.length) : belowTy N 6 (gk N x).nm 6 (gk N y).nm = belowZ N x y := by
  unfold belowTy
  rw [h.ref36 hx (.inr rfl), h.ref36 hy (.inr rfl), h.self hx, h.self hy]
  unfold eqTy
  by_cases e : x = y
  · subst e
    simp [below_refl h.ok hx]
  · have e2 : ¬ (gk N x).nm = (gk N y).nm := fun h1 => e ((h.name_eq hx hy).1 h1)
    simp [e2]
theorem SetIs.bt33 (h : SetIs B s N w) {x y : Nat} (hx : x < N.length) (hy : y < N.length) : belowTy N 3 (gk N x).nm 3 (gk N y).nm = belowZ N x y := by
  unfold belowTy
  rw [h.ref36 hx (.inl rfl), h.ref36 hy (.inl rfl), h.self hx, h.self hy]
  unfold eqTy
  by_cases e : x = y
  · subst e
    simp [below_refl h.ok hx]
  · have e2 : ¬ (gk N x).nm = (gk N y).nm := fun h1 => e ((h.name_eq hx hy).1 h1)
    by_cases e0 : y = 0
    · subst e0
      have e3 := (h.name_obj hy).2 rfl
      have := below_top h.ok hx
      simp [e3]
      exact this
    · have e3 : ¬ (gk N y).nm = nObj := fun h1 => e0 ((h.name_obj hy).1 h1)
      simp [e2, e3]
theorem SetIs.bt63 (h : SetIs B s N w) {x y : Nat} (hx : x < N.length) (hy : y < N.length) : belowTy N 6 (gk N x).nm 3 (gk N y).nm = decide (y = 0) := by
  unfold belowTy
  rw [h.ref36 hx (.inr rfl), h.ref36 hy (.inl rfl)]
  unfold eqTy
  by_cases e0 : y = 0
  · subst e0
    have e3 := (h.name_obj hy).2 rfl
    simp [e3]
  · have e3 : ¬ (gk N y).nm = nObj := fun h1 => e0 ((h.name_obj hy).1 h1)
    simp [e3, e0]
theorem SetIs.bt36 (h : SetIs B s N w) {x y : Nat} (hx : x < N.length) (hy : y < N.length) : belowTy N 3 (gk N x).nm 6 (gk N y).nm = false := by
  unfold belowTy eqTy
  simp
theorem SetIs.bt43 (h : SetIs B s N w) : belowTy N 4 ⟨#[]⟩ 3 nObj = true := by
  unfold belowTy refZ mayZ eqTy
  simp [h.obj]
theorem SetIs.bt45 (h : SetIs B s N w) : belowTy N 4 ⟨#[]⟩ 5 ⟨#[]⟩ = false := by
  unfold belowTy eqTy
  simp
end
end Go.Proofs.YtladeaofhdaloaaDoor
