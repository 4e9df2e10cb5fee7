/- Whether an instruction may be: the project's numbersMay and keysMay, walked; its words and the plain ones are one. -/
import Derived.Test.YthobicnhophdlaaOpsU
import Derived.BigQuiet
namespace Go.Proofs.Ythobicnhophdlaa
open Go.RowKit
set_option linter.unusedVariables false

theorem boxed {w W : World} {x : In} {v1 v2 : Value} (e : Ext (w.alloc (.cells (x.vals v1 v2) 32)) W) :
    W.cell? ⟨w.heap.size, 0, none⟩ = some (.int .i64 x.a) ∧ W.cell? ⟨w.heap.size, 1, none⟩ = some (.int .i64 x.o) ∧ W.cell? ⟨w.heap.size, 2, none⟩ = some (.int .i64 x.n) ∧ W.cell? ⟨w.heap.size, 3, none⟩ = some (.int .i64 x.m) ∧ W.cell? ⟨w.heap.size, 4, none⟩ = some v1 ∧ W.cell? ⟨w.heap.size, 5, none⟩ = some v2 := by
  have hb := (e.block w.heap.size (by simp)).trans (heap_alloc_new w (.cells (x.vals v1 v2) 32))
  refine ⟨?_, ?_, ?_, ?_, ?_, ?_⟩ <;> rw [cell_of_row W w.heap.size _ _ _ (0, 0) hb] <;> rfl
/-- Do keys stand right, up to so many? -/
def UpTo (l : List Int) (k : Nat) : Prop := ∀ j, j < k → isInt (gi l j) = true ∧ (0 < j → gi l (j - 1) < gi l j)
theorem rise_iff : ∀ (l : List Int), rise l = true ↔ UpTo l l.length
  | [] => ⟨fun _ j hj => by simp at hj, fun _ => rfl⟩
  | [k] => by
    constructor
    · intro h j hj
      have hj : j = 0 := by simpa using hj
      subst hj
      exact ⟨h, fun h => by omega⟩
    · intro h
      exact (h 0 (by simp)).1
  | k :: l :: r => by
    have ih := rise_iff (l :: r)
    rw [rise, Bool.and_eq_true, Bool.and_eq_true, decide_eq_true_eq, ih]
    constructor
    · rintro ⟨⟨h1, h2⟩, h3⟩ j hj
      match j, hj with
      | 0, _ => exact ⟨h1, fun h => by omega⟩
      | 1, _ => exact ⟨(h3 0 (by simp)).1, fun _ => h2⟩
      | j + 2, hj =>
        have := h3 (j + 1) (by simp at hj ⊢; omega)
        exact ⟨this.1, fun _ => this.2 (by omega)⟩
    · intro h
      refine ⟨⟨(h 0 (by simp)).1, (h 1 (by simp)).2 (by omega)⟩, fun j hj => ?_⟩
      have := h (j + 1) (by simp at hj ⊢; omega)
      refine ⟨this.1, fun h0 => ?_⟩
      obtain ⟨i, rfl⟩ : ∃ i, j = i + 1 := ⟨j - 1, by omega⟩
      exact this.2 (by omega)
theorem UpTo.next {l : List Int} {k : Nat} (h : UpTo l k) (h1 : isInt (gi l k) = true) (h2 : 0 < k → gi l (k - 1) < gi l k) : UpTo l (k + 1) := by
  intro j hj
  by_cases e : j = k
  · subst e
    exact ⟨h1, h2⟩
  · exact h j (by omega)
theorem inR_isInt (n : Int) : inR (-2147483648) 2147483647 n = isInt n := rfl
/-- The project's words. -/
def numbersP (x : In) : Bool := if shapeZ x.o = 6 then isInt (x.n + x.to.length - 2) else true
def keysP (x : In) : Bool := if shapeZ x.o = 7 then decide (x.ks.length + 1 = x.to.length) && rise x.ks else decide (x.ks = [])
def mayP (x : In) : Bool := inOp x.o && inR 0 8191 x.a && inR (rnl (shapeZ x.o)) (rnh (shapeZ x.o)) x.n && inR (rml (shapeZ x.o)) (rmh (shapeZ x.o)) x.m && inR (rtl (shapeZ x.o)) (rth (shapeZ x.o)) x.to.length && x.to.all (inR 0 8191) && numbersP x && keysP x
theorem inR_zero {n : Int} : inR 0 0 n = decide (n = 0) := by unfold inR; rw [decide_eq_decide]; omega
theorem inR_len {l : List Int} : inR 0 0 (l.length : Int) = decide (l = []) := by
  rw [inR_zero, decide_eq_decide]
  cases l
  · simp
  · simp; omega
theorem all_mayTo {a : Int} {l : List Int} (h : 0 ≤ a ∧ a < 8192) : l.all (inR 0 8191) = l.all (mayTo a) := by
  congr 1
  funext t
  unfold inR mayTo
  rw [decide_eq_decide]
  omega
theorem mayP_eq (x : In) : mayP x = mayI x := by
  by_cases hp : 0 ≤ x.a ∧ x.a < 8192 ∧ 0 ≤ x.o ∧ x.o ≤ 89
  · have h1 : inOp x.o = true := by unfold inOp; simp; omega
    have h2 : inR 0 8191 x.a = true := by unfold inR; simp; omega
    unfold mayP mayI
    rw [h1, h2, decide_eq_true hp, all_mayTo (a := x.a) ⟨hp.1, hp.2.1⟩]
    clear h1 h2 hp
    obtain ⟨a, o, n, m, to, ks⟩ := x
    simp only
    unfold fieldsOk numbersP keysP
    simp only
    obtain ⟨z, hz⟩ : ∃ z, z = shapeZ o := ⟨_, rfl⟩
    have hz7 := shapeZ_le o
    rw [← hz] at hz7 ⊢
    have hc : z = 0 ∨ z = 1 ∨ z = 2 ∨ z = 3 ∨ z = 4 ∨ z = 5 ∨ z = 6 ∨ z = 7 := by omega
    clear hz hz7
    generalize to.all (mayTo a) = T
    have hkr : ks = [] → rise ks = true := fun e => by rw [e]; rfl
    have hlen : ((to.length : Int) = 0) ↔ to = [] := by cases to <;> simp <;> omega
    rcases hc with rfl | rfl | rfl | rfl | rfl | rfl | rfl | rfl
    all_goals
      simp only [rnl, rnh, rml, rmh, rtl, rth, inR, isInt]
      rw [Bool.eq_iff_iff]
      simp only [Bool.and_eq_true, decide_eq_true_eq, Bool.true_and]
      simp
      first | omega | (constructor <;> intro h <;> simp_all <;> omega) | (constructor <;> intro h <;> simp_all)
  · have h1 : mayI x = false := by unfold mayI; rw [decide_eq_false hp]; rfl
    rw [h1]
    unfold mayP
    have h2 : (inOp x.o && inR 0 8191 x.a) = false := by
      unfold inOp inR
      rw [Bool.and_eq_false_iff, decide_eq_false_iff_not, decide_eq_false_iff_not]
      omega
    rw [h2]
    rfl
end Go.Proofs.Ythobicnhophdlaa
