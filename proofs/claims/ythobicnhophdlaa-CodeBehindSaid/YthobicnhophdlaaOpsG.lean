/- The project's table, called: a line, a name, a shape, whether it ends. -/
import Derived.Test.YthobicnhophdlaaOpsE1
import Derived.Test.YthobicnhophdlaaOpsF
namespace Go.Proofs.Ythobicnhophdlaa
open Go.RowKit
set_option linter.unusedVariables false

theorem three_cells {w : World} {g : Nat} {a b c : Value} {T : TypeId} (h : w.heap[g]? = some (.cells #[a, b, c] T (0, 0))) :
    w.cell? ⟨g, 0, none⟩ = some a ∧ w.cell? ⟨g, 1, none⟩ = some b ∧ w.cell? ⟨g, 2, none⟩ = some c ∧ w.frozen? ⟨g, 0, none⟩ = false ∧ w.frozen? ⟨g, 1, none⟩ = false ∧ w.frozen? ⟨g, 2, none⟩ = false :=
  ⟨by rw [cell_of_row w g 0 _ _ (0, 0) h]; rfl, by rw [cell_of_row w g 1 _ _ (0, 0) h]; rfl, by rw [cell_of_row w g 2 _ _ (0, 0) h]; rfl, by simp [World.frozen?, h], by simp [World.frozen?, h], by simp [World.frozen?, h]⟩
theorem name_out {o : Int} (h : ¬ (0 ≤ o ∧ o ≤ 89)) : nameZ o = ⟨#[]⟩ ∧ shapeZ o = 0 ∧ endsZ o = false ∧ inOp o = false := by
  refine ⟨by unfold nameZ; rw [if_neg h], ?_, by unfold endsZ; simp; omega, by unfold inOp; simp; omega⟩
  unfold shapeZ
  repeat' split
  all_goals omega
theorem lineOf_any (o : Int) (w : World) : Calls Try.prog 20 #[.int .i64 o] w fun e w' =>
    e = .returned (.tuple #[.agg #[.string (nameZ o), .int .i64 (shapeZ o), .bool (endsZ o)], .bool (inOp o)]) ∧ Ext w w' := by
  by_cases h : 0 ≤ o ∧ o ≤ 89
  · obtain ⟨h0, h1⟩ := h
    rw [show inOp o = true by unfold inOp; simp; omega]
    have hi := fun W => run_index_lines W o h0 h1
    go_enter Try.func20, Try.ntmps20
    go_wp2_with (go_at_call 29; refine (lines_any _).mono ?_; rintro e w1 ⟨rfl, x1⟩; obtain ⟨c0, c1, c2, f0, f1, f2⟩ := three_cells ((x1.block w.heap.size (by simp)).trans (heap_alloc_new w _)))
    refine bodyPost_ret (v := .tuple #[.agg #[.string (nameZ o), .int .i64 (shapeZ o), .bool (endsZ o)], .bool true]) (by simp [results, Try.results20, go_sem, c0, c1, c2]) rfl ⟨rfl, ?_⟩
    exact (((((Ext.refl w).alloc _).trans x1).set_ (Nat.le_refl _) _).set_ (Nat.le_refl _) _).set_ (Nat.le_refl _) _
  · have h' := h
    obtain ⟨e1, e2, e3, e4⟩ := name_out h
    rw [e1, e2, e3, e4]
    clear e1 e2 e3 e4
    by_cases h0 : o < 0
    · clear h h'
      go_enter Try.func20, Try.ntmps20
      go_wp2
      refine bodyPost_ret (v := .tuple #[.agg #[.string ⟨#[]⟩, .int .i64 0, .bool false], .bool false]) (by simp [results, Try.results20, go_sem]) rfl ⟨rfl, ?_⟩
      exact (Ext.refl w).alloc _
    · have h1 : 89 < o := by omega
      clear h h'
      go_enter Try.func20, Try.ntmps20
      go_wp2
      refine bodyPost_ret (v := .tuple #[.agg #[.string ⟨#[]⟩, .int .i64 0, .bool false], .bool false]) (by simp [results, Try.results20, go_sem]) rfl ⟨rfl, ?_⟩
      exact (Ext.refl w).alloc _
theorem Shape_any (o : Int) (w : World) : Calls Try.prog 37 #[.int .i64 o] w fun e w' => e = .returned (.int .i64 (shapeZ o)) ∧ Ext w w' := by
  go_enter Try.func37, Try.ntmps37
  go_wp2_with (go_at_call 20; refine (lineOf_any _ _).mono ?_; rintro e w1 ⟨rfl, x1⟩)
  go_ret
  exact ⟨rfl, x1.alloc _⟩
theorem Ends_any (o : Int) (w : World) : Calls Try.prog 10 #[.int .i64 o] w fun e w' => e = .returned (.bool (endsZ o)) ∧ Ext w w' := by
  go_enter Try.func10, Try.ntmps10
  go_wp2_with (go_at_call 20; refine (lineOf_any _ _).mono ?_; rintro e w1 ⟨rfl, x1⟩)
  go_ret
  exact ⟨rfl, x1.alloc _⟩
end Go.Proofs.Ythobicnhophdlaa
