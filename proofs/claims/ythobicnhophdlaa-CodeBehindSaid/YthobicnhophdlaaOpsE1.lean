/- The project's lines, walked whole. -/
import Derived.Test.YthobicnhophdlaaOpsW
import Derived.Test.YthobicnhophdlaaOpsE
namespace Go.Proofs.Ythobicnhophdlaa
open Go.RowKit
set_option linter.unusedVariables false

def Z270 : Array Value := ((List.replicate 90 [Value.string ⟨#[]⟩, .int .i64 0, .bool false]).flatten).toArray
theorem lines_any (w : World) : Calls Try.prog 29 #[] w fun e w' => e = .returned (.agg LINES) ∧ Ext w w' := by
  go_enter Try.func29, Try.ntmps29
  refine wp_seq (wp_region_list ?_)
  refine wpList_alloc_row rfl _ rfl Z270 270 (by kernel_rfl) (by kernel_rfl) ?_
  refine wpList_nil ?_
  refine wp_seq (wp_region_list ?_)
  iterate 91 refine wpList_build rfl _ _ rfl (by kernel_rfl) ?_
  refine wpList_store_row rfl _ _ _ rfl w.heap.size LINES (by kernel_rfl) (by kernel_rfl) 68 Z270 (heap_alloc_new w _) (by kernel_rfl) (by kernel_rfl) (by kernel_rfl) ?_
  refine wpList_nil ?_
  refine wp_ret ?_
  refine bodyPost_ret (v := .agg LINES) (results_cell_row (p := 0) (ty := 68) (by kernel_rfl) _ _ w.heap.size 68 LINES (0, 0) (.array 90 55) (by kernel_rfl) (setRow_heap _ _ Z270 _ _ _ (heap_alloc_new w _)) (by kernel_rfl) rfl (by kernel_rfl)) rfl ⟨rfl, ?_⟩
  exact ((Ext.refl w).alloc _).setRow_ (Nat.le_refl _) _
theorem run_index_lines (w : World) (o : Int) (h0 : 0 ≤ o) (h1 : o ≤ 89) :
    (Instr.index 68 (.agg LINES) (.int .i64 o)).run Try.prog w = .ok (.agg #[.string (nameZ o), .int .i64 (shapeZ o), .bool (endsZ o)]) w := by
  have hp := part_lines o h0 h1
  have hz : 0 ≤ o ∧ o < 90 := by omega
  simp [Instr.index, go_sem]
  rw [if_pos hz, hp]
end Go.Proofs.Ythobicnhophdlaa
