/- bytes.Clone. -/
import Derived.Test.YthobicnhophdlaaEq0
namespace Go.Proofs.Ythobicnhophdlaa
open Go.RowKit

theorem clone_any (v : Value) (l : List Int) (w : World) (h : Row w .u8 v l) (hl : l.length ≤ 140737488355328) :
    Calls Try.prog 61 #[v] w (Ret w (fun v' w' => Own w.heap.size w' 5 .u8 v' l)) := by
  obtain ⟨A, c, rfl, h2, h3, h4, h5, h6⟩ := h
  have hq := fun (W : World) (A : Option Addr) (n c : Nat) => Lib.run_eql_slice_nil (P := Try.prog) W 22 5 A n c 0 0 Try.underlying22
  rcases A with _ | ad
  · have hc := h4 rfl
    have hl : l = [] := List.eq_nil_of_length_eq_zero (by omega)
    subst hl
    subst hc
    clear h6 h5 h4
    go_enter Try.func61, Try.ntmps61
    go_wp2
    go_ret
    exact Ret.mk (Own.nil _ _ _ _) (Ext.refl _)
  · have h : Row w .u8 (.slice (some ad) l.length c) l := ⟨_, _, rfl, h2, h3, h4, h5, h6⟩
    clear h6 h5 h4
    go_enter Try.func61, Try.ntmps61
    go_wp2_with (at_builtin; go_loud (refine wpList_app _ rfl _ _ w.heap.size 22 5 _ 1 .u8 rfl Try.underlying22 info8 rfl (by omega) _ [] rfl (Own.made _ _ _ _ (Nat.le_refl _)) _ l rfl ?hh (by simp; omega) (by simp) ?_))
    case hh => exact h.ext ((Ext.refl _).alloc _)
    intro v' w' ho hg _
    go_wp2
    go_ret
    exact Ret.mk (by simpa using ho) (((Ext.refl _).alloc _).grown hg (fun g hg => by simp [Value.ownBlock] at hg; omega))

end Go.Proofs.Ythobicnhophdlaa
