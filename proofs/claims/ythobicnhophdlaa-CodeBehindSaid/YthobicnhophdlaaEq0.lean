/- The helpers: lists of bytes that are held against each other, copied, brought into a range. -/
import Derived.Test.YthobicnhophdlaaProg
import Derived.Test.YthobicnhophdlaaBase
import Derived.Laws.BytesArg
import Derived.Lib.SliceRun
import Derived.Lib.Bytes
namespace Go.Proofs.Ythobicnhophdlaa
open Go.RowKit

/-- A value comes back, and nothing has changed but draws. -/
def Quiet (w : World) (v : Value) (e : Ending) (w' : World) : Prop := e = .returned v ∧ ∃ m, w' = w.drewN m

theorem take_eq_succ {l m : List Int} {k : Nat} (hl : k < l.length) (hm : k < m.length) (h : l.take k = m.take k) (hg : gi l k = gi m k) : l.take (k + 1) = m.take (k + 1) := by
  rw [List.take_succ_eq_append_getElem hl, List.take_succ_eq_append_getElem hm, h]
  simp [gi, List.getD_eq_getElem?_getD, hl, hm] at hg
  rw [hg]

theorem ne_of_gi {l m : List Int} {k : Nat} (hg : ¬ gi l k = gi m k) : ¬ l = m := fun h => hg (by rw [h])

theorem info8 : (Try.prog.info? 5).map (fun i => (i.zero, i.size, i.bytes)) = some (some (.int .u8 0), 1, 1) := by kernel_rfl

theorem copyBytes_any (v : Value) (l : List Int) (w : World) (h : Row w .u8 v l) (hl : l.length ≤ 140737488355328) :
    Calls Try.prog 6 #[v] w (Ret w (fun v' w' => Own w.heap.size w' 5 .u8 v' l)) := by
  go_enter Try.func6, Try.ntmps6
  go_wp2_with (at_builtin; refine wpList_app _ rfl _ _ w.heap.size 22 5 _ 1 .u8 rfl Try.underlying22 info8 rfl (by omega) _ [] rfl (Own.nil _ _ _ _) v l rfl h (by simp; omega) (by simp) ?_)
  intro v' w' ho hg _
  go_wp2
  go_ret
  exact Ret.mk (by simpa using ho) ((Ext.refl _).grown hg (fun g hg => by cases hg))
end Go.Proofs.Ythobicnhophdlaa
