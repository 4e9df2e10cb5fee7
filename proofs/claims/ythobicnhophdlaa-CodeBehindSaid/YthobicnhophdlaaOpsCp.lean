/- The document's Copy: an instruction in memory of its own. -/
import Derived.Test.YthobicnhophdlaaOpsDe
namespace Go.Proofs.Ythobicnhophdlaa
open Go.RowKit
set_option linter.unusedVariables false

theorem two_at' (w : World) (A B : Obj) : ((w.alloc A).alloc B).heap[w.heap.size + 1]? = some B := by
  have h := heap_alloc_new (w.alloc A) B
  rwa [show (w.alloc A).heap.size = w.heap.size + 1 by simp] at h
theorem three_at' (w : World) (A B C : Obj) : (((w.alloc A).alloc B).alloc C).heap[w.heap.size + 2]? = some C := by
  have h := heap_alloc_new ((w.alloc A).alloc B) C
  rwa [show ((w.alloc A).alloc B).heap.size = w.heap.size + 2 by simp] at h
theorem XP.at_ {w w' : World} {h : Nat} {x : In} {v1 v2 : Value} (H : XP w h x v1 v2) (e : Ext w w') : XP w' h x v1 v2 := (e.block h H.lt).trans H
/-- What a copy is. -/
def CopyAns (B : Nat) (x : In) (v : Value) (w' : World) : Prop := ∃ u1 u2, v = .agg (x.vals u1 u2) ∧ Own B w' 3 .i64 u1 x.to ∧ Own B w' 3 .i64 u2 x.ks ∧ ∀ b, u1.ownBlock = some b → u2.ownBlock ≠ some b
end Go.Proofs.Ythobicnhophdlaa
