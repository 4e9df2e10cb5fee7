/- Several texts of this proof, one behind the other. -/
import Derived.Test.YtecgldkhjgcffaaDoorZsH
import Derived.LoopN
/- The document's answer for texts: what is written in one to three bytes from a place on, and the character there. -/
namespace Go.Proofs.YtecgldkhjgcffaaDoor
open Go.RowKit
set_option linter.unusedVariables false

theorem gi_out {b : List Int} {j : Nat} (h : b.length ≤ j) : gi b j = 0 := by
  unfold gi
  rw [List.getD_eq_getElem?_getD, List.getElem?_eq_none h]
  rfl
/-- What 'unit' answers, of its three numbers and how many there are. -/
def unitN (L : Nat) (x0 x1 x2 : Int) : Int × Nat :=
  if 1 ≤ L ∧ 1 ≤ x0 ∧ x0 ≤ 127 then (x0, 1)
  else if 2 ≤ L ∧ x0 / 32 = 6 ∧ x1 / 64 = 2 then (x0 % 32 * 64 + x1 % 64, 2)
  else if 3 ≤ L ∧ x0 / 16 = 14 ∧ x1 / 64 = 2 ∧ x2 / 64 = 2 then (x0 % 16 * 4096 + x1 % 64 * 64 + x2 % 64, 3)
  else (0, 0)
/-- What 'unit' gives back. -/
def UnitAns (w : World) (u : Int × Nat) (e : Ending) (w' : World) : Prop := e = .returned (.tuple #[.int .i64 u.1, .int .i64 u.2]) ∧ Ext w w'

set_option maxHeartbeats 4000000 in
theorem unit_N0 (w : World) (bl o len c n : Nat) (x0 x1 x2 : Int) (g0 : 0 ≤ x0) (g0' : x0 < 256) (g1 : 0 ≤ x1) (g1' : x1 < 256) (g2 : 0 ≤ x2) (g2' : x2 < 256) (hlc : len ≤ c) (hc : c ≤ 9223372036854775807) (hl : len = n) (hbl : bl < w.heap.size) :
    Calls Tryd.prog 107 #[.slice (some ⟨bl, o, none⟩) len c, .int .i64 n] w (UnitAns w (0, 0)) := by
  go_enter Tryd.func107, Tryd.ntmps107
  go_wp2

  refine wp_loop_rounds 1 ?_
  rw [rounds_succ]
  go_wp2
  go_ret2
  exact ⟨rfl, (Ext.refl _).alloc _⟩

end Go.Proofs.YtecgldkhjgcffaaDoor
