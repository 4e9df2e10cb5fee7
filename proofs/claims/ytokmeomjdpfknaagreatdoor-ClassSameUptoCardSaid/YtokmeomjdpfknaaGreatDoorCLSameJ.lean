/- ClassSame: what the row's cells tell of the program, reckoned. -/
import Derived.Test.YtokmeomjdpfknaaGreatDoorRows
import Derived.JoinedCond
namespace Go.Proofs.YtokmeomjdpfknaaGreatDoor
theorem classSame_joined : joinedFacts Tryz.pinned.checked.prog 8 Tryz.f8 (Rows.OpenSpec.upto Rows.classSameSpec).bare Rows.classSameUptoRow = true := by kernel_rfl
end Go.Proofs.YtokmeomjdpfknaaGreatDoor
