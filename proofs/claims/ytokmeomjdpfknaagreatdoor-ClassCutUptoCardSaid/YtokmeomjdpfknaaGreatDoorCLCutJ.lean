/- ClassCut: what the row's cells tell of the program, reckoned. -/
import Derived.Test.YtokmeomjdpfknaaGreatDoorRows
import Derived.JoinedCond
namespace Go.Proofs.YtokmeomjdpfknaaGreatDoor
theorem classCut_joined : joinedFacts Tryz.pinned.checked.prog 7 Tryz.f7 (Rows.OpenSpec.upto Rows.classCutSpec).bare Rows.classCutUptoRow = true := by kernel_rfl
end Go.Proofs.YtokmeomjdpfknaaGreatDoor
