/- ClassBack: what the row's cells tell of the program, reckoned. -/
import Derived.Test.YtokmeomjdpfknaaGreatDoorRows
import Derived.JoinedCond
namespace Go.Proofs.YtokmeomjdpfknaaGreatDoor
theorem classBack_joined : joinedFacts Tryz.pinned.checked.prog 5 Tryz.f5 (Rows.OpenSpec.upto Rows.classBackSpec).bare Rows.classBackUptoRow = true := by kernel_rfl
end Go.Proofs.YtokmeomjdpfknaaGreatDoor
