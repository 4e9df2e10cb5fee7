/- ClassLess: what the row's cells tell of the program, reckoned. -/
import Derived.Test.YtokmeomjdpfknaaGreatDoorRows
import Derived.JoinedCond
namespace Go.Proofs.YtokmeomjdpfknaaGreatDoor
theorem classLess_joined : joinedFacts Tryz.pinned.checked.prog 9 Tryz.f9 (Rows.OpenSpec.upto Rows.classLessSpec).bare Rows.classLessUptoRow = true := by kernel_rfl
end Go.Proofs.YtokmeomjdpfknaaGreatDoor
