/- ClassWrites: what the row's cells tell of the program, reckoned. -/
import Derived.Test.YtclamhhgldkhnaaGreatDoorRows
import Derived.JoinedCond
namespace Go.Proofs.YtclamhhgldkhnaaGreatDoor
theorem classWrites_joined : joinedFacts Tryz.pinned.checked.prog 3 Tryz.f3 (Rows.OpenSpec.upto Rows.classWritesSpec).bare Rows.classWritesUptoRow = true := by kernel_rfl
end Go.Proofs.YtclamhhgldkhnaaGreatDoor
