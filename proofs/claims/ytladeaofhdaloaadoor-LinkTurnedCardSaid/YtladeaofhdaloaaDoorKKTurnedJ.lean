/- LinkTurned: what the row's cells tell of the program, reckoned. -/
import Derived.Test.YtladeaofhdaloaaDoorRows
import Derived.JoinedCond
namespace Go.Proofs.YtladeaofhdaloaaDoor
theorem linkTurned_joined : joinedFacts Tryd.pinned.checked.prog 9 Tryd.f9 (OpenSpec.ofChange Rows.linkTurnedSpec).bare Rows.linkTurnedRow = true := by kernel_rfl
end Go.Proofs.YtladeaofhdaloaaDoor
