/- LinkSteps: what the row's cells tell of the program, reckoned. -/
import Derived.Test.YtladeaofhdaloaaDoorRows
import Derived.JoinedCond
namespace Go.Proofs.YtladeaofhdaloaaDoor
theorem linkSteps_joined : joinedFacts Tryd.pinned.checked.prog 7 Tryd.f7 (OpenSpec.ofChange Rows.linkStepsSpec).bare Rows.linkStepsRow = true := by kernel_rfl
end Go.Proofs.YtladeaofhdaloaaDoor
