/- LinkOrder: what the row's cells tell of the program, reckoned. -/
import Derived.Test.YtladeaofhdaloaaDoorRows
import Derived.JoinedCond
namespace Go.Proofs.YtladeaofhdaloaaDoor
theorem linkOrder_joined : joinedFacts Tryd.pinned.checked.prog 6 Tryd.f6 (OpenSpec.ofChange Rows.linkOrderSpec).bare Rows.linkOrderRow = true := by kernel_rfl
end Go.Proofs.YtladeaofhdaloaaDoor
