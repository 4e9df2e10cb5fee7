/- LinkAbove: what the row's cells tell of the program, reckoned. -/
import Derived.Test.YtladeaofhdaloaaDoorRows
import Derived.JoinedCond
namespace Go.Proofs.YtladeaofhdaloaaDoor
theorem linkAbove_joined : joinedFacts Tryd.pinned.checked.prog 4 Tryd.f4 (OpenSpec.ofChange Rows.linkAboveSpec).bare Rows.linkAboveRow = true := by kernel_rfl
end Go.Proofs.YtladeaofhdaloaaDoor
