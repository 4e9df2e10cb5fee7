/- LinkArrays: what the row's cells tell of the program, reckoned. -/
import Derived.Test.YtladeaofhdaloaaDoorRows
import Derived.JoinedCond
namespace Go.Proofs.YtladeaofhdaloaaDoor
theorem linkArrays_joined : joinedFacts Tryd.pinned.checked.prog 10 Tryd.f10 (OpenSpec.ofChange Rows.linkArraysSpec).bare Rows.linkArraysRow = true := by kernel_rfl
end Go.Proofs.YtladeaofhdaloaaDoor
