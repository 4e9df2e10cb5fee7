/- LinkCommon: what the row's cells tell of the program, reckoned. -/
import Derived.Test.YtladeaofhdaloaaDoorRows
import Derived.JoinedCond
namespace Go.Proofs.YtladeaofhdaloaaDoor
theorem linkCommon_joined : joinedFacts Tryd.pinned.checked.prog 8 Tryd.f8 (OpenSpec.ofChange Rows.linkCommonSpec).bare Rows.linkCommonRow = true := by kernel_rfl
end Go.Proofs.YtladeaofhdaloaaDoor
