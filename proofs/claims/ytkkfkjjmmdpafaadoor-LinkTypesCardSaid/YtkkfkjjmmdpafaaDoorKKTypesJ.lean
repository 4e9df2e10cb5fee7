/- LinkTypes: what the row's cells tell of the program, reckoned. -/
import Derived.Test.YtkkfkjjmmdpafaaDoorRows
import Derived.JoinedCond
namespace Go.Proofs.YtkkfkjjmmdpafaaDoor
theorem linkTypes_joined : joinedFacts Tryd.pinned.checked.prog 5 Tryd.f5 (OpenSpec.ofChange Rows.linkTypesSpec).bare Rows.linkTypesRow = true := by kernel_rfl
end Go.Proofs.YtkkfkjjmmdpafaaDoor
