/- LinkNumbers: what the row's cells tell of the program, reckoned. -/
import Derived.Test.YtkkfkjjmmdpafaaDoorRows
import Derived.JoinedCond
namespace Go.Proofs.YtkkfkjjmmdpafaaDoor
theorem linkNumbers_joined : joinedFacts Tryd.pinned.checked.prog 3 Tryd.f3 (OpenSpec.ofChange Rows.linkNumbersSpec).bare Rows.linkNumbersRow = true := by kernel_rfl
end Go.Proofs.YtkkfkjjmmdpafaaDoor
