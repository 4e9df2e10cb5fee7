/- Several texts of this proof, one behind the other. -/
import Derived.Test.YtecgldkhjgcffaaDoorZsB
import Derived.Test.YtecgldkhjgcffaaDoorZsA
import Derived.Deep.RegionWith
/- The document's answers of layer 1, walked. -/
namespace Go.Proofs.YtecgldkhjgcffaaDoor
open Go.RowKit
set_option linter.unusedVariables false

end Go.Proofs.YtecgldkhjgcffaaDoor
/- The document's answers of layer 1, walked: short numbers taken off. -/
namespace Go.Proofs.YtecgldkhjgcffaaDoor
open Go.RowKit
set_option linter.unusedVariables false

/-- The number that digits tell, the lowest one first. -/
def lov : List Int → Int
  | [] => 0
  | x :: r => x % 128 + 128 * lov r
end Go.Proofs.YtecgldkhjgcffaaDoor
/- The document's answer of layer 1, walked: TakeS. -/
namespace Go.Proofs.YtecgldkhjgcffaaDoor
open Go.RowKit
set_option linter.unusedVariables false

end Go.Proofs.YtecgldkhjgcffaaDoor
