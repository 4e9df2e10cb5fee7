/- Several texts of this proof, one behind the other. -/
import Derived.Test.YtecgldkhjgcffaaDoorZsC
/- The document's answer of layer 1, walked: TakeU. -/
namespace Go.Proofs.YtecgldkhjgcffaaDoor
open Go.RowKit
set_option linter.unusedVariables false

end Go.Proofs.YtecgldkhjgcffaaDoor
