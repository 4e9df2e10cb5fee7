/- The document's Decode, whole. -/
import Derived.Test.YthobicnhophdlaaOpsDe
import Derived.Test.YthobicnhophdlaaOpsRd
namespace Go.Proofs.Ythobicnhophdlaa
open Go.RowKit
set_option linter.unusedVariables false
end Go.Proofs.Ythobicnhophdlaa
