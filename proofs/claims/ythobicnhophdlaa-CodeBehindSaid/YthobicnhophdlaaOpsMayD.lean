/- The document's May, walked: shapes 6. -/
import Derived.Test.YthobicnhophdlaaOpsMay0
import Derived.LoopN
import Derived.BigQuiet
import Derived.Deep.QuietTactic
import Derived.Deep.RegionHeld3
namespace Go.Proofs.Ythobicnhophdlaa
open Go.RowKit
set_option linter.unusedVariables false
end Go.Proofs.Ythobicnhophdlaa
