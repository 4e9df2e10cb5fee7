/- The document's May, whole. -/
import Derived.Test.YthobicnhophdlaaOpsMayA
import Derived.Test.YthobicnhophdlaaOpsMayB
import Derived.Test.YthobicnhophdlaaOpsMayC
import Derived.Test.YthobicnhophdlaaOpsMayD
import Derived.Test.YthobicnhophdlaaOpsMayE
namespace Go.Proofs.Ythobicnhophdlaa
open Go.RowKit
set_option linter.unusedVariables false
end Go.Proofs.Ythobicnhophdlaa
