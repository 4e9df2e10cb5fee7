/- The document's reader at work on an instruction: numbers off its bytes; one state for all blocks. -/
import Derived.Test.YthobicnhophdlaaOpsDe
import Derived.Test.YthobicnhophdlaaOpsD
namespace Go.Proofs.Ythobicnhophdlaa
open Go.RowKit
set_option linter.unusedVariables false

section
variable {w0 w w' : World} {h g c0 : Nat} {x : In} {v1 v2 v : Value} {b : List Int} {q : List Int × Bool}
end
end Go.Proofs.Ythobicnhophdlaa
