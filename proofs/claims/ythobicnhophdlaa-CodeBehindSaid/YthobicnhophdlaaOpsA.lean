/- The document's own answers of instructions, the leaves: shapes, which end, ints, places. -/
import Derived.Test.YthobicnhophdlaaOpsSpec
import Derived.Test.YthobicnhophdlaaProg
import Derived.Laws.StructEq
import Derived.RegionTactic
namespace Go.Proofs.Ythobicnhophdlaa
open Go.RowKit
set_option linter.unusedVariables false

/-- An instruction's cells: its four numbers, and the slices that read as its lists. -/
def In.vals (x : In) (v1 v2 : Value) : Array Value := #[.int .i64 x.a, .int .i64 x.o, .int .i64 x.n, .int .i64 x.m, v1, v2]
end Go.Proofs.Ythobicnhophdlaa
