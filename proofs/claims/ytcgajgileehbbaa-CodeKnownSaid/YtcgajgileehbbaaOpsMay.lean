/- The document's May, whole. -/
import Derived.Test.YtcgajgileehbbaaOpsMayA
import Derived.Test.YtcgajgileehbbaaOpsMayB
import Derived.Test.YtcgajgileehbbaaOpsMayC
import Derived.Test.YtcgajgileehbbaaOpsMayD
import Derived.Test.YtcgajgileehbbaaOpsMayE
namespace Go.Proofs.Ytcgajgileehbbaa
open Go.RowKit
set_option linter.unusedVariables false
theorem refMay_any (x : In) (v1 v2 : Value) (w : World) (h1 : Row w .i64 v1 x.to) (h2 : Row w .i64 v2 x.ks) :
    Calls Try.prog 59 #[.agg (x.vals v1 v2)] w fun e w' => e = .returned (.bool (mayI x)) ∧ Ext w w' := by
  by_cases ho : 0 ≤ x.a ∧ x.a < 8192 ∧ 0 ≤ x.o ∧ x.o ≤ 89
  · have hz := shapeZ_le x.o
    by_cases h : shapeZ x.o ≤ 1
    · exact refMay_A x v1 v2 w h1 h2 ho (by omega)
    · by_cases h : shapeZ x.o ≤ 3
      · exact refMay_B x v1 v2 w h1 h2 ho (by omega)
      · by_cases h : shapeZ x.o ≤ 5
        · exact refMay_C x v1 v2 w h1 h2 ho (by omega)
        · by_cases h : shapeZ x.o = 6
          · exact refMay_D x v1 v2 w h1 h2 ho h
          · exact refMay_E x v1 v2 w h1 h2 ho (by omega)
  · exact refMay_out x v1 v2 w h1 h2 ho
end Go.Proofs.Ytcgajgileehbbaa
