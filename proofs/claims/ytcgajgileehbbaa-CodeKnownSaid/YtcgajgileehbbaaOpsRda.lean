/- The document's Decode, whole. -/
import Derived.Test.YtcgajgileehbbaaOpsDe
import Derived.Test.YtcgajgileehbbaaOpsRd
namespace Go.Proofs.Ytcgajgileehbbaa
open Go.RowKit
set_option linter.unusedVariables false
theorem refDecode_any (v : Value) (l : List Int) (k : Int) (w : World) (h : Row w .u8 v l) (hl : l.length ≤ 140737488355328) :
    Calls Try.prog 35 #[v, .int .i64 k] w (Ret w (DecAns w.heap.size (opsDec l k))) := by
  by_cases hk : k < 0 ∨ (l.length : Int) ≤ k ∨ 8192 ≤ k
  · rw [show opsDec l k = (i0, 0, 9) by unfold opsDec; rw [if_pos hk]]
    exact refDecode_out v l k w h hk
  · obtain ⟨n, rfl⟩ : ∃ n : Nat, k = n := ⟨k.toNat, by omega⟩
    by_cases ho : 89 < gi l n
    · rw [dec_at (by omega) (by omega), if_pos ho]
      exact refDecode_op v l n w h (by omega) (by omega) ho
    · exact refDecode_in v l n w h hl (by omega) (by omega) (by omega)
end Go.Proofs.Ytcgajgileehbbaa
