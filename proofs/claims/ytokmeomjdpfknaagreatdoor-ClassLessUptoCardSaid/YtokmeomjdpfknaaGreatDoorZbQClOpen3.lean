/- A parameter that is an array of three ints, opened. -/
import Derived.Test.YtokmeomjdpfknaaGreatDoorZbN
import Derived.Laws.IdiomArrays
namespace Go.Proofs.YtokmeomjdpfknaaGreatDoor
open Go.RowKit Go.ChangeShapes Go.WideShapes Go.Deep
set_option linter.unusedVariables false
set_option maxRecDepth 100000 in
theorem open_ints3 {H : Type} {enc : TypeId × Value → H} {w : World} {r : Reach} {base : Nat} {v : Value} {d : DataW H} {p : List MemPlace} (ho : Value.okWide Tryz.prog w r base 54 v)
    (h : ∃ fuel, DataW.trod enc Tryz.prog w 0 (fun _ => true) true fuel 54 v.cells.toList = some (d, p)) : ∃ a b c : Int, v = .agg #[.int .i64 a, .int .i64 b, .int .i64 c] ∧ B64 a ∧ B64 b ∧ B64 c := by
  obtain ⟨fuel, h⟩ := h
  simp only [Value.okWide, Tryz.underlying54] at ho
  obtain ⟨cs, rfl, hs, -⟩ := ho
  have hc : cs.size = 3 := hs.trans (by kernel_rfl)
  obtain ⟨l⟩ := cs
  match l, hc with
  | [c0, c1, c2], _ =>
    have h' : DataW.trod enc Tryz.prog w 0 (fun _ => true) true fuel 54 [c0, c1, c2] = some (d, p) := by simpa [Value.cells] using h
    obtain ⟨y0, y1, y2, n, -, h0, h1, h2⟩ := trod_array3 Tryz.underlying54 (by kernel_rfl) h'
    obtain ⟨x0, e0, -, w0⟩ := DataW.trod_int Tryz.underlying3 h0
    obtain ⟨x1, e1, -, w1⟩ := DataW.trod_int Tryz.underlying3 h1
    obtain ⟨x2, e2, -, w2⟩ := DataW.trod_int Tryz.underlying3 h2
    injection e0 with e0
    injection e1 with e1
    injection e2 with e2
    subst e0 e1 e2
    exact ⟨x0, x1, x2, rfl, bounds_i64 w0, bounds_i64 w1, bounds_i64 w2⟩
end Go.Proofs.YtokmeomjdpfknaaGreatDoor
