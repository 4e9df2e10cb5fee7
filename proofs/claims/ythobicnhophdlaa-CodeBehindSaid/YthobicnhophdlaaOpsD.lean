/- The document's own reader of numbers, walked. -/
import Derived.Test.YthobicnhophdlaaOpsC
import Derived.Test.YthobicnhophdlaaOwn
namespace Go.Proofs.Ythobicnhophdlaa
open Go.RowKit
set_option linter.unusedVariables false

theorem wraps_64 (n : Int) (h₀ : 0 ≤ n) (h₁ : n < 2 ^ 63) : IntKind.i64.wrap n = n := by rw [IntKind.wrap_i64]; omega
theorem or_byte (x y : Int) (h0 : 0 ≤ x) (h1 : x < 16777216) (hy : B8 y) : bits .or .i64 (x * 256) y = x * 256 + y := by
  unfold B8 at hy
  exact bits_join .i64 63 (by decide) wraps_64 8 (x * 256) y (by omega) (by simp) (by omega) hy.1 (by omega) (by omega)
theorem or_zero (y : Int) (hy : B8 y) : bits .or .i64 0 y = y := by
  have := or_byte 0 y (by decide) (by decide) hy
  simpa using this
theorem grown_drewN {w w' : World} {r : Option Nat} (h : w.grownBy w' r) (n : Nat) : w.grownBy (w'.drewN n) r := ⟨h.os, h.tape, h.output, h.size, h.block⟩
end Go.Proofs.Ythobicnhophdlaa
