/- Whether an instruction may be, as the project tells it: mayBe, whole. -/
import Derived.Test.YthobicnhophdlaaOpsV4
import Derived.BigQuiet
import Derived.Deep.QuietTactic
namespace Go.Proofs.Ythobicnhophdlaa
open Go.RowKit
set_option linter.unusedVariables false

set_option maxRecDepth 100000 in
set_option maxHeartbeats 2000000 in
theorem mayBe_op (x : In) (v1 v2 : Value) (w : World) (h1 : Row w .i64 v1 x.to) (h2 : Row w .i64 v2 x.ks) (c1 : inOp x.o = false) :
    Calls Try.prog 26 #[.agg (x.vals v1 v2)] w fun e w' => e = .returned (.bool false) ∧ Ext w w' := by
  obtain ⟨A1, k1, rfl, -⟩ := h1
  obtain ⟨A2, k2, rfl, -⟩ := h2
  have HB := Lib.hid (fun W e => boxed (w := w) (W := W) (x := x) (v1 := .slice A1 x.to.length k1) (v2 := .slice A2 x.ks.length k2) e)
  obtain ⟨d0, d1, d2, d3, d4, d5⟩ := HB.out _ (Ext.refl _)
  unfold In.vals at HB d0 d1 d2 d3 d4 d5 ⊢
  clear d0 d2 d3 d4 d5
  have C1 := Lib.hid c1
  clear c1
  go_enter Try.func26, Try.ntmps26
  go_wp2_with (first
    | (go_at_call 20; refine (lineOf_any _ _).mono ?_; rintro e w1 ⟨rfl, x1⟩; rw [C1.out]))
  go_quiet (fail)
  go_wp2
  go_ret
  exact ⟨rfl, ((Ext.refl w).alloc _).trans ((x1.alloc _).drewN _)⟩
set_option maxRecDepth 100000 in
set_option maxHeartbeats 2000000 in
theorem mayBe_at (x : In) (v1 v2 : Value) (w : World) (h1 : Row w .i64 v1 x.to) (h2 : Row w .i64 v2 x.ks) (c1 : inOp x.o = true) (c2 : inR 0 8191 x.a = false) :
    Calls Try.prog 26 #[.agg (x.vals v1 v2)] w fun e w' => e = .returned (.bool false) ∧ Ext w w' := by
  obtain ⟨A1, k1, rfl, -⟩ := h1
  obtain ⟨A2, k2, rfl, -⟩ := h2
  have HB := Lib.hid (fun W e => boxed (w := w) (W := W) (x := x) (v1 := .slice A1 x.to.length k1) (v2 := .slice A2 x.ks.length k2) e)
  obtain ⟨d0, d1, d2, d3, d4, d5⟩ := HB.out _ (Ext.refl _)
  unfold In.vals at HB d0 d1 d2 d3 d4 d5 ⊢
  clear d0 d2 d3 d4 d5
  have C1 := Lib.hid c1
  have C2 := Lib.hid c2
  clear c1 c2
  go_enter Try.func26, Try.ntmps26
  go_wp2_with (first
    | (go_at_call 20; refine (lineOf_any _ _).mono ?_; rintro e w1 ⟨rfl, x1⟩; rw [C1.out]; obtain ⟨d10, d11, d12, d13, d14, d15⟩ := HB.out _ x1))
  have E0 := HB.out _ ((x1.alloc (.cells #[.string (nameZ x.o), .int .i64 (shapeZ x.o), .bool (endsZ x.o)] 55)).drew)
  obtain ⟨d20, d21, d22, d23, d24, d25⟩ := E0
  go_region_held3 (fun w' => w'.cell? ⟨w.heap.size, 0, none⟩ = some (.int .i64 x.a)) (first | assumption | go_keep) (first
      | (go_at_call 44; ((with_reducible refine (places_ext _).mono ?_); rintro e w2 ⟨rfl, x2⟩); have X2 := x1.trans (((Ext.refl _).alloc _).drew.trans x2); obtain ⟨d20, d21, d22, d23, d24, d25⟩ := HB.out _ X2)
      | (go_at_call 45; ((with_reducible refine (has_any _ _ _ _).mono ?_); rintro e w3 ⟨rfl, x3⟩; rw [C2.out]); have X3 := X2.trans x3; obtain ⟨d30, d31, d32, d33, d34, d35⟩ := HB.out _ X3))
  go_wp2
  go_ret
  exact ⟨rfl, ((Ext.refl w).alloc _).trans X3⟩
theorem mayBe_any (x : In) (v1 v2 : Value) (w : World) (h1 : Row w .i64 v1 x.to) (h2 : Row w .i64 v2 x.ks) :
    Calls Try.prog 26 #[.agg (x.vals v1 v2)] w fun e w' => e = .returned (.bool (mayI x)) ∧ Ext w w' := by
  rw [← mayP_eq]
  by_cases c1 : inOp x.o = true
  · by_cases c2 : inR 0 8191 x.a = true
    · exact mayBe_in x v1 v2 w h1 h2 c1 c2
    · have c2' : inR 0 8191 x.a = false := by simpa using c2
      rw [show mayP x = false by unfold mayP; rw [c1, c2']; rfl]
      exact mayBe_at x v1 v2 w h1 h2 c1 c2'
  · have c1' : inOp x.o = false := by simpa using c1
    rw [show mayP x = false by unfold mayP; rw [c1']; rfl]
    exact mayBe_op x v1 v2 w h1 h2 c1'
end Go.Proofs.Ythobicnhophdlaa
