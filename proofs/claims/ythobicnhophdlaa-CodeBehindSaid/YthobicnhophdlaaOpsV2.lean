/- Whether an instruction may be: the project's numbersMay and keysMay, walked. -/
import Derived.Test.YthobicnhophdlaaOpsV
namespace Go.Proofs.Ythobicnhophdlaa
open Go.RowKit
set_option linter.unusedVariables false

theorem pints_ext (w : World) : Calls Try.prog 57 #[] w fun e w' => e = .returned (.agg #[.int .i64 (-2147483648), .int .i64 2147483647]) ∧ Ext w w' :=
  (pints_any w).mono fun e w' ⟨h1, h2⟩ => ⟨h1, by rw [h2]; exact (Ext.refl w).alloc _⟩
theorem places_ext (w : World) : Calls Try.prog 44 #[] w fun e w' => e = .returned (.agg #[.int .i64 0, .int .i64 8191]) ∧ Ext w w' :=
  (places_any w).mono fun e w' ⟨h1, h2⟩ => ⟨h1, by rw [h2]; exact (Ext.refl w).alloc _⟩
set_option maxHeartbeats 2000000 in
theorem numbersMay_any (x : In) (v1 v2 : Value) (w : World) (h1 : Row w .i64 v1 x.to) (h2 : Row w .i64 v2 x.ks) (hb : shapeZ x.o = 6 → (-2147483648 ≤ x.n ∧ x.n ≤ 2147483647) ∧ x.to.length ≤ 1001) :
    Calls Try.prog 48 #[.agg (x.vals v1 v2)] w fun e w' => e = .returned (.bool (numbersP x)) ∧ Ext w w' := by
  obtain ⟨A1, c1, rfl, -⟩ := h1
  obtain ⟨A2, c2, rfl, -⟩ := h2
  unfold numbersP
  have HB := Lib.hid (fun W e => boxed (w := w) (W := W) (x := x) (v1 := .slice A1 x.to.length c1) (v2 := .slice A2 x.ks.length c2) e)
  have B0 := HB.out _ (Ext.refl _)
  obtain ⟨d0, d1, d2, d3, d4, d5⟩ := B0
  unfold In.vals at HB d0 d1 d2 d3 d4 d5 ⊢
  by_cases hz : shapeZ x.o = 6
  · rw [if_pos hz]
    have HZ := Lib.hid hz
    obtain ⟨⟨b1, b2⟩, b3⟩ := hb hz
    clear hz hb
    have ha : IntKind.i64.wrap (x.n + (x.to.length : Int)) = x.n + x.to.length := by rw [IntKind.wrap_i64]; omega
    have hs : IntKind.i64.wrap (x.n + (x.to.length : Int) - 2) = x.n + x.to.length - 2 := by rw [IntKind.wrap_i64]; omega
    go_enter Try.func48, Try.ntmps48
    go_wp2
    go_region_with (first
      | (go_at_call 37; refine (Shape_any _ _).mono ?_; rintro e w1 ⟨rfl, x1⟩; rw [HZ.out]; have X1 := (((Ext.refl _).drewN _).trans x1); obtain ⟨d10, d11, d12, d13, d14, d15⟩ := HB.out _ X1)
      | (go_at_call 57; refine (pints_ext _).mono ?_; rintro e w2 ⟨rfl, x2⟩; have X2 := X1.trans x2; obtain ⟨d20, d21, d22, d23, d24, d25⟩ := HB.out _ X2)
      | (go_at_call 45; refine (has_any _ _ _ _).mono ?_; rintro e w3 ⟨rfl, x3⟩))
    all_goals
      go_wp2
      go_ret
      exact ⟨rfl, (((Ext.refl w).alloc _).trans X2).trans x3⟩
  · rw [if_neg hz]
    have hzb : (shapeZ x.o != 6) = true := by simpa using hz
    clear hz hb
    go_enter Try.func48, Try.ntmps48
    go_wp2
    first | (go_region_with (first
      | (go_at_call 37; refine (Shape_any _ _).mono ?_; rintro e w1 ⟨rfl, x1⟩))) | fail
    all_goals
      go_wp2
      go_ret
      exact ⟨rfl, ((Ext.refl w).alloc _).trans (((Ext.refl _).drewN _).trans x1)⟩
end Go.Proofs.Ythobicnhophdlaa
