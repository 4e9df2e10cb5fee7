/- The document's own answers of instructions: are two the same. -/
import Derived.Test.YthobicnhophdlaaOpsB
namespace Go.Proofs.Ythobicnhophdlaa
open Go.RowKit
set_option linter.unusedVariables false

theorem In.ext_ {x y : In} (h0 : x.a = y.a) (h1 : x.o = y.o) (h2 : x.n = y.n) (h3 : x.m = y.m) (h4 : x.to = y.to) (h5 : x.ks = y.ks) : x = y := by
  cases x; cases y
  simp only at h0 h1 h2 h3 h4 h5
  subst h0 h1 h2 h3 h4 h5
  rfl
theorem ext_two' (w : World) (o p : Obj) : Ext w ((w.alloc o).alloc p) := ((Ext.refl w).alloc o).alloc p
set_option maxHeartbeats 2000000 in
theorem refSame_any (x y : In) (v1 v2 u1 u2 : Value) (w : World) (h1 : Row w .i64 v1 x.to) (h2 : Row w .i64 v2 x.ks) (h3 : Row w .i64 u1 y.to) (h4 : Row w .i64 u2 y.ks) :
    Calls Try.prog 13 #[.agg (x.vals v1 v2), .agg (y.vals u1 u2)] w fun e w' => e = .returned (.bool (decide (x = y))) ∧ Ext w w' := by
  have c1 := fun W (e : Ext w W) => refints_any v1 u1 x.to y.to W (h1.ext e) (h3.ext e)
  have c2 := fun W (e : Ext w W) => refints_any v2 u2 x.ks y.ks W (h2.ext e) (h4.ext e)
  have C1 := Lib.hid c1
  have C2 := Lib.hid c2
  obtain ⟨A1, k1, rfl, -⟩ := h1
  obtain ⟨A2, k2, rfl, -⟩ := h2
  obtain ⟨A3, k3, rfl, -⟩ := h3
  obtain ⟨A4, k4, rfl, -⟩ := h4
  clear c1 c2
  unfold In.vals
  by_cases e0 : x.a = y.a
  case neg =>
    rw [show decide (x = y) = false by simp only [decide_eq_false_iff_not]; exact fun e => e0 (by rw [e])]
    have b0 : (x.a == y.a) = false := by simpa using e0
    clear e0
    go_enter Try.func13, Try.ntmps13
    go_wp2
    go_ret
    exact ⟨rfl, ext_two' _ _ _⟩
  have b0 : (x.a == y.a) = true := by simpa using e0
  have E0 := Lib.hid e0
  clear e0
  by_cases e1 : x.o = y.o
  case neg =>
    rw [show decide (x = y) = false by simp only [decide_eq_false_iff_not]; exact fun e => e1 (by rw [e])]
    have b1 : (x.o == y.o) = false := by simpa using e1
    clear e1
    go_enter Try.func13, Try.ntmps13
    go_wp2
    go_ret
    exact ⟨rfl, ext_two' _ _ _⟩
  have b1 : (x.o == y.o) = true := by simpa using e1
  have E1 := Lib.hid e1
  clear e1
  by_cases e2 : x.n = y.n
  case neg =>
    rw [show decide (x = y) = false by simp only [decide_eq_false_iff_not]; exact fun e => e2 (by rw [e])]
    have b2 : (x.n == y.n) = false := by simpa using e2
    clear e2
    go_enter Try.func13, Try.ntmps13
    go_wp2
    go_ret
    exact ⟨rfl, ext_two' _ _ _⟩
  have b2 : (x.n == y.n) = true := by simpa using e2
  have E2 := Lib.hid e2
  clear e2
  by_cases e3 : x.m = y.m
  case neg =>
    rw [show decide (x = y) = false by simp only [decide_eq_false_iff_not]; exact fun e => e3 (by rw [e])]
    have b3 : (x.m == y.m) = false := by simpa using e3
    clear e3
    go_enter Try.func13, Try.ntmps13
    go_wp2
    go_ret
    exact ⟨rfl, ext_two' _ _ _⟩
  have b3 : (x.m == y.m) = true := by simpa using e3
  have E3 := Lib.hid e3
  clear e3
  by_cases e4 : x.to = y.to
  case neg =>
    rw [show decide (x = y) = false by simp only [decide_eq_false_iff_not]; exact fun e => e4 (by rw [e])]
    rw [show decide (x.to = y.to) = false by simpa using e4] at C1
    clear e4
    go_enter Try.func13, Try.ntmps13
    go_wp2_with fail
    refine (C1.out _ (ext_two' _ _ _)).mono ?_
    rintro e w1 ⟨rfl, m, rfl⟩
    go_wp2
    go_ret
    exact ⟨rfl, (ext_two' _ _ _).drewN m⟩
  rw [show decide (x.to = y.to) = true by simpa using e4] at C1
  have HE := Lib.hid (show decide (x = y) = decide (x.ks = y.ks) from decide_eq_decide.2 ⟨fun e => by rw [e], fun e => In.ext_ E0.out E1.out E2.out E3.out e4 e⟩)
  rw [HE.out]
  clear e4
  go_enter Try.func13, Try.ntmps13
  go_wp2_with fail
  refine (C1.out _ (ext_two' _ _ _)).mono ?_
  rintro e w1 ⟨rfl, m, rfl⟩
  go_wp2_with fail
  refine (C2.out _ ((ext_two' _ _ _).drewN m)).mono ?_
  rintro e w2 ⟨rfl, m2, rfl⟩
  go_wp2
  go_ret
  exact ⟨rfl, (ext_two' _ _ _).drewN (m + m2)⟩
end Go.Proofs.Ythobicnhophdlaa
