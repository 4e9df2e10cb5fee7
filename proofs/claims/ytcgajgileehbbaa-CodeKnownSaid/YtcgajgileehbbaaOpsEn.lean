/- The project's Encode, whole. -/
import Derived.Test.YtcgajgileehbbaaOpsY
import Derived.Test.YtcgajgileehbbaaOpsV5
namespace Go.Proofs.Ytcgajgileehbbaa
open Go.RowKit
set_option linter.unusedVariables false

set_option maxRecDepth 100000 in
set_option maxHeartbeats 2000000 in
theorem Encode_any (x : In) (v1 v2 : Value) (w : World) (h1 : Row w .i64 v1 x.to) (h2 : Row w .i64 v2 x.ks) :
    Calls Try.prog 32 #[.agg (x.vals v1 v2)] w (Ret w (RowErr w (opsEnc x).1 (opsEnc x).2)) := by
  have H1 := Lib.hid h1
  have H2 := Lib.hid h2
  obtain ⟨A1, k1, rfl, -⟩ := h1
  obtain ⟨A2, k2, rfl, -⟩ := h2
  have HB := Lib.hid (fun W e => boxed (w := w) (W := W) (x := x) (v1 := .slice A1 x.to.length k1) (v2 := .slice A2 x.ks.length k2) e)
  obtain ⟨d0, d1, d2, d3, d4, d5⟩ := HB.out _ (Ext.refl _)
  have HM := Lib.hid (fun W (e : Ext w W) => mayBe_any x _ _ W (H1.out.ext e) (H2.out.ext e))
  have HI := Lib.hid (fun W g (hw : WR W g (.slice none 0 0) x.a) (e : Ext w W) (hg : w.heap.size ≤ g) (hm : mayI x = true) => wins_any w W g x _ _ hw e hg H1.out H2.out hm)
  unfold In.vals at HB HM HI d0 d1 d2 d3 d4 d5 ⊢
  by_cases hm : mayI x = true
  · rw [show opsEnc x = (encB x, 0) by unfold opsEnc; rw [if_pos hm]]
    have M := Lib.hid hm
    clear hm
    go_enter Try.func32, Try.ntmps32
    go_wp2_with fail
    refine (HM.out _ ((Ext.refl w).alloc _)).mono ?_
    rintro e w1 ⟨rfl, x1⟩
    rw [M.out]
    clear d0 d1 d2 d3 d4 d5
    obtain ⟨d0, d1, d2, d3, d4, d5⟩ := HB.out _ x1
    have X1 := ((Ext.refl w).alloc (.cells #[.int .i64 x.a, .int .i64 x.o, .int .i64 x.n, .int .i64 x.m, .slice A1 x.to.length k1, .slice A2 x.ks.length k2] 34)).trans x1
    have D := HB.out _ (x1.alloc (.cells #[.slice none 0 0, .int .i64 x.a] 83))
    obtain ⟨q0, q1, q2, q3, q4, q5⟩ := D
    go_wp2_with fail
    refine (HI.out _ w1.heap.size (heap_alloc_new _ _) (X1.alloc _) X1.size M.out).mono ?_
    rintro e w2 ⟨rfl, u, hw, ho, x2⟩
    obtain ⟨c0, c1, -, -⟩ := hw.cells
    go_wp2
    go_ret2
    exact Ret.mk ⟨_, rfl, ho⟩ x2
  · rw [show opsEnc x = ([], 2) by unfold opsEnc; rw [if_neg hm]]
    have M := Lib.hid (show mayI x = false by simpa using hm)
    clear hm
    go_enter Try.func32, Try.ntmps32
    go_wp2_with fail
    refine (HM.out _ ((Ext.refl w).alloc _)).mono ?_
    rintro e w1 ⟨rfl, x1⟩
    rw [M.out]
    go_wp2
    go_ret2
    exact Ret.mk ⟨_, rfl, Own.nil _ _ _ _⟩ (((Ext.refl w).alloc _).trans x1)
end Go.Proofs.Ytcgajgileehbbaa
