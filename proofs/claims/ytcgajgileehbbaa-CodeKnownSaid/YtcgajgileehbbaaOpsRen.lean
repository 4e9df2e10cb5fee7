/- The document's Encode, walked. -/
import Derived.Test.YtcgajgileehbbaaOpsMay
import Derived.Test.YtcgajgileehbbaaOpsY
import Derived.Deep.RegionHeld3
namespace Go.Proofs.Ytcgajgileehbbaa
open Go.RowKit
set_option linter.unusedVariables false

theorem be4_len (n : Int) : (be4 n).length = 4 := rfl
theorem below_ext {W w w' : World} (h : Ext W w) (k : Below W.heap.size w w') : Ext W w' := Below.trans h k
set_option maxRecDepth 100000 in
set_option maxHeartbeats 2000000 in
theorem refEncode_no (x : In) (v1 v2 : Value) (w : World) (h1 : Row w .i64 v1 x.to) (h2 : Row w .i64 v2 x.ks) (hm : mayI x = false) :
    Calls Try.prog 40 #[.agg (x.vals v1 v2)] w (Ret w (RowErr w [] 2)) := by
  have H1 := Lib.hid h1
  have H2 := Lib.hid h2
  obtain ⟨A1, k1, rfl, -⟩ := h1
  obtain ⟨A2, k2, rfl, -⟩ := h2
  have HB := Lib.hid (fun W e => boxed (w := w) (W := W) (x := x) (v1 := .slice A1 x.to.length k1) (v2 := .slice A2 x.ks.length k2) e)
  obtain ⟨d0, d1, d2, d3, d4, d5⟩ := HB.out _ (Ext.refl _)
  have HM := Lib.hid (fun W (e : Ext w W) => refMay_any x _ _ W (H1.out.ext e) (H2.out.ext e))
  rw [hm] at HM
  unfold In.vals at HB HM d0 d1 d2 d3 d4 d5 ⊢
  clear hm
  go_enter Try.func40, Try.ntmps40
  go_wp2_with fail
  refine (HM.out _ ((Ext.refl w).alloc _)).mono ?_
  rintro e w1 ⟨rfl, x1⟩
  go_wp2
  go_ret2
  exact Ret.mk ⟨_, rfl, Own.nil _ _ _ _⟩ (((Ext.refl w).alloc _).trans x1)
set_option maxRecDepth 100000 in
set_option maxHeartbeats 8000000 in
theorem refEncode_yes (x : In) (v1 v2 : Value) (w : World) (h1 : Row w .i64 v1 x.to) (h2 : Row w .i64 v2 x.ks) (hm : mayI x = true) :
    Calls Try.prog 40 #[.agg (x.vals v1 v2)] w (Ret w (RowErr w (encB x) 0)) := by
  have H1 := Lib.hid h1
  have H2 := Lib.hid h2
  obtain ⟨A1, k1, rfl, hc1, hm1, -⟩ := h1
  obtain ⟨A2, k2, rfl, hc2, hm2, -⟩ := h2
  unfold maxLen at hm1 hm2
  obtain ⟨ha, hto, hf, hri⟩ := may_parts hm
  have HB := Lib.hid (fun W e => boxed (w := w) (W := W) (x := x) (v1 := .slice A1 x.to.length k1) (v2 := .slice A2 x.ks.length k2) e)
  obtain ⟨d0, d1, d2, d3, d4, d5⟩ := HB.out _ (Ext.refl _)
  have HM := Lib.hid (fun W (e : Ext w W) => refMay_any x _ _ W (H1.out.ext e) (H2.out.ext e))
  rw [hm] at HM
  have hwo : IntKind.u8.wrap x.o = x.o := by rw [IntKind.wrap_u8]; omega
  have hwf := wf_u8 (x := x.o) (by omega) (by omega)
  have HF := Lib.hid (And.intro hto (And.intro hf hri))
  have HA := Lib.hid ha
  unfold In.vals at HB HM d0 d1 d2 d3 d4 d5 ⊢
  clear hm ha hto hf hri
  go_enter Try.func40, Try.ntmps40
  go_wp2_with fail
  refine (HM.out _ ((Ext.refl w).alloc _)).mono ?_
  rintro e w1 ⟨rfl, x1⟩
  clear d0 d1 d2 d3 d4 d5
  have HX1 := Lib.hid x1
  have X1 := Lib.hid (((Ext.refl w).alloc (.cells #[.int .i64 x.a, .int .i64 x.o, .int .i64 x.n, .int .i64 x.m, .slice A1 x.to.length k1, .slice A2 x.ks.length k2] 34)).trans x1)
  have HO1 := Lib.hid (Own.one_ (B := w1.heap.size) w1 (e := 5) .u8 x.o hwf (Nat.le_refl _))
  obtain ⟨d0, d1, d2, d3, d4, d5⟩ := HB.out _ x1
  have dd1 := (HB.out _ (x1.alloc (.cells #[.int .u8 x.o] 5))).2.1
  obtain ⟨w2, hw2⟩ : ∃ w2, w2 = w1.alloc (.cells #[.int .u8 x.o] 5) := ⟨_, rfl⟩
  rw [← hw2] at HO1
  have E2 := Lib.hid (show Ext w1 w2 by rw [hw2]; exact (Ext.refl w1).alloc _)
  have hzc : shapeZ x.o = 0 ∨ shapeZ x.o = 1 ∨ shapeZ x.o = 2 ∨ shapeZ x.o = 3 ∨ shapeZ x.o = 4 ∨ shapeZ x.o = 5 ∨ shapeZ x.o = 6 ∨ shapeZ x.o = 7 := by
    have := shapeZ_le x.o
    omega
  clear x1
  go_wp2_with fail
  rw [← hw2]
  refine (refShape_any _ _).mono ?_
  rintro e W2 ⟨rfl, rfl⟩
  clear d0 d1 d2 d3 d4 d5 dd1 hw2 hwf hwo
  obtain ⟨d0, d1, d2, d3, d4, d5⟩ := HB.out _ (HX1.out.trans E2.out)
  rcases hzc with hz | hz | hz | hz | hz | hz | hz | hz
  · have HZ := Lib.hid hz
    rw [hz]
    clear hz
    go_wp2
    go_ret2
    have ho := HO1.out.base X1.out.size
    exact Ret.mk ⟨_, rfl, by simpa [encB, tailB, HZ.out] using ho⟩ (X1.out.trans E2.out)
  · have HZ := Lib.hid hz
    have hf := f_1 HF.out.2.1 hz
    rw [hz]
    clear hz
    go_wp2_with fail
    refine (refnumber1_any w1.heap.size _ _ x.n _ HO1.out E2.out.size (by simp)).mono ?_
    rintro e w3 ⟨v3, rfl, o3, b3⟩
    have HO2 := Lib.hid o3
    have E3 := Lib.hid (below_ext E2.out b3)
    clear d0 d1 d2 d3 d4 d5 o3 b3
    obtain ⟨d0, d1, d2, d3, d4, d5⟩ := HB.out _ (HX1.out.trans E3.out)
    go_wp2
    go_ret2
    have ho := HO2.out.base X1.out.size
    exact Ret.mk ⟨_, rfl, by simpa [encB, tailB, HZ.out] using ho⟩ (X1.out.trans E3.out)
  · have HZ := Lib.hid hz
    have hf := f_2 HF.out.2.1 hz
    rw [hz]
    clear hz
    go_wp2_with fail
    refine (refnumber2_any w1.heap.size _ _ x.n _ HO1.out E2.out.size (by simp)).mono ?_
    rintro e w3 ⟨v3, rfl, o3, b3⟩
    have HO2 := Lib.hid o3
    have E3 := Lib.hid (below_ext E2.out b3)
    clear d0 d1 d2 d3 d4 d5 o3 b3
    obtain ⟨d0, d1, d2, d3, d4, d5⟩ := HB.out _ (HX1.out.trans E3.out)
    go_wp2
    go_ret2
    have ho := HO2.out.base X1.out.size
    exact Ret.mk ⟨_, rfl, by simpa [encB, tailB, HZ.out] using ho⟩ (X1.out.trans E3.out)
  · have HZ := Lib.hid hz
    have hf := f_3 HF.out.2.1 hz
    rw [hz]
    clear hz
    go_wp2_with fail
    refine (refnumber2_any w1.heap.size _ _ x.n _ HO1.out E2.out.size (by simp)).mono ?_
    rintro e w3 ⟨v3, rfl, o3, b3⟩
    have HO2 := Lib.hid o3
    have E3 := Lib.hid (below_ext E2.out b3)
    clear d0 d1 d2 d3 d4 d5 o3 b3
    obtain ⟨d0, d1, d2, d3, d4, d5⟩ := HB.out _ (HX1.out.trans E3.out)
    go_wp2
    go_ret2
    have ho := HO2.out.base X1.out.size
    exact Ret.mk ⟨_, rfl, by simpa [encB, tailB, HZ.out] using ho⟩ (X1.out.trans E3.out)
  · have HZ := Lib.hid hz
    have hf := f_4 HF.out.2.1 hz
    rw [hz]
    clear hz
    have hl2 : 0 < x.to.length := by omega
    have hl1 : ¬ x.to = [] := List.length_pos_iff.1 hl2
    obtain ⟨b1, o1, rfl, hat⟩ := H1.out.all (by omega)
    have HAT := Lib.hid hat
    clear hat
    have ht0 := all_gi HF.out.1 (j := 0) (by omega)
    have hws : IntKind.i64.wrap (gi x.to 0 - x.a) = gi x.to 0 - x.a := by have := HA.out; rw [IntKind.wrap_i64]; omega
    clear ht0
    have y2_0 := HAT.out _ (X1.out.trans E2.out) 0 (by omega)
    rw [Nat.add_zero] at y2_0
    go_wp2_with fail
    go_region_held3 (fun w' => w'.cell? ⟨w.heap.size, 0, none⟩ = some (.int .i64 x.a) ∧ w'.cell? ⟨w.heap.size, 4, none⟩ = some (.slice (some ⟨b1, o1, none⟩) x.to.length k1) ∧ w'.cell? ⟨b1, o1, none⟩ = some (.int .i64 (gi x.to 0))) (first | exact ⟨d0, d4, y2_0⟩ | with_reducible exact F3) (first
      | (go_at_call 62; (with_reducible refine (refnumber2_any w1.heap.size _ _ (gi x.to 0 - x.a) _ (HO1.out.ext (Ext.refl _).drew) (E2.out.drew).size (by simp)).mono ?_); rintro e w3 ⟨v3, rfl, o3, b3⟩; have HO2 := Lib.hid o3; have E3 := Lib.hid (below_ext (E2.out.drew) b3); obtain ⟨c0_3, c1_3, c2_3, c3_3, c4_3, c5_3⟩ := HB.out _ (HX1.out.trans E3.out); have y3_0 := HAT.out _ (X1.out.trans E3.out) 0 (by omega); rw [Nat.add_zero] at y3_0; have F3 := And.intro c0_3 (And.intro c4_3 (y3_0))))
    go_wp2
    go_ret2
    have ho := HO2.out.base X1.out.size
    rw [← headD_gi] at ho
    exact Ret.mk ⟨_, rfl, by simpa [encB, tailB, HZ.out] using ho⟩ (X1.out.trans E3.out)
  · have HZ := Lib.hid hz
    have hf := f_5 HF.out.2.1 hz
    rw [hz]
    clear hz
    go_wp2_with fail
    go_region_held3 (fun w' => w'.cell? ⟨w.heap.size, 2, none⟩ = some (.int .i64 x.n) ∧ w'.cell? ⟨w.heap.size, 3, none⟩ = some (.int .i64 x.m)) (first | exact ⟨d2, d3⟩ | with_reducible exact F3 | with_reducible exact F4) (first
      | (go_at_call 62; (with_reducible refine (refnumber1_any w1.heap.size _ _ x.n _ (HO1.out.ext (Ext.refl _).drew) (E2.out.drew).size (by simp)).mono ?_); rintro e w3 ⟨v3, rfl, o3, b3⟩; have HO2 := Lib.hid o3; have E3 := Lib.hid (below_ext (E2.out.drew) b3); obtain ⟨c0_3, c1_3, c2_3, c3_3, c4_3, c5_3⟩ := HB.out _ (HX1.out.trans E3.out); have F3 := And.intro c2_3 (c3_3))
      | (go_at_call 62; (with_reducible refine (refnumber1_any w1.heap.size _ _ x.m _ HO2.out E3.out.size (by simp [be1])).mono ?_); rintro e w4 ⟨v4, rfl, o4, b4⟩; have HO3 := Lib.hid o4; have E4 := Lib.hid (below_ext E3.out b4); obtain ⟨c0_4, c1_4, c2_4, c3_4, c4_4, c5_4⟩ := HB.out _ (HX1.out.trans E4.out); have F4 := And.intro c2_4 (c3_4)))
    go_wp2
    go_ret2
    have ho := HO3.out.base X1.out.size
    exact Ret.mk ⟨_, rfl, by simpa [encB, tailB, HZ.out] using ho⟩ (X1.out.trans E4.out)
  · have HZ := Lib.hid hz
    have hf := f_6 HF.out.2.1 hz
    rw [hz]
    clear hz
    have hl2 : 0 < x.to.length := by omega
    have hl1 : ¬ x.to = [] := List.length_pos_iff.1 hl2
    obtain ⟨b1, o1, rfl, hat⟩ := H1.out.all (by omega)
    have HAT := Lib.hid hat
    clear hat
    have ht0 := all_gi HF.out.1 (j := 0) (by omega)
    have hws : IntKind.i64.wrap (gi x.to 0 - x.a) = gi x.to 0 - x.a := by have := HA.out; rw [IntKind.wrap_i64]; omega
    clear ht0
    have y2_0 := HAT.out _ (X1.out.trans E2.out) 0 (by omega)
    rw [Nat.add_zero] at y2_0
    have hw1 : IntKind.i64.wrap ((x.to.length : Int) - 1) = x.to.length - 1 := by rw [IntKind.wrap_i64]; omega
    go_wp2_with fail
    go_region_held3 (fun w' => w'.cell? ⟨w.heap.size, 0, none⟩ = some (.int .i64 x.a) ∧ w'.cell? ⟨w.heap.size, 2, none⟩ = some (.int .i64 x.n) ∧ w'.cell? ⟨w.heap.size, 4, none⟩ = some (.slice (some ⟨b1, o1, none⟩) x.to.length k1) ∧ w'.cell? ⟨b1, o1, none⟩ = some (.int .i64 (gi x.to 0))) (first | exact ⟨d0, d2, d4, y2_0⟩ | with_reducible exact F3 | with_reducible exact F4 | with_reducible exact F5) (first
      | (go_at_call 62; (with_reducible refine (refnumber2_any w1.heap.size _ _ (gi x.to 0 - x.a) _ (HO1.out.ext (Ext.refl _).drew) (E2.out.drew).size (by simp)).mono ?_); rintro e w3 ⟨v3, rfl, o3, b3⟩; have HO2 := Lib.hid o3; have E3 := Lib.hid (below_ext (E2.out.drew) b3); obtain ⟨c0_3, c1_3, c2_3, c3_3, c4_3, c5_3⟩ := HB.out _ (HX1.out.trans E3.out); have y3_0 := HAT.out _ (X1.out.trans E3.out) 0 (by omega); rw [Nat.add_zero] at y3_0; have F3 := And.intro c0_3 (And.intro c2_3 (And.intro c4_3 (y3_0))))
      | (go_at_call 62; (with_reducible refine (refnumber4_any w1.heap.size _ _ x.n _ HO2.out E3.out.size (by simp [be2])).mono ?_); rintro e w4 ⟨v4, rfl, o4, b4⟩; have HO3 := Lib.hid o4; have E4 := Lib.hid (below_ext E3.out b4); obtain ⟨c0_4, c1_4, c2_4, c3_4, c4_4, c5_4⟩ := HB.out _ (HX1.out.trans E4.out); have y4_0 := HAT.out _ (X1.out.trans E4.out) 0 (by omega); rw [Nat.add_zero] at y4_0; have F4 := And.intro c0_4 (And.intro c2_4 (And.intro c4_4 (y4_0))))
      | (go_at_call 62; (with_reducible refine (refnumber2_any w1.heap.size _ _ (x.to.length - 1) _ HO3.out E4.out.size (by simp [be2, be4])).mono ?_); rintro e w5 ⟨v5, rfl, o5, b5⟩; have HO4 := Lib.hid o5; have E5 := Lib.hid (below_ext E4.out b5); obtain ⟨c0_5, c1_5, c2_5, c3_5, c4_5, c5_5⟩ := HB.out _ (HX1.out.trans E5.out); have y5_0 := HAT.out _ (X1.out.trans E5.out) 0 (by omega); rw [Nat.add_zero] at y5_0; have F5 := And.intro c0_5 (And.intro c2_5 (And.intro c4_5 (y5_0)))))
    go_wp2_with fail
    go_loopw [4, 5] (fun b i wr => ∃ j : Nat, i = .int .i64 ((j : Int) + 1) ∧ j + 1 ≤ x.to.length ∧ Hid (Own w1.heap.size wr 5 .u8 b ([x.o] ++ be2 (gi x.to 0 - x.a) ++ be4 x.n ++ be2 (x.to.length - 1) ++ tos x.a (x.to.tail.take j))) ∧ Hid (Ext w1 wr)) (fun _ i _ => x.to.length - (intOf i).toNat)
    case atStart => exact ⟨0, rfl, by omega, Lib.hid (by simpa [tos] using HO4.out), E5⟩
    case round =>
      obtain ⟨j, rfl, hj, HO9, E10⟩ := hrel
      obtain ⟨f0, f1, f2, f3, f4, f5⟩ := HB.out _ (HX1.out.trans E10.out)
      by_cases hlt : j + 1 < x.to.length
      · have y10_0 := HAT.out _ (X1.out.trans E10.out) (j + 1) hlt
        have ht := all_gi HF.out.1 hlt
        have hws2 : IntKind.i64.wrap (gi x.to (j + 1) - x.a) = gi x.to (j + 1) - x.a := by have := HA.out; rw [IntKind.wrap_i64]; omega
        have hk1 : (0 : Int) ≤ (j : Int) + 1 := by omega
        have hk2 : (j : Int) + 1 < x.to.length := by omega
        have hlen : ([x.o] ++ be2 (gi x.to 0 - x.a) ++ be4 x.n ++ be2 (x.to.length - 1) ++ tos x.a (x.to.tail.take j)).length ≤ 100000 := by simp [be2, be4, tos_len]; omega
        clear ht hws f1 f2 f3 f5 y2_0 y3_0 y4_0 y5_0 c0_3 c1_3 c2_3 c3_3 c4_3 c5_3 c0_4 c1_4 c2_4 c3_4 c4_4 c5_4 c0_5 c1_5 c2_5 c3_5 c4_5 c5_5 F3 F4 F5 d0 d1 d2 d3 d4 d5
        have d0 := f0
        have d4 := f4
        clear f0 f4
        go_wp2_with fail
        go_region_held3 (fun w' => w'.cell? ⟨w.heap.size, 0, none⟩ = some (.int .i64 x.a) ∧ w'.cell? ⟨w.heap.size, 4, none⟩ = some (.slice (some ⟨b1, o1, none⟩) x.to.length k1) ∧ w'.cell? ⟨b1, o1 + (j + 1), none⟩ = some (.int .i64 (gi x.to (j + 1)))) (first | exact ⟨d0, d4, y10_0⟩ | with_reducible exact F11) (first
          | (go_at_call 62; (with_reducible refine (refnumber2_any w1.heap.size _ _ (gi x.to (j + 1) - x.a) _ (HO9.out.ext (Ext.refl _).drew) (E10.out.drew).size hlen).mono ?_); rintro e w11 ⟨v11, rfl, o11, b11⟩; have HO10 := Lib.hid o11; have E11 := Lib.hid (below_ext (E10.out.drew) b11); obtain ⟨c0_11, c1_11, c2_11, c3_11, c4_11, c5_11⟩ := HB.out _ (HX1.out.trans E11.out); have y11_0 := HAT.out _ (X1.out.trans E11.out) (j + 1) hlt; have F11 := And.intro c0_11 (And.intro c4_11 (y11_0))))
        go_wp2_with fail
        have ho := HO10.out
        rw [List.append_assoc, ← gi_tail, ← tos_next (by simp; omega)] at ho
        have HOF := Lib.hid ho
        clear ho
        go_roundw
        case rel => exact ⟨j + 1, by go_num, by omega, HOF, E11⟩
        case measure => simp [intOf]; omega
      · have hkn : j = x.to.length - 1 := by omega
        go_wp2
        go_ret2
        have ho := HO9.out.base X1.out.size
        rw [hkn, show x.to.tail.take (x.to.length - 1) = x.to.tail by rw [← List.length_tail, List.take_length], ← headD_gi] at ho
        exact Ret.mk ⟨_, rfl, by simpa [encB, tailB, HZ.out] using ho⟩ (X1.out.trans E10.out)
  · have HZ := Lib.hid hz
    have hf := f_7 HF.out.2.1 hz
    rw [hz]
    clear hz
    have hl2 : 0 < x.to.length := by omega
    have hl1 : ¬ x.to = [] := List.length_pos_iff.1 hl2
    obtain ⟨b1, o1, rfl, hat⟩ := H1.out.all (by omega)
    have HAT := Lib.hid hat
    clear hat
    have ht0 := all_gi HF.out.1 (j := 0) (by omega)
    have hws : IntKind.i64.wrap (gi x.to 0 - x.a) = gi x.to 0 - x.a := by have := HA.out; rw [IntKind.wrap_i64]; omega
    clear ht0
    have y2_0 := HAT.out _ (X1.out.trans E2.out) 0 (by omega)
    rw [Nat.add_zero] at y2_0
    go_wp2_with fail
    go_region_held3 (fun w' => w'.cell? ⟨w.heap.size, 0, none⟩ = some (.int .i64 x.a) ∧ w'.cell? ⟨w.heap.size, 4, none⟩ = some (.slice (some ⟨b1, o1, none⟩) x.to.length k1) ∧ w'.cell? ⟨w.heap.size, 5, none⟩ = some (.slice A2 x.ks.length k2) ∧ w'.cell? ⟨b1, o1, none⟩ = some (.int .i64 (gi x.to 0))) (first | exact ⟨d0, d4, d5, y2_0⟩ | with_reducible exact F3 | with_reducible exact F4) (first
      | (go_at_call 62; (with_reducible refine (refnumber2_any w1.heap.size _ _ (gi x.to 0 - x.a) _ (HO1.out.ext (Ext.refl _).drew) (E2.out.drew).size (by simp)).mono ?_); rintro e w3 ⟨v3, rfl, o3, b3⟩; have HO2 := Lib.hid o3; have E3 := Lib.hid (below_ext (E2.out.drew) b3); obtain ⟨c0_3, c1_3, c2_3, c3_3, c4_3, c5_3⟩ := HB.out _ (HX1.out.trans E3.out); have y3_0 := HAT.out _ (X1.out.trans E3.out) 0 (by omega); rw [Nat.add_zero] at y3_0; have F3 := And.intro c0_3 (And.intro c4_3 (And.intro c5_3 (y3_0))))
      | (go_at_call 62; (with_reducible refine (refnumber2_any w1.heap.size _ _ x.ks.length _ HO2.out E3.out.size (by simp [be2])).mono ?_); rintro e w4 ⟨v4, rfl, o4, b4⟩; have HO3 := Lib.hid o4; have E4 := Lib.hid (below_ext E3.out b4); obtain ⟨c0_4, c1_4, c2_4, c3_4, c4_4, c5_4⟩ := HB.out _ (HX1.out.trans E4.out); have y4_0 := HAT.out _ (X1.out.trans E4.out) 0 (by omega); rw [Nat.add_zero] at y4_0; have F4 := And.intro c0_4 (And.intro c4_4 (And.intro c5_4 (y4_0)))))
    go_wp2_with fail
    go_loopw [4, 6] (fun b i wr => ∃ k : Nat, i = .int .i64 k ∧ k ≤ x.ks.length ∧ Hid (Own w1.heap.size wr 5 .u8 b ([x.o] ++ be2 (gi x.to 0 - x.a) ++ be2 x.ks.length ++ kts x.a (x.ks.take k) (x.to.tail.take k))) ∧ Hid (Ext w1 wr)) (fun _ i _ => x.ks.length - (intOf i).toNat)
    case atStart => exact ⟨0, rfl, by omega, Lib.hid (by simpa [kts] using HO3.out), E4⟩
    case round =>
      obtain ⟨k, rfl, hk, HO9, E10⟩ := hrel
      obtain ⟨f0, f1, f2, f3, f4, f5⟩ := HB.out _ (HX1.out.trans E10.out)
      by_cases hlt : k < x.ks.length
      · obtain ⟨b2, o2, rfl, hat2⟩ := H2.out.all (by omega)
        have HAT2 := Lib.hid hat2
        have y10_0 := hat2 _ (X1.out.trans E10.out) k hlt
        have y10_1 := HAT.out _ (X1.out.trans E10.out) (k + 1) (by omega)
        have ht := all_gi HF.out.1 (j := k + 1) (by omega)
        have hws2 : IntKind.i64.wrap (gi x.to (k + 1) - x.a) = gi x.to (k + 1) - x.a := by have := HA.out; rw [IntKind.wrap_i64]; omega
        have hw1 : IntKind.i64.wrap ((k : Int) + 1) = k + 1 := by rw [IntKind.wrap_i64]; omega
        have hk0 : (0 : Int) ≤ (k : Int) := by omega
        have hk3 : (k : Int) < x.ks.length := by omega
        have hk1 : (0 : Int) ≤ (k : Int) + 1 := by omega
        have hk2 : (k : Int) + 1 < x.to.length := by omega
        have hlk : (kts x.a (x.ks.take k) (x.to.tail.take k)).length = 6 * k := by rw [kts_len _ _ (by simp; omega)]; simp; omega
        have hlen : ([x.o] ++ be2 (gi x.to 0 - x.a) ++ be2 x.ks.length ++ kts x.a (x.ks.take k) (x.to.tail.take k)).length ≤ 90000 := by simp [be2, hlk]; omega
        clear ht hws hat2 f1 f2 f3 y2_0 y3_0 y4_0 c0_3 c1_3 c2_3 c3_3 c4_3 c5_3 c0_4 c1_4 c2_4 c3_4 c4_4 c5_4 F3 F4 d0 d1 d2 d3 d4 d5
        have d0 := f0
        have d4 := f4
        have d5 := f5
        clear f0 f4 f5
        go_wp2_with fail
        go_region_held3 (fun w' => w'.cell? ⟨w.heap.size, 0, none⟩ = some (.int .i64 x.a) ∧ w'.cell? ⟨w.heap.size, 4, none⟩ = some (.slice (some ⟨b1, o1, none⟩) x.to.length k1) ∧ w'.cell? ⟨w.heap.size, 5, none⟩ = some (.slice (some ⟨b2, o2, none⟩) x.ks.length k2) ∧ w'.cell? ⟨b2, o2 + k, none⟩ = some (.int .i64 (gi x.ks k)) ∧ w'.cell? ⟨b1, o1 + (k + 1), none⟩ = some (.int .i64 (gi x.to (k + 1)))) (first | exact ⟨d0, d4, d5, y10_0, y10_1⟩ | with_reducible exact F11 | with_reducible exact F12) (first
          | (go_at_call 62; (with_reducible refine (refnumber4_any w1.heap.size _ _ (gi x.ks k) _ (HO9.out.ext (Ext.refl _).drew) (E10.out.drew).size (Nat.le_trans hlen (by omega))).mono ?_); rintro e w11 ⟨v11, rfl, o11, b11⟩; have HO10 := Lib.hid o11; have E11 := Lib.hid (below_ext (E10.out.drew) b11); obtain ⟨c0_11, c1_11, c2_11, c3_11, c4_11, c5_11⟩ := HB.out _ (HX1.out.trans E11.out); have y11_0 := HAT2.out _ (X1.out.trans E11.out) k hlt; have y11_1 := HAT.out _ (X1.out.trans E11.out) (k + 1) (by omega); have F11 := And.intro c0_11 (And.intro c4_11 (And.intro c5_11 (And.intro y11_0 (y11_1)))))
          | (go_at_call 62; (with_reducible refine (refnumber2_any w1.heap.size _ _ (gi x.to (k + 1) - x.a) _ HO10.out E11.out.size (by rw [List.length_append, be4_len]; omega)).mono ?_); rintro e w12 ⟨v12, rfl, o12, b12⟩; have HO11 := Lib.hid o12; have E12 := Lib.hid (below_ext E11.out b12); obtain ⟨c0_12, c1_12, c2_12, c3_12, c4_12, c5_12⟩ := HB.out _ (HX1.out.trans E12.out); have y12_0 := HAT2.out _ (X1.out.trans E12.out) k hlt; have y12_1 := HAT.out _ (X1.out.trans E12.out) (k + 1) (by omega); have F12 := And.intro c0_12 (And.intro c4_12 (And.intro c5_12 (And.intro y12_0 (y12_1))))))
        go_wp2_with fail
        have ho := HO11.out
        rw [List.append_assoc, List.append_assoc, ← gi_tail, ← kts_next hlt (by simp; omega)] at ho
        have HOF := Lib.hid ho
        clear ho
        go_roundw
        case rel => exact ⟨k + 1, by go_num, by omega, HOF, E12⟩
        case measure => simp [intOf]; omega
      · have hkn : k = x.ks.length := by omega
        go_wp2
        go_ret2
        have ho := HO9.out.base X1.out.size
        rw [hkn, List.take_length, show x.ks.length = x.to.tail.length by simp; omega, List.take_length, ← show x.ks.length = x.to.tail.length by simp; omega, ← headD_gi] at ho
        exact Ret.mk ⟨_, rfl, by simpa [encB, tailB, HZ.out] using ho⟩ (X1.out.trans E10.out)
theorem refEncode_any (x : In) (v1 v2 : Value) (w : World) (h1 : Row w .i64 v1 x.to) (h2 : Row w .i64 v2 x.ks) :
    Calls Try.prog 40 #[.agg (x.vals v1 v2)] w (Ret w (RowErr w (opsEnc x).1 (opsEnc x).2)) := by
  by_cases hm : mayI x = true
  · rw [show opsEnc x = (encB x, 0) by unfold opsEnc; rw [if_pos hm]]
    exact refEncode_yes x v1 v2 w h1 h2 hm
  · rw [show opsEnc x = ([], 2) by unfold opsEnc; rw [if_neg hm]]
    exact refEncode_no x v1 v2 w h1 h2 (by simpa using hm)
end Go.Proofs.Ytcgajgileehbbaa
