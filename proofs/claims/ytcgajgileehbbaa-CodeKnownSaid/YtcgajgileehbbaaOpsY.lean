/- The project's writer: ins, all shapes. -/
import Derived.Test.YtcgajgileehbbaaOpsX
import Derived.Test.YtcgajgileehbbaaOpsV3
import Derived.LoopN
import Derived.Deep.RegionLaw
import Derived.Deep.CutRange
namespace Go.Proofs.Ytcgajgileehbbaa
open Go.RowKit
set_option linter.unusedVariables false

theorem headD_gi (l : List Int) : l.headD 0 = gi l 0 := by cases l <;> rfl
theorem gi_tail (l : List Int) (k : Nat) : gi l.tail k = gi l (k + 1) := by cases l <;> simp [gi]
theorem tos_next {a : Int} {l : List Int} {k : Nat} (h : k < l.length) : tos a (l.take (k + 1)) = tos a (l.take k) ++ be2 (gi l k - a) := by
  induction l generalizing k with
  | nil => simp at h
  | cons t l ih =>
    cases k with
    | zero => simp [tos, gi]
    | succ k =>
      have := ih (k := k) (by simpa using h)
      rw [List.take_succ_cons, List.take_succ_cons, tos, tos, this, List.append_assoc]
      simp [gi]
theorem tos_len {a : Int} : ∀ (l : List Int), (tos a l).length = 2 * l.length
  | [] => rfl
  | t :: l => by rw [tos, List.length_append, tos_len l, List.length_cons]; simp [be2]; omega
theorem kts_next {a : Int} {ks ts : List Int} {k : Nat} (h : k < ks.length) (h' : k < ts.length) : kts a (ks.take (k + 1)) (ts.take (k + 1)) = kts a (ks.take k) (ts.take k) ++ (be4 (gi ks k) ++ be2 (gi ts k - a)) := by
  induction ks generalizing k ts with
  | nil => simp at h
  | cons c ks ih =>
    match ts, h' with
    | t :: ts, h' =>
      cases k with
      | zero => simp [kts, gi]
      | succ k =>
        have := ih (k := k) (ts := ts) (by simpa using h) (by simpa using h')
        rw [List.take_succ_cons, List.take_succ_cons, List.take_succ_cons, List.take_succ_cons, kts, kts, this]
        simp [gi]
theorem kts_len {a : Int} : ∀ (ks ts : List Int), ks.length ≤ ts.length → (kts a ks ts).length = 6 * ks.length
  | [], ts, _ => by cases ts <;> rfl
  | c :: ks, [], h => by simp at h
  | c :: ks, t :: ts, h => by rw [kts, List.length_append, List.length_append, kts_len ks ts (by simpa using h), List.length_cons]; simp [be2, be4]; omega
theorem all_gi {a : Int} {l : List Int} (h : l.all (mayTo a) = true) {j : Nat} (hj : j < l.length) : -32768 ≤ gi l j - a ∧ gi l j - a ≤ 32767 := mayTo_in (List.all_eq_true.1 h _ (gi_mem hj))
theorem f_1 {x : In} (h : fieldsOk x = true) (hz : shapeZ x.o = 1) : 0 ≤ x.n ∧ x.n ≤ 255 := by
  unfold fieldsOk at h
  simp [hz] at h
  omega
theorem f_2 {x : In} (h : fieldsOk x = true) (hz : shapeZ x.o = 2) : -32768 ≤ x.n ∧ x.n ≤ 32767 := by
  unfold fieldsOk at h
  simp [hz] at h
  omega
theorem f_3 {x : In} (h : fieldsOk x = true) (hz : shapeZ x.o = 3) : 0 ≤ x.n ∧ x.n ≤ 65535 := by
  unfold fieldsOk at h
  simp [hz] at h
  omega
theorem f_4 {x : In} (h : fieldsOk x = true) (hz : shapeZ x.o = 4) : x.to.length = 1 := by
  unfold fieldsOk at h
  simp [hz] at h
  omega
theorem f_5 {x : In} (h : fieldsOk x = true) (hz : shapeZ x.o = 5) : (0 ≤ x.n ∧ x.n ≤ 255) ∧ -128 ≤ x.m ∧ x.m ≤ 127 := by
  unfold fieldsOk at h
  simp [hz] at h
  omega
theorem f_6 {x : In} (h : fieldsOk x = true) (hz : shapeZ x.o = 6) : (2 ≤ x.to.length ∧ x.to.length ≤ 1001) ∧ -2147483648 ≤ x.n ∧ x.n ≤ 2147483647 := by
  unfold fieldsOk at h
  simp [hz, isInt] at h
  omega
theorem f_7 {x : In} (h : fieldsOk x = true) (hz : shapeZ x.o = 7) : (1 ≤ x.to.length ∧ x.to.length ≤ 1001) ∧ x.ks.length + 1 = x.to.length := by
  unfold fieldsOk at h
  simp [hz] at h
  omega
/-- What ins leaves. -/
def InsLeft (w0 : World) (g : Nat) (a : Int) (l : List Int) (e : Ending) (w' : World) : Prop := e = .returned (.tuple #[]) ∧ ∃ v, WR w' g v a ∧ Own w0.heap.size w' 5 .u8 v l ∧ Ext w0 w'
set_option maxHeartbeats 4000000 in
theorem wins_any (w0 w : World) (g : Nat) (x : In) (v1 v2 : Value) (hw : WR w g (.slice none 0 0) x.a) (hx : Ext w0 w) (hg : w0.heap.size ≤ g) (h1 : Row w0 .i64 v1 x.to) (h2 : Row w0 .i64 v2 x.ks) (hm : mayI x = true) :
    Calls Try.prog 51 #[.pointer (some ⟨g, 0, none⟩), .agg (x.vals v1 v2)] w (InsLeft w0 g x.a (encB x)) := by
  have H1 := Lib.hid h1
  have H2 := Lib.hid h2
  obtain ⟨A1, k1, rfl, hc1, hm1, -⟩ := h1
  obtain ⟨A2, k2, rfl, hc2, hm2, -⟩ := h2
  unfold maxLen at hm1 hm2
  obtain ⟨ha, hto, hf, hri⟩ := may_parts hm
  have hs0 : WS w0 (w.alloc (.cells (x.vals (.slice A1 x.to.length k1) (.slice A2 x.ks.length k2)) 34)) w.heap.size g x (.slice A1 x.to.length k1) (.slice A2 x.ks.length k2) x.a (.slice none 0 0) [] :=
    ⟨(heap_alloc_old _ _ (lt_of_get hw)).trans hw, Own.nil _ _ _ _, heap_alloc_new _ _, hx.alloc _, hg⟩
  obtain ⟨d0, d1, d2, d3, d4, d5⟩ := hs0.xb.cells
  obtain ⟨c0, c1, f0, f1⟩ := hs0.wr.cells
  have hwo : IntKind.u8.wrap x.o = x.o := by rw [IntKind.wrap_u8]; omega
  have hwf := wf_u8 (x := x.o) (by omega) (by omega)
  have hrb : Row (((w.alloc (.cells #[.int .i64 x.a, .int .i64 x.o, .int .i64 x.n, .int .i64 x.m, .slice A1 x.to.length k1, .slice A2 x.ks.length k2] 34)).alloc (.cells #[.int .u8 x.o] 5)).drew) .u8 (.slice (some ⟨w.heap.size + 1, 0, none⟩) 1 1) [x.o] := by
    have h := (Row.built1 (w.alloc (.cells #[.int .i64 x.a, .int .i64 x.o, .int .i64 x.n, .int .i64 x.m, .slice A1 x.to.length k1, .slice A2 x.ks.length k2] 34)) .u8 5 x.o hwf).ext (Ext.refl _).drew
    rwa [show (w.alloc (.cells #[.int .i64 x.a, .int .i64 x.o, .int .i64 x.n, .int .i64 x.m, .slice A1 x.to.length k1, .slice A2 x.ks.length k2] 34)).heap.size = w.heap.size + 1 by simp] at h
  have HRB := Lib.hid hrb
  have c00 := fun o => (hs0.later ((Ext.refl _).alloc o)).wr.cells.1
  have HS := Lib.hid hs0
  have HF := Lib.hid (And.intro hto (And.intro hf hri))
  have HA := Lib.hid ha
  unfold In.vals at hs0 c00 d0 d1 d2 d3 d4 d5 c0 c1 f0 f1 HS ⊢
  clear hrb hf hto hri hm hw hs0 hx d0 d2 d3 d4 d5
  go_enter Try.func51, Try.ntmps51
  go_wp2_with fail
  go_cut [19] from 8 to 18 (fun s wr => ∃ u, Hid (WS w0 wr w.heap.size g x (.slice A1 x.to.length k1) (.slice A2 x.ks.length k2) x.a u [x.o]))
  case first =>
    go_region_law (first
      | ((refine step_app rfl _ _ w0.heap.size 22 5 _ 1 .u8 rfl Try.underlying22 info8 rfl (by omega) (.slice none 0 0) [] rfl (HS.out.later (((Ext.refl _).alloc _).drew)).own _ [x.o] rfl HRB.out (by simp) (HS.out.later (((Ext.refl _).alloc _).drew)).ext.size ?_); intro u w2 ho2 hg2 hb2; obtain ⟨A3, n3, k3, rfl⟩ := ho2.sl; obtain ⟨hs2, y2, z2, t2⟩ := (HS.out.later (((Ext.refl _).alloc _).drew)).app ho2 hg2; have t3 := hs2.xb.cells.2.1)
      | (fail))
    all_goals
      go_wp2_with fail
      go_meet
      exact ⟨_, Lib.hid hs2⟩
  case rest =>
    obtain ⟨u, HW⟩ := hcut
    clear d1 c00 c0 c1 f0 f1 hwf hwo
    have hzc : shapeZ x.o = 0 ∨ shapeZ x.o = 1 ∨ shapeZ x.o = 2 ∨ shapeZ x.o = 3 ∨ shapeZ x.o = 4 ∨ shapeZ x.o = 5 ∨ shapeZ x.o = 6 ∨ shapeZ x.o = 7 := by
      have := shapeZ_le x.o
      omega
    obtain ⟨d0, d1, d2, d3, d4, d5⟩ := HW.out.xb.cells
    rcases hzc with hz | hz | hz | hz | hz | hz | hz | hz
    · have HZ := Lib.hid hz
      clear hz
      go_wp2_with fail
      refine (Shape_any _ _).mono ?_
      rintro e w1 ⟨rfl, x1⟩
      rw [HZ.out]
      have HW1 := Lib.hid (HW.out.later x1)
      clear HW d0 d1 d2 d3 d4 d5
      obtain ⟨d0, d1, d2, d3, d4, d5⟩ := HW1.out.xb.cells
      go_wp2
      go_end0
      refine ⟨rfl, _, HW1.out.wr, ?_, HW1.out.ext⟩
      have ho := HW1.out.own
      simpa [encB, tailB, HZ.out] using ho
    · have HZ := Lib.hid hz
      have hf := f_1 HF.out.2.1 hz
      clear hz
      go_wp2_with fail
      refine (Shape_any _ _).mono ?_
      rintro e w1 ⟨rfl, x1⟩
      rw [HZ.out]
      have HW1 := Lib.hid (HW.out.later x1)
      clear HW d0 d1 d2 d3 d4 d5
      obtain ⟨d0, d1, d2, d3, d4, d5⟩ := HW1.out.xb.cells
      go_wp2_with fail
      refine (put_any w0 _ w.heap.size g x _ _ x.a _ _ HW1.out x.n 1 _ (bS_1 (by omega)) (by omega) (by omega) (.inl rfl) (by simp [be1])).mono ?_
      rintro e w2 ⟨rfl, u2, hk⟩
      have HW2 := Lib.hid hk
      clear hk d0 d1 d2 d3 d4 d5
      obtain ⟨d0, d1, d2, d3, d4, d5⟩ := HW2.out.xb.cells
      go_wp2
      go_end0
      refine ⟨rfl, _, HW2.out.wr, ?_, HW2.out.ext⟩
      have ho := HW2.out.own
      simpa [encB, tailB, HZ.out] using ho
    · have HZ := Lib.hid hz
      have hf := f_2 HF.out.2.1 hz
      clear hz
      go_wp2_with fail
      refine (Shape_any _ _).mono ?_
      rintro e w1 ⟨rfl, x1⟩
      rw [HZ.out]
      have HW1 := Lib.hid (HW.out.later x1)
      clear HW d0 d1 d2 d3 d4 d5
      obtain ⟨d0, d1, d2, d3, d4, d5⟩ := HW1.out.xb.cells
      go_wp2_with fail
      refine (put_any w0 _ w.heap.size g x _ _ x.a _ _ HW1.out x.n 2 _ (bS_2 (by omega)) (by omega) (by omega) (.inr (.inl rfl)) (by simp [be2])).mono ?_
      rintro e w2 ⟨rfl, u2, hk⟩
      have HW2 := Lib.hid hk
      clear hk d0 d1 d2 d3 d4 d5
      obtain ⟨d0, d1, d2, d3, d4, d5⟩ := HW2.out.xb.cells
      go_wp2
      go_end0
      refine ⟨rfl, _, HW2.out.wr, ?_, HW2.out.ext⟩
      have ho := HW2.out.own
      simpa [encB, tailB, HZ.out] using ho
    · have HZ := Lib.hid hz
      have hf := f_3 HF.out.2.1 hz
      clear hz
      go_wp2_with fail
      refine (Shape_any _ _).mono ?_
      rintro e w1 ⟨rfl, x1⟩
      rw [HZ.out]
      have HW1 := Lib.hid (HW.out.later x1)
      clear HW d0 d1 d2 d3 d4 d5
      obtain ⟨d0, d1, d2, d3, d4, d5⟩ := HW1.out.xb.cells
      go_wp2_with fail
      refine (put_any w0 _ w.heap.size g x _ _ x.a _ _ HW1.out x.n 2 _ (bS_2 (by omega)) (by omega) (by omega) (.inr (.inl rfl)) (by simp [be2])).mono ?_
      rintro e w2 ⟨rfl, u2, hk⟩
      have HW2 := Lib.hid hk
      clear hk d0 d1 d2 d3 d4 d5
      obtain ⟨d0, d1, d2, d3, d4, d5⟩ := HW2.out.xb.cells
      go_wp2
      go_end0
      refine ⟨rfl, _, HW2.out.wr, ?_, HW2.out.ext⟩
      have ho := HW2.out.own
      simpa [encB, tailB, HZ.out] using ho
    · have HZ := Lib.hid hz
      have hf := f_4 HF.out.2.1 hz
      clear hz
      go_wp2_with fail
      refine (Shape_any _ _).mono ?_
      rintro e w1 ⟨rfl, x1⟩
      rw [HZ.out]
      have HW1 := Lib.hid (HW.out.later x1)
      clear HW d0 d1 d2 d3 d4 d5
      obtain ⟨d0, d1, d2, d3, d4, d5⟩ := HW1.out.xb.cells
      obtain ⟨b1, o1, rfl, hat⟩ := H1.out.all (by omega)
      have HAT := Lib.hid hat
      clear hat
      have y1 := HAT.out _ HW1.out.ext 0 (by omega)
      rw [Nat.add_zero] at y1
      go_wp2_with fail
      refine (place_any' w0 _ w.heap.size g x _ _ x.a _ _ HW1.out (gi x.to 0) (all_gi HF.out.1 (by omega)) ⟨HA.out.1, HA.out.2.1⟩ (by simp)).mono ?_
      rintro e w2 ⟨rfl, u2, hk⟩
      have HW2 := Lib.hid hk
      clear hk d0 d1 d2 d3 d4 d5
      obtain ⟨d0, d1, d2, d3, d4, d5⟩ := HW2.out.xb.cells
      go_wp2
      go_end0
      refine ⟨rfl, _, HW2.out.wr, ?_, HW2.out.ext⟩
      have ho := HW2.out.own
      rw [← headD_gi] at ho
      simpa [encB, tailB, HZ.out] using ho
    · have HZ := Lib.hid hz
      have hf := f_5 HF.out.2.1 hz
      clear hz
      go_wp2_with fail
      refine (Shape_any _ _).mono ?_
      rintro e w1 ⟨rfl, x1⟩
      rw [HZ.out]
      have HW1 := Lib.hid (HW.out.later x1)
      clear HW d0 d1 d2 d3 d4 d5
      obtain ⟨d0, d1, d2, d3, d4, d5⟩ := HW1.out.xb.cells
      go_wp2_with fail
      refine (put_any w0 _ w.heap.size g x _ _ x.a _ _ HW1.out x.n 1 _ (bS_1 (by omega)) (by omega) (by omega) (.inl rfl) (by simp [be1])).mono ?_
      rintro e w2 ⟨rfl, u2, hk⟩
      have HW2 := Lib.hid hk
      clear hk d0 d1 d2 d3 d4 d5
      obtain ⟨d0, d1, d2, d3, d4, d5⟩ := HW2.out.xb.cells
      go_wp2_with fail
      refine (put_any w0 _ w.heap.size g x _ _ x.a _ _ HW2.out x.m 1 _ (bS_1 (by omega)) (by omega) (by omega) (.inl rfl) (by simp [be1])).mono ?_
      rintro e w3 ⟨rfl, u3, hk⟩
      have HW3 := Lib.hid hk
      clear hk d0 d1 d2 d3 d4 d5
      obtain ⟨d0, d1, d2, d3, d4, d5⟩ := HW3.out.xb.cells
      go_wp2
      go_end0
      refine ⟨rfl, _, HW3.out.wr, ?_, HW3.out.ext⟩
      have ho := HW3.out.own
      simpa [encB, tailB, HZ.out] using ho
    · have HZ := Lib.hid hz
      have hf := f_6 HF.out.2.1 hz
      clear hz
      go_wp2_with fail
      refine (Shape_any _ _).mono ?_
      rintro e w1 ⟨rfl, x1⟩
      rw [HZ.out]
      have HW1 := Lib.hid (HW.out.later x1)
      clear HW d0 d1 d2 d3 d4 d5
      obtain ⟨d0, d1, d2, d3, d4, d5⟩ := HW1.out.xb.cells
      obtain ⟨b1, o1, rfl, hat⟩ := H1.out.all (by omega)
      have HAT := Lib.hid hat
      clear hat
      have hw1 : IntKind.i64.wrap ((x.to.length : Int) - 1) = x.to.length - 1 := by rw [IntKind.wrap_i64]; omega
      have y1 := HAT.out _ HW1.out.ext 0 (by omega)
      rw [Nat.add_zero] at y1
      go_wp2_with fail
      refine (place_any' w0 _ w.heap.size g x _ _ x.a _ _ HW1.out (gi x.to 0) (all_gi HF.out.1 (by omega)) ⟨HA.out.1, HA.out.2.1⟩ (by simp)).mono ?_
      rintro e w2 ⟨rfl, u2, hk⟩
      have HW2 := Lib.hid hk
      clear hk d0 d1 d2 d3 d4 d5
      obtain ⟨d0, d1, d2, d3, d4, d5⟩ := HW2.out.xb.cells
      go_wp2_with fail
      refine (put_any w0 _ w.heap.size g x _ _ x.a _ _ HW2.out x.n 4 _ (bS_4 (by omega)) (by omega) (by omega) (.inr (.inr rfl)) (by simp [be2, be4])).mono ?_
      rintro e w3 ⟨rfl, u3, hk⟩
      have HW3 := Lib.hid hk
      clear hk d0 d1 d2 d3 d4 d5
      obtain ⟨d0, d1, d2, d3, d4, d5⟩ := HW3.out.xb.cells
      go_wp2_with fail
      refine (put_any w0 _ w.heap.size g x _ _ x.a _ _ HW3.out (x.to.length - 1) 2 _ (bS_2 (by omega)) (by omega) (by omega) (.inr (.inl rfl)) (by simp [be2, be4])).mono ?_
      rintro e w4 ⟨rfl, u4, hk⟩
      have HW4 := Lib.hid hk
      clear hk d0 d1 d2 d3 d4 d5
      obtain ⟨d0, d1, d2, d3, d4, d5⟩ := HW4.out.xb.cells
      go_wp2_with fail
      go_loopw [76] (fun i wr => ∃ (k : Nat) (u : Value), i = .int .i64 k ∧ k + 1 ≤ x.to.length ∧ Hid (WS w0 wr w.heap.size g x (.slice (some ⟨b1, o1, none⟩) x.to.length k1) (.slice A2 x.ks.length k2) x.a u ([x.o] ++ be2 (gi x.to 0 - x.a) ++ be4 x.n ++ be2 (x.to.length - 1) ++ tos x.a (x.to.tail.take k)))) (fun i _ => x.to.length - (intOf i).toNat)
      case atStart => exact ⟨0, _, rfl, by omega, Lib.hid (by simpa [tos] using HW4.out)⟩
      case round =>
        obtain ⟨k, u, rfl, hk, HWk⟩ := hrel
        by_cases hlt : k + 1 < x.to.length
        · have y0 := HAT.out _ HWk.out.ext (k + 1) hlt
          rw [show o1 + (k + 1) = o1 + 1 + k by omega] at y0
          clear d0 d1 d2 d3 d4 d5
          go_wp2_with fail
          refine (place_any' w0 _ w.heap.size g x _ _ x.a _ _ HWk.out (gi x.to (k + 1)) (all_gi HF.out.1 hlt) ⟨HA.out.1, HA.out.2.1⟩ (by simp [be2, be4, tos_len]; omega)).mono ?_
          rintro e w5 ⟨rfl, u5, hk5⟩
          rw [List.append_assoc, ← gi_tail, ← tos_next (by simp; omega)] at hk5
          have HW5 := Lib.hid hk5
          clear hk5
          go_wp2_with fail
          go_roundw
          case rel => exact ⟨k + 1, u5, by go_num, by omega, HW5⟩
          case measure => simp [intOf]; omega
        · have hkn : k = x.to.length - 1 := by omega
          clear d0 d1 d2 d3 d4 d5
          go_wp2
          go_end0
          refine ⟨rfl, _, HWk.out.wr, ?_, HWk.out.ext⟩
          have ho := HWk.out.own
          rw [hkn, show x.to.tail.take (x.to.length - 1) = x.to.tail by rw [← List.length_tail, List.take_length], ← headD_gi] at ho
          simpa [encB, tailB, HZ.out] using ho
    · have HZ := Lib.hid hz
      have hf := f_7 HF.out.2.1 hz
      clear hz
      go_wp2_with fail
      refine (Shape_any _ _).mono ?_
      rintro e w1 ⟨rfl, x1⟩
      rw [HZ.out]
      have HW1 := Lib.hid (HW.out.later x1)
      clear HW d0 d1 d2 d3 d4 d5
      obtain ⟨d0, d1, d2, d3, d4, d5⟩ := HW1.out.xb.cells
      obtain ⟨b1, o1, rfl, hat⟩ := H1.out.all (by omega)
      have HAT := Lib.hid hat
      clear hat
      have y1 := HAT.out _ HW1.out.ext 0 (by omega)
      rw [Nat.add_zero] at y1
      go_wp2_with fail
      refine (place_any' w0 _ w.heap.size g x _ _ x.a _ _ HW1.out (gi x.to 0) (all_gi HF.out.1 (by omega)) ⟨HA.out.1, HA.out.2.1⟩ (by simp)).mono ?_
      rintro e w2 ⟨rfl, u2, hk⟩
      have HW2 := Lib.hid hk
      clear hk d0 d1 d2 d3 d4 d5
      obtain ⟨d0, d1, d2, d3, d4, d5⟩ := HW2.out.xb.cells
      go_wp2_with fail
      refine (put_any w0 _ w.heap.size g x _ _ x.a _ _ HW2.out x.ks.length 2 _ (bS_2 (by omega)) (by omega) (by omega) (.inr (.inl rfl)) (by simp [be2])).mono ?_
      rintro e w3 ⟨rfl, u3, hk⟩
      have HW3 := Lib.hid hk
      clear hk d0 d1 d2 d3 d4 d5
      obtain ⟨d0, d1, d2, d3, d4, d5⟩ := HW3.out.xb.cells
      go_wp2_with fail
      go_loopw [100] (fun i wr => ∃ (k : Nat) (u : Value), i = .int .i64 k ∧ k ≤ x.ks.length ∧ Hid (WS w0 wr w.heap.size g x (.slice (some ⟨b1, o1, none⟩) x.to.length k1) (.slice A2 x.ks.length k2) x.a u ([x.o] ++ be2 (gi x.to 0 - x.a) ++ be2 x.ks.length ++ kts x.a (x.ks.take k) (x.to.tail.take k)))) (fun i _ => x.ks.length - (intOf i).toNat)
      case atStart => exact ⟨0, _, rfl, by omega, Lib.hid (by simpa [kts] using HW3.out)⟩
      case round =>
        obtain ⟨k, u, rfl, hk, HWk⟩ := hrel
        by_cases hlt : k < x.ks.length
        · obtain ⟨b2, o2, rfl, hat2⟩ := H2.out.all (by omega)
          have HAT2 := Lib.hid hat2
          have y0 := hat2 _ HWk.out.ext k hlt
          have hki := isInt_in (rise_int HF.out.2.2 _ (gi_mem hlt))
          have hlk : (kts x.a (x.ks.take k) (x.to.tail.take k)).length = 6 * k := by rw [kts_len _ _ (by simp; omega)]; simp; omega
          have hw1 : IntKind.i64.wrap (1 + (k : Int)) = 1 + k := by rw [IntKind.wrap_i64]; omega
          clear hat2 d0 d1 d2 d3 d4 d5
          go_wp2_with fail
          refine (put_any w0 _ w.heap.size g x _ _ x.a _ _ HWk.out (gi x.ks k) 4 _ (bS_4 (by omega)) (by omega) (by omega) (.inr (.inr rfl)) (by simp [be2, be4, hlk]; omega)).mono ?_
          rintro e w5 ⟨rfl, u5, hk5⟩
          have HW5 := Lib.hid hk5
          clear hk5
          obtain ⟨d0, d1, d2, d3, d4, d5⟩ := HW5.out.xb.cells
          have y5 := HAT.out _ HW5.out.ext (k + 1) (by omega)
          rw [show o1 + (k + 1) = o1 + (1 + k) by omega] at y5
          go_wp2_with fail
          refine (place_any' w0 _ w.heap.size g x _ _ x.a _ _ HW5.out (gi x.to (k + 1)) (all_gi HF.out.1 (by omega)) ⟨HA.out.1, HA.out.2.1⟩ (by simp [be2, be4, hlk]; omega)).mono ?_
          rintro e w6 ⟨rfl, u6, hk6⟩
          rw [List.append_assoc, List.append_assoc, ← gi_tail, ← kts_next hlt (by simp; omega)] at hk6
          have HW6 := Lib.hid hk6
          clear hk6
          go_wp2_with fail
          go_roundw
          case rel => exact ⟨k + 1, u6, by go_num, by omega, HW6⟩
          case measure => simp [intOf]; omega
        · have hkn : k = x.ks.length := by omega
          clear d0 d1 d2 d3 d4 d5
          go_wp2
          go_end0
          refine ⟨rfl, _, HWk.out.wr, ?_, HWk.out.ext⟩
          have ho := HWk.out.own
          rw [hkn, List.take_length, show x.ks.length = x.to.tail.length by simp; omega, List.take_length, ← show x.ks.length = x.to.tail.length by simp; omega, ← headD_gi] at ho
          simpa [encB, tailB, HZ.out] using ho
end Go.Proofs.Ytcgajgileehbbaa
