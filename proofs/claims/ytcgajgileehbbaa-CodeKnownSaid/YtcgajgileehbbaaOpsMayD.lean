/- The document's May, walked: shapes 6. -/
import Derived.Test.YtcgajgileehbbaaOpsMay0
import Derived.LoopN
import Derived.BigQuiet
import Derived.Deep.QuietTactic
import Derived.Deep.RegionHeld3
namespace Go.Proofs.Ytcgajgileehbbaa
open Go.RowKit
set_option linter.unusedVariables false
set_option maxRecDepth 100000 in
set_option maxHeartbeats 8000000 in
theorem refMay_D (x : In) (v1 v2 : Value) (w : World) (h1 : Row w .i64 v1 x.to) (h2 : Row w .i64 v2 x.ks) (ho : 0 ≤ x.a ∧ x.a < 8192 ∧ 0 ≤ x.o ∧ x.o ≤ 89) (hzc : shapeZ x.o = 6) :
    Calls Try.prog 59 #[.agg (x.vals v1 v2)] w fun e w' => e = .returned (.bool (mayI x)) ∧ Ext w w' := by
  have H1 := Lib.hid h1
  have H2 := Lib.hid h2
  obtain ⟨A1, k1, rfl, hc1, hm1, -⟩ := h1
  obtain ⟨A2, k2, rfl, hc2, hm2, -⟩ := h2
  unfold maxLen at hm1 hm2
  have HB := Lib.hid (fun W e => boxed (w := w) (W := W) (x := x) (v1 := .slice A1 x.to.length k1) (v2 := .slice A2 x.ks.length k2) e)
  obtain ⟨d0, d1, d2, d3, d4, d5⟩ := HB.out _ (Ext.refl _)
  have HMT := Lib.hid (fun t W => refmayTo_any x A1 A2 x.to.length k1 x.ks.length k2 t W ⟨ho.1, ho.2.1⟩)
  have HM0 := Lib.hid (show x.to.all (mayTo x.a) = true → mayI x = (fieldsOk x && rise x.ks) from fun h => by unfold mayI; rw [decide_eq_true ho, h]; rfl)
  have HM1 := Lib.hid (show x.to.all (mayTo x.a) = false → mayI x = false from fun h => by unfold mayI; rw [decide_eq_true ho, h]; rfl)
  have q0 : ¬ x.a < 0 := by omega
  have q1 : ¬ 8192 ≤ x.a := by omega
  have q2 : ¬ x.o < 0 := by omega
  have q3 : ¬ 89 < x.o := by omega
  unfold In.vals at HB HMT d0 d1 d2 d3 d4 d5 ⊢
  clear ho
  go_enter Try.func59, Try.ntmps59
  go_wp2_with fail
  clear q0 q1 q2 q3 d0 d1 d2 d3 d4 d5
  go_loopw [3] (fun i wr => ∃ k : Nat, i = .int .i64 k ∧ k ≤ x.to.length ∧ Hid (Ext (w.alloc (.cells #[.int .i64 x.a, .int .i64 x.o, .int .i64 x.n, .int .i64 x.m, .slice A1 x.to.length k1, .slice A2 x.ks.length k2] 34)) wr) ∧ Hid ((x.to.take k).all (mayTo x.a) = true)) (fun i _ => x.to.length - (intOf i).toNat)
  case atStart => exact ⟨0, rfl, by omega, Lib.hid (Ext.refl _), Lib.hid rfl⟩
  case round =>
    obtain ⟨k, rfl, hk, HX, HT⟩ := hrel
    obtain ⟨d0, d1, d2, d3, d4, d5⟩ := HB.out _ HX.out
    by_cases hlt : k < x.to.length
    · obtain ⟨b1, o1, rfl, hat⟩ := H1.out.all (by omega)
      have HAT := Lib.hid hat
      have y0 := hat _ (((Ext.refl w).alloc _).trans HX.out) k hlt
      have hk0 : (0 : Int) ≤ k := by omega
      have hkl : (k : Int) < x.to.length := by omega
      obtain ⟨t, ht⟩ : ∃ t, gi x.to k = t := ⟨_, rfl⟩
      rw [ht] at y0
      have HTT := Lib.hid ht
      clear hat ht
      obtain ⟨mb, hmb⟩ : ∃ mb, mayTo x.a t = mb := ⟨_, rfl⟩
      have HMB := Lib.hid hmb
      clear hmb
      have E1 := And.intro d0 (And.intro d1 (And.intro d2 (And.intro d3 (And.intro d4 (And.intro d5 y0)))))
      cases mb
      all_goals
        go_wp2_with fail
        go_region_held3 (fun w' => w'.cell? ⟨w.heap.size, 0, none⟩ = some (.int .i64 x.a) ∧ w'.cell? ⟨w.heap.size, 1, none⟩ = some (.int .i64 x.o) ∧ w'.cell? ⟨w.heap.size, 2, none⟩ = some (.int .i64 x.n) ∧ w'.cell? ⟨w.heap.size, 3, none⟩ = some (.int .i64 x.m) ∧ w'.cell? ⟨w.heap.size, 4, none⟩ = some (.slice (some ⟨b1, o1, none⟩) x.to.length k1) ∧ w'.cell? ⟨w.heap.size, 5, none⟩ = some (.slice A2 x.ks.length k2) ∧ w'.cell? ⟨b1, o1 + k, none⟩ = some (.int .i64 t)) (first | exact ⟨d0, d1, d2, d3, d4, d5, y0⟩ | with_reducible exact E2) (first
          | (go_at_call 89; (with_reducible refine (HMT.out t _).mono ?_); rintro e w2 ⟨rfl, x2⟩; rw [HMB.out]; have X2 := HX.out.trans ((Ext.refl _).drew.trans x2); obtain ⟨e0, e1, e2, e3, e4, e5⟩ := HB.out _ X2; have y2 := HAT.out _ (((Ext.refl w).alloc _).trans X2) k hlt; rw [HTT.out] at y2; have E2 := And.intro e0 (And.intro e1 (And.intro e2 (And.intro e3 (And.intro e4 (And.intro e5 y2)))))))
      · go_wp2
        go_ret
        exact ⟨ret_bb (HM1.out (by
          rw [List.all_eq_false]
          exact ⟨_, gi_mem hlt, by rw [HTT.out, HMB.out]; simp⟩)).symm, ((Ext.refl w).alloc _).trans X2⟩
      · go_wp2_with fail
        go_roundw
        case rel =>
          refine ⟨k + 1, by go_num, by omega, Lib.hid X2, Lib.hid ?_⟩
          rw [take_one hlt, List.all_append, HT.out, HTT.out]
          simp [HMB.out]
        case measure => simp [intOf]; omega
    · obtain rfl : k = x.to.length := by omega
      have HM := Lib.hid (HM0.out (by have := HT.out; rwa [List.take_length] at this))
      obtain ⟨nb, hnb⟩ : ∃ nb, (x.n == 0) = nb := ⟨_, rfl⟩
      obtain ⟨mb, hmb⟩ : ∃ mb, (x.m == 0) = mb := ⟨_, rfl⟩
      have HNB := Lib.hid hnb
      have HMB := Lib.hid hmb
      go_wp2_with fail
      go_quiet (fail)
      go_wp2_with fail
      refine (refShape_any _ _).mono ?_
      rintro e W2 ⟨rfl, hW2⟩
      have X2 := HX.out.trans (drewN_ext wr nq)
      rw [← hW2] at X2
      clear hW2 d0 d1 d2 d3 d4 d5
      have HX2 := Lib.hid X2
      obtain ⟨d0, d1, d2, d3, d4, d5⟩ := HB.out _ X2
      clear X2 hnb hmb d0 d1
      have hz := hzc
      clear hzc
      · have HZ := Lib.hid hz
        rw [hz]
        clear hz
        have c1 : (¬ (2 : Int) ≤ x.to.length) ∨ ((2 : Int) ≤ x.to.length ∧ ¬ (x.to.length : Int) ≤ 1001) ∨ ((2 : Int) ≤ x.to.length ∧ (x.to.length : Int) ≤ 1001) := by omega
        have LEN := Lib.hid c1
        rcases c1 with g1 | ⟨g1, g2⟩ | ⟨g1, g2⟩
        · have LEN := Lib.hid g1
          by_cases l1 : x.ks.length = 0
          · have LK := Lib.hid l1
            have l3 : ((x.ks.length : Int) != 0) = false := bne_f (by omega)
            have l4 : ¬ (0 : Int) < x.ks.length := by omega
            clear l1
            cases mb
            · have em : ¬ x.m = 0 := by simpa using HMB.out
              have Em := Lib.hid em
              clear em
              go_wp2_with fail
              refine wp_loop_rounds 1 ?_
              rw [rounds_succ]
              go_wp2
              go_ret
              exact ⟨ret_bb (may_no HM.out (fun h => by have h := (fo_6 HZ.out).1 h; have L := LEN.out; omega)), ((Ext.refl w).alloc _).trans HX2.out⟩
            · have em : x.m = 0 := by simpa using HMB.out
              have Em := Lib.hid em
              clear em
              go_wp2_with fail
              refine wp_loop_rounds 1 ?_
              rw [rounds_succ]
              go_wp2
              go_ret
              exact ⟨ret_bb (may_no HM.out (fun h => by have h := (fo_6 HZ.out).1 h; have L := LEN.out; omega)), ((Ext.refl w).alloc _).trans HX2.out⟩
          · have LK := Lib.hid l1
            have l3 : ((x.ks.length : Int) != 0) = true := bne_t (by omega)
            clear l1
            go_wp2
            all_goals
              go_ret
              exact ⟨ret_bb (may_no HM.out (fun h => by have h := (fo_6 HZ.out).1 h; have L := LK.out; omega)), ((Ext.refl w).alloc _).trans HX2.out⟩
        · have LEN := Lib.hid g2
          by_cases l1 : x.ks.length = 0
          · have LK := Lib.hid l1
            have l3 : ((x.ks.length : Int) != 0) = false := bne_f (by omega)
            have l4 : ¬ (0 : Int) < x.ks.length := by omega
            clear l1
            cases mb
            · have em : ¬ x.m = 0 := by simpa using HMB.out
              have Em := Lib.hid em
              clear em
              go_wp2_with fail
              refine wp_loop_rounds 1 ?_
              rw [rounds_succ]
              go_wp2
              go_ret
              exact ⟨ret_bb (may_no HM.out (fun h => by have h := (fo_6 HZ.out).1 h; have L := LEN.out; omega)), ((Ext.refl w).alloc _).trans HX2.out⟩
            · have em : x.m = 0 := by simpa using HMB.out
              have Em := Lib.hid em
              clear em
              go_wp2_with fail
              refine wp_loop_rounds 1 ?_
              rw [rounds_succ]
              go_wp2
              go_ret
              exact ⟨ret_bb (may_no HM.out (fun h => by have h := (fo_6 HZ.out).1 h; have L := LEN.out; omega)), ((Ext.refl w).alloc _).trans HX2.out⟩
          · have LK := Lib.hid l1
            have l3 : ((x.ks.length : Int) != 0) = true := bne_t (by omega)
            clear l1
            go_wp2
            all_goals
              go_ret
              exact ⟨ret_bb (may_no HM.out (fun h => by have h := (fo_6 HZ.out).1 h; have L := LK.out; omega)), ((Ext.refl w).alloc _).trans HX2.out⟩
        · have LEN := Lib.hid (And.intro g1 g2)
          obtain ⟨i1, hi1⟩ : ∃ b, isInt x.n = b := ⟨_, rfl⟩
          have hib : i1 = true → -2147483648 ≤ x.n ∧ x.n ≤ 2147483647 := fun e => isInt_in (hi1.trans e)
          have B1 := Lib.hid hi1
          have HIB := Lib.hid hib
          clear hi1 hib
          cases i1
          · go_wp2_with fail
            refine (refisInt_any _ _).mono ?_
            rintro e W3 ⟨rfl, rfl⟩
            rw [B1.out]
            by_cases l1 : x.ks.length = 0
            · have LK := Lib.hid l1
              have l3 : ((x.ks.length : Int) != 0) = false := bne_f (by omega)
              have l4 : ¬ (0 : Int) < x.ks.length := by omega
              clear l1
              cases mb
              · have em : ¬ x.m = 0 := by simpa using HMB.out
                have Em := Lib.hid em
                clear em
                go_wp2_with fail
                refine wp_loop_rounds 1 ?_
                rw [rounds_succ]
                go_wp2
                go_ret
                exact ⟨ret_bb (may_no HM.out (fun h => by have h := (fo_6 HZ.out).1 h; have b := B1.out; rw [b] at h; exact Bool.noConfusion h.2.1)), ((Ext.refl w).alloc _).trans HX2.out⟩
              · have em : x.m = 0 := by simpa using HMB.out
                have Em := Lib.hid em
                clear em
                go_wp2_with fail
                refine wp_loop_rounds 1 ?_
                rw [rounds_succ]
                go_wp2
                go_ret
                exact ⟨ret_bb (may_no HM.out (fun h => by have h := (fo_6 HZ.out).1 h; have b := B1.out; rw [b] at h; exact Bool.noConfusion h.2.1)), ((Ext.refl w).alloc _).trans HX2.out⟩
            · have LK := Lib.hid l1
              have l3 : ((x.ks.length : Int) != 0) = true := bne_t (by omega)
              clear l1
              go_wp2
              all_goals
                go_ret
                exact ⟨ret_bb (may_no HM.out (fun h => by have h := (fo_6 HZ.out).1 h; have L := LK.out; omega)), ((Ext.refl w).alloc _).trans HX2.out⟩
          · have hbb := HIB.out rfl
            have w1 : IntKind.i64.wrap (x.n + (x.to.length : Int)) = x.n + x.to.length := by rw [IntKind.wrap_i64]; omega
            have w2 : IntKind.i64.wrap (x.n + (x.to.length : Int) - 2) = x.n + x.to.length - 2 := by rw [IntKind.wrap_i64]; omega
            clear hbb
            go_wp2_with fail
            refine (refisInt_any _ _).mono ?_
            rintro e W3 ⟨rfl, rfl⟩
            rw [B1.out]
            go_wp2_with fail
            refine (refisInt_any _ _).mono ?_
            rintro e W3 ⟨rfl, rfl⟩
            obtain ⟨i2, hi2⟩ : ∃ b, isInt (x.n + x.to.length - 2) = b := ⟨_, rfl⟩
            have B2 := Lib.hid hi2
            rw [hi2]
            clear hi2
            cases i2
            · skip
              by_cases l1 : x.ks.length = 0
              · have LK := Lib.hid l1
                have l3 : ((x.ks.length : Int) != 0) = false := bne_f (by omega)
                have l4 : ¬ (0 : Int) < x.ks.length := by omega
                clear l1
                cases mb
                · have em : ¬ x.m = 0 := by simpa using HMB.out
                  have Em := Lib.hid em
                  clear em
                  go_wp2_with fail
                  refine wp_loop_rounds 1 ?_
                  rw [rounds_succ]
                  go_wp2
                  go_ret
                  exact ⟨ret_bb (may_no HM.out (fun h => by have h := (fo_6 HZ.out).1 h; have b := B2.out; rw [b] at h; exact Bool.noConfusion h.2.2.1)), ((Ext.refl w).alloc _).trans HX2.out⟩
                · have em : x.m = 0 := by simpa using HMB.out
                  have Em := Lib.hid em
                  clear em
                  go_wp2_with fail
                  refine wp_loop_rounds 1 ?_
                  rw [rounds_succ]
                  go_wp2
                  go_ret
                  exact ⟨ret_bb (may_no HM.out (fun h => by have h := (fo_6 HZ.out).1 h; have b := B2.out; rw [b] at h; exact Bool.noConfusion h.2.2.1)), ((Ext.refl w).alloc _).trans HX2.out⟩
              · have LK := Lib.hid l1
                have l3 : ((x.ks.length : Int) != 0) = true := bne_t (by omega)
                clear l1
                go_wp2
                all_goals
                  go_ret
                  exact ⟨ret_bb (may_no HM.out (fun h => by have h := (fo_6 HZ.out).1 h; have L := LK.out; omega)), ((Ext.refl w).alloc _).trans HX2.out⟩
            · skip
              by_cases l1 : x.ks.length = 0
              · have LK := Lib.hid l1
                have l3 : ((x.ks.length : Int) != 0) = false := bne_f (by omega)
                have l4 : ¬ (0 : Int) < x.ks.length := by omega
                clear l1
                cases mb
                · have em : ¬ x.m = 0 := by simpa using HMB.out
                  have Em := Lib.hid em
                  clear em
                  go_wp2_with fail
                  refine wp_loop_rounds 1 ?_
                  rw [rounds_succ]
                  go_wp2
                  go_ret
                  exact ⟨ret_bb (may_no HM.out (fun h => by have h := (fo_6 HZ.out).1 h; have b := Em.out; omega)), ((Ext.refl w).alloc _).trans HX2.out⟩
                · have em : x.m = 0 := by simpa using HMB.out
                  have Em := Lib.hid em
                  clear em
                  go_wp2_with fail
                  refine wp_loop_rounds 1 ?_
                  rw [rounds_succ]
                  go_wp2
                  go_ret
                  exact ⟨ret_bb (may_yes HM.out ((fo_6 HZ.out).2 ⟨by have L := LEN.out; omega, B1.out, B2.out, by have b := Em.out; omega, by have L := LK.out; omega⟩) LK.out), ((Ext.refl w).alloc _).trans HX2.out⟩
              · have LK := Lib.hid l1
                have l3 : ((x.ks.length : Int) != 0) = true := bne_t (by omega)
                clear l1
                go_wp2
                all_goals
                  go_ret
                  exact ⟨ret_bb (may_no HM.out (fun h => by have h := (fo_6 HZ.out).1 h; have L := LK.out; omega)), ((Ext.refl w).alloc _).trans HX2.out⟩
end Go.Proofs.Ytcgajgileehbbaa
