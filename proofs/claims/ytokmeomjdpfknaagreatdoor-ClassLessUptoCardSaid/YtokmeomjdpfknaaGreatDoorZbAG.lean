/- Several texts of this proof, one behind the other. -/
import Derived.Test.YtokmeomjdpfknaaGreatDoorZbAF
namespace Go.Proofs.YtokmeomjdpfknaaGreatDoor
open Go.RowKit
set_option linter.unusedVariables false

theorem cl_same {x y : Cl} (h1 : x.nm = y.nm) (h2 : x.sup = y.sup) (h3 : x.inf = y.inf) (h4 : x.pool = y.pool) (h5 : x.ifs = y.ifs) (h6 : x.fds = y.fds) (h7 : x.mts = y.mts) : x = y := by
  obtain ⟨a1, a2, a3, a4, a5, a6, a7⟩ := x
  obtain ⟨b1, b2, b3, b4, b5, b6, b7⟩ := y
  simp only at h1 h2 h3 h4 h5 h6 h7
  rw [h1, h2, h3, h4, h5, h6, h7]
set_option maxRecDepth 100000 in
set_option maxHeartbeats 16000000 in
theorem classSame_any (c d : Cl) (vp vi vf vm vp' vi' vf' vm' : Value) (w : World) (hc : ClAt w c vp vi vf vm) (hd : ClAt w d vp' vi' vf' vm') (rc : ClRoom c) (rd : ClRoom d) :
    Calls Tryz.prog 17 #[.agg (c.vals vp vi vf vm), .agg (d.vals vp' vi' vf' vm')] w fun e w' => e = .returned (.bool (decide (c = d))) ∧ Ext w w' := by
  have H4 := Lib.hid (fun W (e : Ext w W) => (equalC_any vp vp' c.pool d.pool W (hc.1.ext e) (hd.1.ext e)).mono (R' := fun e w' => e = .returned (.bool (decide (c.pool = d.pool))) ∧ Ext W w') (by rintro e w' ⟨rfl, m, rfl⟩; exact ⟨rfl, (Ext.refl W).drewN m⟩))
  have H5 := Lib.hid (fun W (e : Ext w W) => (equalS_any vi vi' c.ifs d.ifs W (hc.2.1.ext e) (hd.2.1.ext e)).mono (R' := fun e w' => e = .returned (.bool (decide (c.ifs = d.ifs))) ∧ Ext W w') (by rintro e w' ⟨rfl, m, rfl⟩; exact ⟨rfl, (Ext.refl W).drewN m⟩))
  have H6 := Lib.hid (fun W (e : Ext w W) => (equalF_any vf vf' c.fds d.fds W (hc.2.2.1.ext e) (hd.2.2.1.ext e)).mono (R' := fun e w' => e = .returned (.bool (decide (c.fds = d.fds))) ∧ Ext W w') (by rintro e w' ⟨rfl, m, rfl⟩; exact ⟨rfl, (Ext.refl W).drewN m⟩))
  have H7 := Lib.hid (fun W (e : Ext w W) => equalM_any vm vm' c.mts d.mts W (hc.2.2.2.ext e) (hd.2.2.2.ext e) rc.mts rd.mts)
  have X0 : Hid (∀ o p : Obj, Ext w ((w.alloc o).alloc p)) := Lib.hid (fun o p => ((Ext.refl w).alloc o).alloc p)
  have BX := Lib.hid (fun W (e : Ext ((w.alloc (.cells (c.vals vp vi vf vm) 27)).alloc (.cells (d.vals vp' vi' vf' vm') 27)) W) => ((BK.new w (c.vals vp vi vf vm) 27).ext ((Ext.refl _).alloc (.cells (d.vals vp' vi' vf' vm') 27))).ext e)
  have BY := Lib.hid (fun W (e : Ext ((w.alloc (.cells (c.vals vp vi vf vm) 27)).alloc (.cells (d.vals vp' vi' vf' vm') 27)) W) => (show BK _ (w.heap.size + 1) (d.vals vp' vi' vf' vm') 27 from by have := BK.new (w.alloc (.cells (c.vals vp vi vf vm) 27)) (d.vals vp' vi' vf' vm') 27; simpa [BK] using this).ext e)
  clear hc hd rc rd
  unfold Cl.vals at BX BY ⊢
  by_cases h1 : c.nm = d.nm
  · by_cases h2 : c.sup = d.sup
    · by_cases h3 : c.inf = d.inf
      · by_cases h4 : c.pool = d.pool
        · by_cases h5 : c.ifs = d.ifs
          · by_cases h6 : c.fds = d.fds
            · by_cases h7 : c.mts = d.mts
              · have HE := Lib.hid (show decide (c = d) = true from decide_eq_true (cl_same h1 h2 h3 h4 h5 h6 h7))
                simp only [decide_eq_true h4] at H4
                simp only [decide_eq_true h5] at H5
                simp only [decide_eq_true h6] at H6
                simp only [decide_eq_true h7] at H7
                have e1 : (c.nm.toList == d.nm.toList) = true := by rw [h1]; simp
                have e2 : (c.sup.toList == d.sup.toList) = true := by rw [h2]; simp
                have e3 : (c.inf == d.inf) = true := by rw [h3]; simp
                clear h1 h2 h3 h4 h5 h6 h7
                go_enter Tryz.func17, Tryz.ntmps17
                go_wp2_with fail
                refine (H4.out _ (X0.out _ _)).mono ?_
                rintro e w4 ⟨rfl, x4⟩
                have E4 := Lib.hid x4
                have X4 := Lib.hid ((X0.out _ _).trans x4)
                clear x4
                have c5 : w4.cell? ⟨w.heap.size, 4, none⟩ = some (vi) := (BX.out w4 E4.out).cell 4
                have d5 : w4.cell? ⟨w.heap.size + 1, 4, none⟩ = some (vi') := (BY.out w4 E4.out).cell 4
                go_wp2_with fail
                refine (H5.out _ X4.out).mono ?_
                rintro e w5 ⟨rfl, x5⟩
                have E5 := Lib.hid (E4.out.trans x5)
                have X5 := Lib.hid (X4.out.trans x5)
                clear x5 c5 d5
                have c6 : w5.cell? ⟨w.heap.size, 5, none⟩ = some (vf) := (BX.out w5 E5.out).cell 5
                have d6 : w5.cell? ⟨w.heap.size + 1, 5, none⟩ = some (vf') := (BY.out w5 E5.out).cell 5
                go_wp2_with fail
                refine (H6.out _ X5.out).mono ?_
                rintro e w6 ⟨rfl, x6⟩
                have E6 := Lib.hid (E5.out.trans x6)
                have X6 := Lib.hid (X5.out.trans x6)
                clear x6 c6 d6
                have c7 : w6.cell? ⟨w.heap.size, 6, none⟩ = some (vm) := (BX.out w6 E6.out).cell 6
                have d7 : w6.cell? ⟨w.heap.size + 1, 6, none⟩ = some (vm') := (BY.out w6 E6.out).cell 6
                go_wp2_with fail
                refine (H7.out _ X6.out).mono ?_
                rintro e w7 ⟨rfl, x7⟩
                have E7 := Lib.hid (E6.out.trans x7)
                have X7 := Lib.hid (X6.out.trans x7)
                clear x7 c7 d7
                go_wp2
                go_ret
                exact ⟨by rw [HE.out]; rfl, X7.out⟩
              · have HE := Lib.hid (show decide (c = d) = false from decide_eq_false fun e => h7 (by rw [e]))
                simp only [decide_eq_true h4] at H4
                simp only [decide_eq_true h5] at H5
                simp only [decide_eq_true h6] at H6
                simp only [decide_eq_false h7] at H7
                have e1 : (c.nm.toList == d.nm.toList) = true := by rw [h1]; simp
                have e2 : (c.sup.toList == d.sup.toList) = true := by rw [h2]; simp
                have e3 : (c.inf == d.inf) = true := by rw [h3]; simp
                clear h1 h2 h3 h4 h5 h6 h7
                go_enter Tryz.func17, Tryz.ntmps17
                go_wp2_with fail
                refine (H4.out _ (X0.out _ _)).mono ?_
                rintro e w4 ⟨rfl, x4⟩
                have E4 := Lib.hid x4
                have X4 := Lib.hid ((X0.out _ _).trans x4)
                clear x4
                have c5 : w4.cell? ⟨w.heap.size, 4, none⟩ = some (vi) := (BX.out w4 E4.out).cell 4
                have d5 : w4.cell? ⟨w.heap.size + 1, 4, none⟩ = some (vi') := (BY.out w4 E4.out).cell 4
                go_wp2_with fail
                refine (H5.out _ X4.out).mono ?_
                rintro e w5 ⟨rfl, x5⟩
                have E5 := Lib.hid (E4.out.trans x5)
                have X5 := Lib.hid (X4.out.trans x5)
                clear x5 c5 d5
                have c6 : w5.cell? ⟨w.heap.size, 5, none⟩ = some (vf) := (BX.out w5 E5.out).cell 5
                have d6 : w5.cell? ⟨w.heap.size + 1, 5, none⟩ = some (vf') := (BY.out w5 E5.out).cell 5
                go_wp2_with fail
                refine (H6.out _ X5.out).mono ?_
                rintro e w6 ⟨rfl, x6⟩
                have E6 := Lib.hid (E5.out.trans x6)
                have X6 := Lib.hid (X5.out.trans x6)
                clear x6 c6 d6
                have c7 : w6.cell? ⟨w.heap.size, 6, none⟩ = some (vm) := (BX.out w6 E6.out).cell 6
                have d7 : w6.cell? ⟨w.heap.size + 1, 6, none⟩ = some (vm') := (BY.out w6 E6.out).cell 6
                go_wp2_with fail
                refine (H7.out _ X6.out).mono ?_
                rintro e w7 ⟨rfl, x7⟩
                have E7 := Lib.hid (E6.out.trans x7)
                have X7 := Lib.hid (X6.out.trans x7)
                clear x7 c7 d7
                go_wp2
                go_ret
                exact ⟨by rw [HE.out]; rfl, X7.out⟩
            · have HE := Lib.hid (show decide (c = d) = false from decide_eq_false fun e => h6 (by rw [e]))
              simp only [decide_eq_true h4] at H4
              simp only [decide_eq_true h5] at H5
              simp only [decide_eq_false h6] at H6
              have e1 : (c.nm.toList == d.nm.toList) = true := by rw [h1]; simp
              have e2 : (c.sup.toList == d.sup.toList) = true := by rw [h2]; simp
              have e3 : (c.inf == d.inf) = true := by rw [h3]; simp
              clear h1 h2 h3 h4 h5 h6 H7
              go_enter Tryz.func17, Tryz.ntmps17
              go_wp2_with fail
              refine (H4.out _ (X0.out _ _)).mono ?_
              rintro e w4 ⟨rfl, x4⟩
              have E4 := Lib.hid x4
              have X4 := Lib.hid ((X0.out _ _).trans x4)
              clear x4
              have c5 : w4.cell? ⟨w.heap.size, 4, none⟩ = some (vi) := (BX.out w4 E4.out).cell 4
              have d5 : w4.cell? ⟨w.heap.size + 1, 4, none⟩ = some (vi') := (BY.out w4 E4.out).cell 4
              go_wp2_with fail
              refine (H5.out _ X4.out).mono ?_
              rintro e w5 ⟨rfl, x5⟩
              have E5 := Lib.hid (E4.out.trans x5)
              have X5 := Lib.hid (X4.out.trans x5)
              clear x5 c5 d5
              have c6 : w5.cell? ⟨w.heap.size, 5, none⟩ = some (vf) := (BX.out w5 E5.out).cell 5
              have d6 : w5.cell? ⟨w.heap.size + 1, 5, none⟩ = some (vf') := (BY.out w5 E5.out).cell 5
              go_wp2_with fail
              refine (H6.out _ X5.out).mono ?_
              rintro e w6 ⟨rfl, x6⟩
              have E6 := Lib.hid (E5.out.trans x6)
              have X6 := Lib.hid (X5.out.trans x6)
              clear x6 c6 d6
              go_wp2
              go_ret
              exact ⟨by rw [HE.out]; rfl, X6.out⟩
          · have HE := Lib.hid (show decide (c = d) = false from decide_eq_false fun e => h5 (by rw [e]))
            simp only [decide_eq_true h4] at H4
            simp only [decide_eq_false h5] at H5
            have e1 : (c.nm.toList == d.nm.toList) = true := by rw [h1]; simp
            have e2 : (c.sup.toList == d.sup.toList) = true := by rw [h2]; simp
            have e3 : (c.inf == d.inf) = true := by rw [h3]; simp
            clear h1 h2 h3 h4 h5 H6 H7
            go_enter Tryz.func17, Tryz.ntmps17
            go_wp2_with fail
            refine (H4.out _ (X0.out _ _)).mono ?_
            rintro e w4 ⟨rfl, x4⟩
            have E4 := Lib.hid x4
            have X4 := Lib.hid ((X0.out _ _).trans x4)
            clear x4
            have c5 : w4.cell? ⟨w.heap.size, 4, none⟩ = some (vi) := (BX.out w4 E4.out).cell 4
            have d5 : w4.cell? ⟨w.heap.size + 1, 4, none⟩ = some (vi') := (BY.out w4 E4.out).cell 4
            go_wp2_with fail
            refine (H5.out _ X4.out).mono ?_
            rintro e w5 ⟨rfl, x5⟩
            have E5 := Lib.hid (E4.out.trans x5)
            have X5 := Lib.hid (X4.out.trans x5)
            clear x5 c5 d5
            go_wp2
            go_ret
            exact ⟨by rw [HE.out]; rfl, X5.out⟩
        · have HE := Lib.hid (show decide (c = d) = false from decide_eq_false fun e => h4 (by rw [e]))
          simp only [decide_eq_false h4] at H4
          have e1 : (c.nm.toList == d.nm.toList) = true := by rw [h1]; simp
          have e2 : (c.sup.toList == d.sup.toList) = true := by rw [h2]; simp
          have e3 : (c.inf == d.inf) = true := by rw [h3]; simp
          clear h1 h2 h3 h4 H5 H6 H7
          go_enter Tryz.func17, Tryz.ntmps17
          go_wp2_with fail
          refine (H4.out _ (X0.out _ _)).mono ?_
          rintro e w4 ⟨rfl, x4⟩
          have E4 := Lib.hid x4
          have X4 := Lib.hid ((X0.out _ _).trans x4)
          clear x4
          go_wp2
          go_ret
          exact ⟨by rw [HE.out]; rfl, X4.out⟩
      · have HE := Lib.hid (show decide (c = d) = false from decide_eq_false fun e => h3 (by rw [e]))
        have e3 := bool_ne h3
        have e1 : (c.nm.toList == d.nm.toList) = true := by rw [h1]; simp
        have e2 : (c.sup.toList == d.sup.toList) = true := by rw [h2]; simp
        clear h1 h2 h3 H4 H5 H6 H7 BX BY
        go_enter Tryz.func17, Tryz.ntmps17
        go_wp2
        go_ret
        exact ⟨by rw [HE.out]; rfl, X0.out _ _⟩
    · have HE := Lib.hid (show decide (c = d) = false from decide_eq_false fun e => h2 (by rw [e]))
      have e2 := str_ne h2
      have e1 : (c.nm.toList == d.nm.toList) = true := by rw [h1]; simp
      clear h1 h2 H4 H5 H6 H7 BX BY
      go_enter Tryz.func17, Tryz.ntmps17
      go_wp2
      go_ret
      exact ⟨by rw [HE.out]; rfl, X0.out _ _⟩
  · have HE := Lib.hid (show decide (c = d) = false from decide_eq_false fun e => h1 (by rw [e]))
    have e1 := str_ne h1
    clear h1 H4 H5 H6 H7 BX BY
    go_enter Tryz.func17, Tryz.ntmps17
    go_wp2
    go_ret
    exact ⟨by rw [HE.out]; rfl, X0.out _ _⟩
end Go.Proofs.YtokmeomjdpfknaaGreatDoor
