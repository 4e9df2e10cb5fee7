/- Several texts of this proof, one behind the other. -/
import Derived.Test.YtokmeomjdpfknaaGreatDoorZbAF
import Derived.Test.YtokmeomjdpfknaaGreatDoorZbAG
import Derived.Deep.RegionHeld3
namespace Go.Proofs.YtokmeomjdpfknaaGreatDoor
open Go.RowKit
set_option linter.unusedVariables false

set_option maxRecDepth 100000 in
set_option maxHeartbeats 16000000 in
theorem refClassSame_any (c d : Cl) (vp vi vf vm vp' vi' vf' vm' : Value) (w : World) (hc : ClAt w c vp vi vf vm) (hd : ClAt w d vp' vi' vf' vm') (rc : ClRoom c) (rd : ClRoom d) :
    Calls Tryz.prog 18 #[.agg (c.vals vp vi vf vm), .agg (d.vals vp' vi' vf' vm')] w fun e w' => e = .returned (.bool (decide (c = d))) ∧ Ext w w' := by
  have H4 := Lib.hid (fun W (e : Ext w W) => (refSame_anyP vp vp' c.pool d.pool W (rowC_of (hc.1.ext e) fun x h => (rc.pool x h).1) (rowC_of (hd.1.ext e) fun x h => (rd.pool x h).1)).mono (R' := fun e w' => e = .returned (.bool (decide (c.pool = d.pool))) ∧ Ext W w') (by
    rintro e w' ⟨rfl, m, rfl⟩
    refine ⟨?_, (Ext.refl W).drewN m⟩
    by_cases h : c.pool = d.pool
    · rw [eqL_yes h, decide_eq_true h]
    · rw [eqL_no h, decide_eq_false h]))
  have HS := Lib.hid hc.2.1
  have HS2 := Lib.hid hd.2.1
  have HF := Lib.hid hc.2.2.1
  have HF2 := Lib.hid hd.2.2.1
  have HM := Lib.hid hc.2.2.2
  have HM2 := Lib.hid hd.2.2.2
  have R1 := Lib.hid rc.mts
  have R2 := Lib.hid rd.mts
  obtain ⟨Ap, cp, rfl, -⟩ := hc.1.cut
  obtain ⟨Ai, ci, rfl, kc1, km1, -⟩ := hc.2.1.cut
  obtain ⟨Af, cf, rfl, kc2, km2, -⟩ := hc.2.2.1.cut
  obtain ⟨Am, cm, rfl, kc3, km3, -⟩ := hc.2.2.2.cut
  obtain ⟨Bp, dp, rfl, -⟩ := hd.1.cut
  obtain ⟨Bi, di, rfl, -⟩ := hd.2.1.cut
  obtain ⟨Bf, df, rfl, -⟩ := hd.2.2.1.cut
  obtain ⟨Bm, dm, rfl, -⟩ := hd.2.2.2.cut
  unfold maxLen at km1 km2 km3
  have X0 : Hid (∀ o p : Obj, Ext w ((w.alloc o).alloc p)) := Lib.hid (fun o p => ((Ext.refl w).alloc o).alloc p)
  have BX := Lib.hid (fun W (e : Ext ((w.alloc (.cells (c.vals (.slice Ap c.pool.length cp) (.slice Ai c.ifs.length ci) (.slice Af c.fds.length cf) (.slice Am c.mts.length cm)) 27)).alloc (.cells (d.vals (.slice Bp d.pool.length dp) (.slice Bi d.ifs.length di) (.slice Bf d.fds.length df) (.slice Bm d.mts.length dm)) 27)) W) => ((BK.new w (c.vals (.slice Ap c.pool.length cp) (.slice Ai c.ifs.length ci) (.slice Af c.fds.length cf) (.slice Am c.mts.length cm)) 27).ext ((Ext.refl _).alloc (.cells (d.vals (.slice Bp d.pool.length dp) (.slice Bi d.ifs.length di) (.slice Bf d.fds.length df) (.slice Bm d.mts.length dm)) 27))).ext e)
  have BY := Lib.hid (fun W (e : Ext ((w.alloc (.cells (c.vals (.slice Ap c.pool.length cp) (.slice Ai c.ifs.length ci) (.slice Af c.fds.length cf) (.slice Am c.mts.length cm)) 27)).alloc (.cells (d.vals (.slice Bp d.pool.length dp) (.slice Bi d.ifs.length di) (.slice Bf d.fds.length df) (.slice Bm d.mts.length dm)) 27)) W) => (show BK _ (w.heap.size + 1) (d.vals (.slice Bp d.pool.length dp) (.slice Bi d.ifs.length di) (.slice Bf d.fds.length df) (.slice Bm d.mts.length dm)) 27 from by have := BK.new (w.alloc (.cells (c.vals (.slice Ap c.pool.length cp) (.slice Ai c.ifs.length ci) (.slice Af c.fds.length cf) (.slice Am c.mts.length cm)) 27)) (d.vals (.slice Bp d.pool.length dp) (.slice Bi d.ifs.length di) (.slice Bf d.fds.length df) (.slice Bm d.mts.length dm)) 27; simpa [BK] using this).ext e)
  clear hc hd rc rd
  unfold Cl.vals at BX BY ⊢
  by_cases h1 : c.pool = d.pool
  · by_cases h2 : c.nm = d.nm
    · by_cases h3 : c.sup = d.sup
      · by_cases h4 : c.inf = d.inf
        · by_cases h5 : c.ifs.length = d.ifs.length
          · by_cases h6 : c.fds.length = d.fds.length
            · by_cases h7 : c.mts.length = d.mts.length
              · have HSM := Lib.hid (fun h5 h6 h7 => cl_same h2 h3 h4 h1 h5 h6 h7)
                have e2 : (c.nm.toList == d.nm.toList) = true := by rw [h2]; simp
                have f2 := bne_of e2
                have e3 : (c.sup.toList == d.sup.toList) = true := by rw [h3]; simp
                have f3 := bne_of e3
                have e4 : (c.inf == d.inf) = true := by rw [h4]; simp
                have f4 := bne_of e4
                simp only [decide_eq_true h1] at H4
                obtain ⟨ni, hni⟩ : ∃ n, c.ifs.length = n := ⟨_, rfl⟩
                have gni : d.ifs.length = ni := by rw [← h5, hni]
                rw [hni] at HS kc1 BX BY ⊢
                rw [gni] at HS2 BX BY ⊢
                have Hni := Lib.hid hni
                have Gni := Lib.hid gni
                clear hni gni
                obtain ⟨nf, hnf⟩ : ∃ n, c.fds.length = n := ⟨_, rfl⟩
                have gnf : d.fds.length = nf := by rw [← h6, hnf]
                rw [hnf] at HF kc2 BX BY ⊢
                rw [gnf] at HF2 BX BY ⊢
                have Hnf := Lib.hid hnf
                have Gnf := Lib.hid gnf
                clear hnf gnf
                obtain ⟨nm, hnm⟩ : ∃ n, c.mts.length = n := ⟨_, rfl⟩
                have gnm : d.mts.length = nm := by rw [← h7, hnm]
                rw [hnm] at HM kc3 BX BY ⊢
                rw [gnm] at HM2 BX BY ⊢
                have Hnm := Lib.hid hnm
                have Gnm := Lib.hid gnm
                clear hnm gnm
                clear h1 h2 h3 h4 h5 h6 h7
                go_enter Tryz.func18, Tryz.ntmps18
                go_wp2_with fail
                refine (H4.out _ (X0.out _ _)).mono ?_
                rintro e w1 ⟨rfl, x1⟩
                have E1 := Lib.hid x1
                have X1 := Lib.hid ((X0.out _ _).trans x1)
                have c1 := (BX.out w1 x1).cell 1
                have d1 := (BY.out w1 x1).cell 1
                have c2 := (BX.out w1 x1).cell 2
                have d2 := (BY.out w1 x1).cell 2
                have c3 := (BX.out w1 x1).cell 3
                have d3 := (BY.out w1 x1).cell 3
                have c4 := (BX.out w1 x1).cell 4
                have d4 := (BY.out w1 x1).cell 4
                have c5 := (BX.out w1 x1).cell 5
                have d5 := (BY.out w1 x1).cell 5
                have c6 := (BX.out w1 x1).cell 6
                have d6 := (BY.out w1 x1).cell 6
                simp at c1 c2 c3 c4 c5 c6 d1 d2 d3 d4 d5 d6
                clear x1
                go_wp2_with fail
                clear c1 c2 c3 c4 c5 c6 d1 d2 d3 d4 d5 d6
                go_loopw [5] (fun i wr => ∃ k : Nat, k ≤ ni ∧ i = .int .i64 k ∧ Hid (Ext w1 wr) ∧ Hid (c.ifs.take k = d.ifs.take k)) (fun i _ => ni - (intOf i).toNat)
                case atStart => exact ⟨0, by omega, rfl, Lib.hid (Ext.refl _), Lib.hid rfl⟩
                case round =>
                  obtain ⟨k, hk, rfl, HY, Ht⟩ := hrel
                  rename World => wr
                  have c4 := (BX.out wr (E1.out.trans HY.out)).cell 4
                  have d4 := (BY.out wr (E1.out.trans HY.out)).cell 4
                  simp at c4 d4
                  by_cases hlt : k < ni
                  · obtain ⟨b1, o1, rfl, hx1⟩ := rowS_at HS.out (by have := Hni.out; omega)
                    obtain ⟨b2, o2, rfl, hx2⟩ := rowS_at HS2.out (by have := Gni.out; omega)
                    have y0 := hx1 wr (X1.out.trans HY.out) k (by have := Hni.out; omega)
                    have u0 := hx2 wr (X1.out.trans HY.out) k (by have := Gni.out; omega)
                    have ht1 := Lib.hid (gs_take (l := c.ifs) (j := k) (by have := Hni.out; omega))
                    have ht2 := Lib.hid (gs_take (l := d.ifs) (j := k) (by have := Gni.out; omega))
                    clear hx1 hx2
                    obtain ⟨s, hs⟩ : ∃ s, gs c.ifs k = s := ⟨_, rfl⟩
                    obtain ⟨t, ht⟩ : ∃ s, gs d.ifs k = s := ⟨_, rfl⟩
                    rw [hs] at y0
                    rw [ht] at u0
                    by_cases he : s = t
                    · have HE := Lib.hid (show gs c.ifs k = gs d.ifs k by rw [hs, ht, he])
                      subst he
                      clear hs ht
                      go_wp2_with fail
                      go_quiet (fail)
                      go_wp2_with fail
                      go_roundw
                      case rel => exact ⟨k + 1, by omega, by go_num, Lib.hid (HY.out.drewN _), Lib.hid (by rw [ht1.out, ht2.out, Ht.out, HE.out])⟩
                      case measure => simp [intOf]; omega
                    · have HE := Lib.hid (show decide (c = d) = false from decide_eq_false fun e => he (by rw [← hs, ← ht, e]))
                      have en := str_ne he
                      have fn := bne_no en
                      clear he hs ht
                      go_wp2_with fail
                      go_quiet (fail)
                      go_wp2
                      go_ret
                      exact ⟨ret_dd HE.out.symm, (X1.out.trans HY.out).drewN _⟩
                  · obtain rfl : k = ni := by omega
                    have hI : c.ifs = d.ifs := by
                      have := Ht.out
                      have e1 := Hni.out
                      have e2 := Gni.out
                      rwa [List.take_of_length_le (by omega), List.take_of_length_le (by omega)] at this
                    have HI := Lib.hid hI
                    have E2 := Lib.hid (E1.out.trans HY.out)
                    have X2 := Lib.hid (X1.out.trans HY.out)
                    clear hI hlt
                    go_wp2_with fail
                    clear c4 d4
                    go_loopw [6] (fun i ws => ∃ k : Nat, k ≤ nf ∧ i = .int .i64 k ∧ Hid (Ext wr ws) ∧ Hid (c.fds.take k = d.fds.take k)) (fun i _ => nf - (intOf i).toNat)
                    case atStart => exact ⟨0, by omega, rfl, Lib.hid (Ext.refl _), Lib.hid rfl⟩
                    case round =>
                      obtain ⟨j, hj, rfl, HZ, Hu⟩ := hrel
                      rename World => ws
                      have c5 := (BX.out ws (E2.out.trans HZ.out)).cell 5
                      have d5 := (BY.out ws (E2.out.trans HZ.out)).cell 5
                      simp at c5 d5
                      by_cases hlt : j < nf
                      · obtain ⟨b1, o1, rfl, hx1⟩ := rowF_at HF.out (by have := Hnf.out; omega)
                        obtain ⟨b2, o2, rfl, hx2⟩ := rowF_at HF2.out (by have := Gnf.out; omega)
                        obtain ⟨y0, y1, y2, y3⟩ := hx1 ws (X2.out.trans HZ.out) j (by have := Hnf.out; omega)
                        obtain ⟨u0, u1, u2, u3⟩ := hx2 ws (X2.out.trans HZ.out) j (by have := Gnf.out; omega)
                        have hne := fun W => run_neqF (gf c.fds j) (gf d.fds j) W
                        unfold Fd.vals at hne
                        have ht1 := Lib.hid (gf_take (l := c.fds) (j := j) (by have := Hnf.out; omega))
                        have ht2 := Lib.hid (gf_take (l := d.fds) (j := j) (by have := Gnf.out; omega))
                        clear hx1 hx2
                        by_cases he : gf c.fds j = gf d.fds j
                        · rw [decide_eq_true he] at hne
                          have HE := Lib.hid he
                          clear he
                          go_wp2_with fail
                          go_quiet (fail)
                          go_wp2_with fail
                          go_roundw
                          case rel => exact ⟨j + 1, by omega, by go_num, Lib.hid (HZ.out.drewN _), Lib.hid (by rw [ht1.out, ht2.out, Hu.out, HE.out])⟩
                          case measure => simp [intOf]; omega
                        · rw [decide_eq_false he] at hne
                          have HE := Lib.hid (show decide (c = d) = false from decide_eq_false fun e => he (by rw [e]))
                          clear he
                          go_wp2_with fail
                          go_quiet (fail)
                          go_wp2
                          go_ret
                          exact ⟨ret_dd HE.out.symm, (X2.out.trans HZ.out).drewN _⟩
                      · obtain rfl : j = nf := by omega
                        have hF : c.fds = d.fds := by
                          have := Hu.out
                          have e1 := Hnf.out
                          have e2 := Gnf.out
                          rwa [List.take_of_length_le (by omega), List.take_of_length_le (by omega)] at this
                        have HFF := Lib.hid hF
                        have E3 := Lib.hid (E2.out.trans HZ.out)
                        have X3 := Lib.hid (X2.out.trans HZ.out)
                        clear hF hlt
                        go_wp2_with fail
                        clear c5 d5
                        go_loopw [7] (fun i wt => ∃ k : Nat, k ≤ nm ∧ i = .int .i64 k ∧ Hid (Ext ws wt) ∧ Hid (c.mts.take k = d.mts.take k)) (fun i _ => nm - (intOf i).toNat)
                        case atStart => exact ⟨0, by omega, rfl, Lib.hid (Ext.refl _), Lib.hid rfl⟩
                        case round =>
                          obtain ⟨q, hq, rfl, HQ, Hv⟩ := hrel
                          rename World => wt
                          have c6 := (BX.out wt (E3.out.trans HQ.out)).cell 6
                          have d6 := (BY.out wt (E3.out.trans HQ.out)).cell 6
                          simp at c6 d6
                          by_cases hlt : q < nm
                          · obtain ⟨b1, o1, rfl, hx1⟩ := HM.out.at (by have := Hnm.out; omega)
                            obtain ⟨b2, o2, rfl, hx2⟩ := HM2.out.at (by have := Gnm.out; omega)
                            have hk1 : q < c.mts.length := by have := Hnm.out; omega
                            have hk2 : q < d.mts.length := by have := Gnm.out; omega
                            obtain ⟨va, vc, vh, hx1⟩ := hx1 q hk1
                            obtain ⟨va', vc', vh', hx2⟩ := hx2 q hk2
                            have ht1 := gm_take hk1
                            have ht2 := gm_take hk2
                            have rx := R1.out _ (gm_mem hk1)
                            have ry := R2.out _ (gm_mem hk2)
                            have hne : ¬ gm c.mts q = gm d.mts q → decide (c = d) = false := fun he => decide_eq_false fun e => he (by rw [e])
                            obtain ⟨x, hx⟩ : ∃ x, gm c.mts q = x := ⟨_, rfl⟩
                            obtain ⟨y, hy⟩ : ∃ x, gm d.mts q = x := ⟨_, rfl⟩
                            rw [hx] at hx1 ht1 rx hne
                            rw [hy] at hx2 ht2 ry hne
                            have m1 := (hx1 _ (X3.out.trans HQ.out)).2
                            have m2 := (hx2 _ (X3.out.trans HQ.out)).2
                            obtain ⟨Va, ca, rfl, -⟩ := (show ShT.Row wt va x.args from m1.1).cut
                            obtain ⟨Vc, cc, rfl, -⟩ := id (show Row wt .u8 vc x.code from m1.2.1)
                            obtain ⟨Vh, ch, rfl, -⟩ := (show ShH.Row wt vh x.hs from m1.2.2).cut
                            obtain ⟨Va', ca', rfl, -⟩ := (show ShT.Row wt va' y.args from m2.1).cut
                            obtain ⟨Vc', cc', rfl, -⟩ := id (show Row wt .u8 vc' y.code from m2.2.1)
                            obtain ⟨Vh', ch', rfl, -⟩ := (show ShH.Row wt vh' y.hs from m2.2.2).cut
                            have hF : ∀ W, Ext wt W → W.cell? ⟨b1, o1 + q * 10, none⟩ = some (.bool x.st) ∧ W.cell? ⟨b1, o1 + q * 10 + 1, none⟩ = some (.bool x.ab) ∧ W.cell? ⟨b1, o1 + q * 10 + 2, none⟩ = some (.string x.nm) ∧ W.cell? ⟨b1, o1 + q * 10 + 3, none⟩ = some (.int .i64 x.ret.k) ∧ W.cell? ⟨b1, o1 + q * 10 + 4, none⟩ = some (.string x.ret.s) ∧ W.cell? ⟨b1, o1 + q * 10 + 5, none⟩ = some (.slice Va x.args.length ca) ∧ W.cell? ⟨b1, o1 + q * 10 + 6, none⟩ = some (.int .i64 x.sk) ∧ W.cell? ⟨b1, o1 + q * 10 + 7, none⟩ = some (.int .i64 x.lo) ∧ W.cell? ⟨b1, o1 + q * 10 + 8, none⟩ = some (.slice Vc x.code.length cc) ∧ W.cell? ⟨b1, o1 + q * 10 + 9, none⟩ = some (.slice Vh x.hs.length ch) ∧ W.cell? ⟨b2, o2 + q * 10, none⟩ = some (.bool y.st) ∧ W.cell? ⟨b2, o2 + q * 10 + 1, none⟩ = some (.bool y.ab) ∧ W.cell? ⟨b2, o2 + q * 10 + 2, none⟩ = some (.string y.nm) ∧ W.cell? ⟨b2, o2 + q * 10 + 3, none⟩ = some (.int .i64 y.ret.k) ∧ W.cell? ⟨b2, o2 + q * 10 + 4, none⟩ = some (.string y.ret.s) ∧ W.cell? ⟨b2, o2 + q * 10 + 5, none⟩ = some (.slice Va' y.args.length ca') ∧ W.cell? ⟨b2, o2 + q * 10 + 6, none⟩ = some (.int .i64 y.sk) ∧ W.cell? ⟨b2, o2 + q * 10 + 7, none⟩ = some (.int .i64 y.lo) ∧ W.cell? ⟨b2, o2 + q * 10 + 8, none⟩ = some (.slice Vc' y.code.length cc') ∧ W.cell? ⟨b2, o2 + q * 10 + 9, none⟩ = some (.slice Vh' y.hs.length ch') ∧ W.cell? ⟨w.heap.size, 6, none⟩ = some (.slice (some ⟨b1, o1, none⟩) nm cm) ∧ W.cell? ⟨w.heap.size + 1, 6, none⟩ = some (.slice (some ⟨b2, o2, none⟩) nm dm) := fun W e => by
                              obtain ⟨⟨y0, y1, y2, y3, y4, y5, y6, y7, y8, y9⟩, -⟩ := hx1 W ((X3.out.trans HQ.out).trans e)
                              obtain ⟨⟨u0, u1, u2, u3, u4, u5, u6, u7, u8, u9⟩, -⟩ := hx2 W ((X3.out.trans HQ.out).trans e)
                              have a6 := (BX.out _ ((E3.out.trans HQ.out).trans e)).cell 6
                              have b6 := (BY.out _ ((E3.out.trans HQ.out).trans e)).cell 6
                              simp at a6 b6
                              exact ⟨y0, y1, y2, y3, y4, y5, y6, y7, y8, y9, u0, u1, u2, u3, u4, u5, u6, u7, u8, u9, a6, b6⟩
                            have e1 := (Ext.refl wt).drew
                            have f0 := hF _ e1
                            have HFF := Lib.hid hF
                            have HSM1 := Lib.hid (fun W (e : Ext wt W) => refsameMethod_any x y _ _ _ _ _ _ W (m1.ext e) (m2.ext e) rx ry)
                            have HT1 := Lib.hid ht1
                            have HT2 := Lib.hid ht2
                            have HNE := Lib.hid hne
                            have HEQ := Lib.hid (fun h : decide (x = y) = true => of_decide_eq_true h)
                            have HNQ := Lib.hid (fun h : decide (x = y) = false => of_decide_eq_false h)
                            unfold Me.vals at HSM1
                            obtain ⟨r, hr⟩ : ∃ r, decide (x = y) = r := ⟨_, rfl⟩
                            rw [hr] at HSM1 HEQ HNQ
                            clear hx1 hx2 hx hy ht1 ht2 rx ry m1 m2 hk1 hk2 hne hF hr
                            go_wp2_with fail
                            go_region_held3 (fun w' => w'.cell? ⟨b1, o1 + q * 10, none⟩ = some (.bool x.st) ∧ w'.cell? ⟨b1, o1 + q * 10 + 1, none⟩ = some (.bool x.ab) ∧ w'.cell? ⟨b1, o1 + q * 10 + 2, none⟩ = some (.string x.nm) ∧ w'.cell? ⟨b1, o1 + q * 10 + 3, none⟩ = some (.int .i64 x.ret.k) ∧ w'.cell? ⟨b1, o1 + q * 10 + 4, none⟩ = some (.string x.ret.s) ∧ w'.cell? ⟨b1, o1 + q * 10 + 5, none⟩ = some (.slice Va x.args.length ca) ∧ w'.cell? ⟨b1, o1 + q * 10 + 6, none⟩ = some (.int .i64 x.sk) ∧ w'.cell? ⟨b1, o1 + q * 10 + 7, none⟩ = some (.int .i64 x.lo) ∧ w'.cell? ⟨b1, o1 + q * 10 + 8, none⟩ = some (.slice Vc x.code.length cc) ∧ w'.cell? ⟨b1, o1 + q * 10 + 9, none⟩ = some (.slice Vh x.hs.length ch) ∧ w'.cell? ⟨b2, o2 + q * 10, none⟩ = some (.bool y.st) ∧ w'.cell? ⟨b2, o2 + q * 10 + 1, none⟩ = some (.bool y.ab) ∧ w'.cell? ⟨b2, o2 + q * 10 + 2, none⟩ = some (.string y.nm) ∧ w'.cell? ⟨b2, o2 + q * 10 + 3, none⟩ = some (.int .i64 y.ret.k) ∧ w'.cell? ⟨b2, o2 + q * 10 + 4, none⟩ = some (.string y.ret.s) ∧ w'.cell? ⟨b2, o2 + q * 10 + 5, none⟩ = some (.slice Va' y.args.length ca') ∧ w'.cell? ⟨b2, o2 + q * 10 + 6, none⟩ = some (.int .i64 y.sk) ∧ w'.cell? ⟨b2, o2 + q * 10 + 7, none⟩ = some (.int .i64 y.lo) ∧ w'.cell? ⟨b2, o2 + q * 10 + 8, none⟩ = some (.slice Vc' y.code.length cc') ∧ w'.cell? ⟨b2, o2 + q * 10 + 9, none⟩ = some (.slice Vh' y.hs.length ch') ∧ w'.cell? ⟨w.heap.size, 6, none⟩ = some (.slice (some ⟨b1, o1, none⟩) nm cm) ∧ w'.cell? ⟨w.heap.size + 1, 6, none⟩ = some (.slice (some ⟨b2, o2, none⟩) nm dm)) (first | with_reducible assumption) (first
                              | (go_at_call 43; (with_reducible refine (HSM1.out _ e1).mono ?_); rintro e w3 ⟨rfl, x3⟩; have f1 := HFF.out w3 (e1.trans x3)))
                            have X4 := Lib.hid ((X3.out.trans HQ.out).trans (e1.trans x3))
                            have HQ2 := Lib.hid (HQ.out.trans (e1.trans x3))
                            clear x3 e1 f0 f1 c6 d6
                            cases r
                            · have HE := Lib.hid (HNE.out (HNQ.out rfl))
                              go_wp2
                              go_ret
                              exact ⟨ret_dd HE.out.symm, X4.out⟩
                            · have HE := Lib.hid (HEQ.out rfl)
                              go_wp2_with fail
                              go_roundw
                              case rel => exact ⟨q + 1, by omega, by go_num, HQ2, Lib.hid (by rw [HT1.out, HT2.out, Hv.out, HE.out])⟩
                              case measure => simp [intOf]; omega
                          · obtain rfl : q = nm := by omega
                            go_wp2
                            go_ret
                            refine ⟨ret_dd ?_, X3.out.trans HQ.out⟩
                            have := Hv.out
                            have e1 := Hnm.out
                            have e2 := Gnm.out
                            rw [List.take_of_length_le (by omega), List.take_of_length_le (by omega)] at this
                            exact (decide_eq_true (HSM.out HI.out HFF.out this)).symm
              · have HE := Lib.hid (show decide (c = d) = false from decide_eq_false fun e => h7 (by rw [e]))
                have e2 : (c.nm.toList == d.nm.toList) = true := by rw [h2]; simp
                have f2 := bne_of e2
                have e3 : (c.sup.toList == d.sup.toList) = true := by rw [h3]; simp
                have f3 := bne_of e3
                have e4 : (c.inf == d.inf) = true := by rw [h4]; simp
                have f4 := bne_of e4
                have f5 : ((c.ifs.length : Int) != (d.ifs.length : Int)) = false := by simp [h5]
                have f6 : ((c.fds.length : Int) != (d.fds.length : Int)) = false := by simp [h6]
                have f7 : ((c.mts.length : Int) != (d.mts.length : Int)) = true := by simp; omega
                simp only [decide_eq_true h1] at H4
                clear h1 h2 h3 h4 h5 h6 h7 HS HS2 HF HF2 HM HM2 R1 R2
                go_enter Tryz.func18, Tryz.ntmps18
                go_wp2_with fail
                refine (H4.out _ (X0.out _ _)).mono ?_
                rintro e w1 ⟨rfl, x1⟩
                have E1 := Lib.hid x1
                have X1 := Lib.hid ((X0.out _ _).trans x1)
                have c1 := (BX.out w1 x1).cell 1
                have d1 := (BY.out w1 x1).cell 1
                have c2 := (BX.out w1 x1).cell 2
                have d2 := (BY.out w1 x1).cell 2
                have c3 := (BX.out w1 x1).cell 3
                have d3 := (BY.out w1 x1).cell 3
                have c4 := (BX.out w1 x1).cell 4
                have d4 := (BY.out w1 x1).cell 4
                have c5 := (BX.out w1 x1).cell 5
                have d5 := (BY.out w1 x1).cell 5
                have c6 := (BX.out w1 x1).cell 6
                have d6 := (BY.out w1 x1).cell 6
                simp at c1 c2 c3 c4 c5 c6 d1 d2 d3 d4 d5 d6
                clear x1
                go_wp2
                go_ret
                exact ⟨by rw [HE.out]; rfl, X1.out⟩
            · have HE := Lib.hid (show decide (c = d) = false from decide_eq_false fun e => h6 (by rw [e]))
              have e2 : (c.nm.toList == d.nm.toList) = true := by rw [h2]; simp
              have f2 := bne_of e2
              have e3 : (c.sup.toList == d.sup.toList) = true := by rw [h3]; simp
              have f3 := bne_of e3
              have e4 : (c.inf == d.inf) = true := by rw [h4]; simp
              have f4 := bne_of e4
              have f5 : ((c.ifs.length : Int) != (d.ifs.length : Int)) = false := by simp [h5]
              have f6 : ((c.fds.length : Int) != (d.fds.length : Int)) = true := by simp; omega
              simp only [decide_eq_true h1] at H4
              clear h1 h2 h3 h4 h5 h6 HS HS2 HF HF2 HM HM2 R1 R2
              go_enter Tryz.func18, Tryz.ntmps18
              go_wp2_with fail
              refine (H4.out _ (X0.out _ _)).mono ?_
              rintro e w1 ⟨rfl, x1⟩
              have E1 := Lib.hid x1
              have X1 := Lib.hid ((X0.out _ _).trans x1)
              have c1 := (BX.out w1 x1).cell 1
              have d1 := (BY.out w1 x1).cell 1
              have c2 := (BX.out w1 x1).cell 2
              have d2 := (BY.out w1 x1).cell 2
              have c3 := (BX.out w1 x1).cell 3
              have d3 := (BY.out w1 x1).cell 3
              have c4 := (BX.out w1 x1).cell 4
              have d4 := (BY.out w1 x1).cell 4
              have c5 := (BX.out w1 x1).cell 5
              have d5 := (BY.out w1 x1).cell 5
              have c6 := (BX.out w1 x1).cell 6
              have d6 := (BY.out w1 x1).cell 6
              simp at c1 c2 c3 c4 c5 c6 d1 d2 d3 d4 d5 d6
              clear x1
              go_wp2
              go_ret
              exact ⟨by rw [HE.out]; rfl, X1.out⟩
          · have HE := Lib.hid (show decide (c = d) = false from decide_eq_false fun e => h5 (by rw [e]))
            have e2 : (c.nm.toList == d.nm.toList) = true := by rw [h2]; simp
            have f2 := bne_of e2
            have e3 : (c.sup.toList == d.sup.toList) = true := by rw [h3]; simp
            have f3 := bne_of e3
            have e4 : (c.inf == d.inf) = true := by rw [h4]; simp
            have f4 := bne_of e4
            have f5 : ((c.ifs.length : Int) != (d.ifs.length : Int)) = true := by simp; omega
            simp only [decide_eq_true h1] at H4
            clear h1 h2 h3 h4 h5 HS HS2 HF HF2 HM HM2 R1 R2
            go_enter Tryz.func18, Tryz.ntmps18
            go_wp2_with fail
            refine (H4.out _ (X0.out _ _)).mono ?_
            rintro e w1 ⟨rfl, x1⟩
            have E1 := Lib.hid x1
            have X1 := Lib.hid ((X0.out _ _).trans x1)
            have c1 := (BX.out w1 x1).cell 1
            have d1 := (BY.out w1 x1).cell 1
            have c2 := (BX.out w1 x1).cell 2
            have d2 := (BY.out w1 x1).cell 2
            have c3 := (BX.out w1 x1).cell 3
            have d3 := (BY.out w1 x1).cell 3
            have c4 := (BX.out w1 x1).cell 4
            have d4 := (BY.out w1 x1).cell 4
            have c5 := (BX.out w1 x1).cell 5
            have d5 := (BY.out w1 x1).cell 5
            have c6 := (BX.out w1 x1).cell 6
            have d6 := (BY.out w1 x1).cell 6
            simp at c1 c2 c3 c4 c5 c6 d1 d2 d3 d4 d5 d6
            clear x1
            go_wp2
            go_ret
            exact ⟨by rw [HE.out]; rfl, X1.out⟩
        · have HE := Lib.hid (show decide (c = d) = false from decide_eq_false fun e => h4 (by rw [e]))
          have e4 := bool_ne h4
          have f4 := bne_no e4
          have e2 : (c.nm.toList == d.nm.toList) = true := by rw [h2]; simp
          have f2 := bne_of e2
          have e3 : (c.sup.toList == d.sup.toList) = true := by rw [h3]; simp
          have f3 := bne_of e3
          simp only [decide_eq_true h1] at H4
          clear h1 h2 h3 h4 HS HS2 HF HF2 HM HM2 R1 R2
          go_enter Tryz.func18, Tryz.ntmps18
          go_wp2_with fail
          refine (H4.out _ (X0.out _ _)).mono ?_
          rintro e w1 ⟨rfl, x1⟩
          have E1 := Lib.hid x1
          have X1 := Lib.hid ((X0.out _ _).trans x1)
          have c1 := (BX.out w1 x1).cell 1
          have d1 := (BY.out w1 x1).cell 1
          have c2 := (BX.out w1 x1).cell 2
          have d2 := (BY.out w1 x1).cell 2
          have c3 := (BX.out w1 x1).cell 3
          have d3 := (BY.out w1 x1).cell 3
          have c4 := (BX.out w1 x1).cell 4
          have d4 := (BY.out w1 x1).cell 4
          have c5 := (BX.out w1 x1).cell 5
          have d5 := (BY.out w1 x1).cell 5
          have c6 := (BX.out w1 x1).cell 6
          have d6 := (BY.out w1 x1).cell 6
          simp at c1 c2 c3 c4 c5 c6 d1 d2 d3 d4 d5 d6
          clear x1
          go_wp2
          go_ret
          exact ⟨by rw [HE.out]; rfl, X1.out⟩
      · have HE := Lib.hid (show decide (c = d) = false from decide_eq_false fun e => h3 (by rw [e]))
        have e3 := str_ne h3
        have f3 := bne_no e3
        have e2 : (c.nm.toList == d.nm.toList) = true := by rw [h2]; simp
        have f2 := bne_of e2
        simp only [decide_eq_true h1] at H4
        clear h1 h2 h3 HS HS2 HF HF2 HM HM2 R1 R2
        go_enter Tryz.func18, Tryz.ntmps18
        go_wp2_with fail
        refine (H4.out _ (X0.out _ _)).mono ?_
        rintro e w1 ⟨rfl, x1⟩
        have E1 := Lib.hid x1
        have X1 := Lib.hid ((X0.out _ _).trans x1)
        have c1 := (BX.out w1 x1).cell 1
        have d1 := (BY.out w1 x1).cell 1
        have c2 := (BX.out w1 x1).cell 2
        have d2 := (BY.out w1 x1).cell 2
        have c3 := (BX.out w1 x1).cell 3
        have d3 := (BY.out w1 x1).cell 3
        have c4 := (BX.out w1 x1).cell 4
        have d4 := (BY.out w1 x1).cell 4
        have c5 := (BX.out w1 x1).cell 5
        have d5 := (BY.out w1 x1).cell 5
        have c6 := (BX.out w1 x1).cell 6
        have d6 := (BY.out w1 x1).cell 6
        simp at c1 c2 c3 c4 c5 c6 d1 d2 d3 d4 d5 d6
        clear x1
        go_wp2
        go_ret
        exact ⟨by rw [HE.out]; rfl, X1.out⟩
    · have HE := Lib.hid (show decide (c = d) = false from decide_eq_false fun e => h2 (by rw [e]))
      have e2 := str_ne h2
      have f2 := bne_no e2
      simp only [decide_eq_true h1] at H4
      clear h1 h2 HS HS2 HF HF2 HM HM2 R1 R2
      go_enter Tryz.func18, Tryz.ntmps18
      go_wp2_with fail
      refine (H4.out _ (X0.out _ _)).mono ?_
      rintro e w1 ⟨rfl, x1⟩
      have E1 := Lib.hid x1
      have X1 := Lib.hid ((X0.out _ _).trans x1)
      have c1 := (BX.out w1 x1).cell 1
      have d1 := (BY.out w1 x1).cell 1
      have c2 := (BX.out w1 x1).cell 2
      have d2 := (BY.out w1 x1).cell 2
      have c3 := (BX.out w1 x1).cell 3
      have d3 := (BY.out w1 x1).cell 3
      have c4 := (BX.out w1 x1).cell 4
      have d4 := (BY.out w1 x1).cell 4
      have c5 := (BX.out w1 x1).cell 5
      have d5 := (BY.out w1 x1).cell 5
      have c6 := (BX.out w1 x1).cell 6
      have d6 := (BY.out w1 x1).cell 6
      simp at c1 c2 c3 c4 c5 c6 d1 d2 d3 d4 d5 d6
      clear x1
      go_wp2
      go_ret
      exact ⟨by rw [HE.out]; rfl, X1.out⟩
  · have HE := Lib.hid (show decide (c = d) = false from decide_eq_false fun e => h1 (by rw [e]))
    simp only [decide_eq_false h1] at H4
    clear h1 HS HS2 HF HF2 HM HM2 R1 R2
    go_enter Tryz.func18, Tryz.ntmps18
    go_wp2_with fail
    refine (H4.out _ (X0.out _ _)).mono ?_
    rintro e w1 ⟨rfl, x1⟩
    have E1 := Lib.hid x1
    have X1 := Lib.hid ((X0.out _ _).trans x1)
    clear x1
    go_wp2
    go_ret
    exact ⟨by rw [HE.out]; rfl, X1.out⟩
end Go.Proofs.YtokmeomjdpfknaaGreatDoor
