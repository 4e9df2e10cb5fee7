/- ClassLess, walked. (gen_clless.py) -/
import Derived.Test.YtokmeomjdpfknaaGreatDoorZbQClCut
import Derived.Test.YtokmeomjdpfknaaGreatDoorZbQCLBackW
import Derived.Test.YtokmeomjdpfknaaGreatDoorZbC
import Derived.StillTailTactics
namespace Go.Proofs.YtokmeomjdpfknaaGreatDoor
open Go.RowKit
set_option linter.unusedVariables false

theorem cells3 {w : World} {g : Nat} {v0 v1 v2 : Value} {T : TypeId} (h : BK w g #[v0, v1, v2] T) : w.cell? ⟨g, 0, none⟩ = some v0 ∧ w.cell? ⟨g, 1, none⟩ = some v1 ∧ w.cell? ⟨g, 2, none⟩ = some v2 := ⟨h.cell 0, h.cell 1, h.cell 2⟩
theorem cutAt_map {α β : Type} (f : α → β) (l : List α) (i : Nat) : (cutAt l i).map f = cutAt (l.map f) i := by
  unfold cutAt
  rw [List.map_append, List.map_take, List.map_drop]
theorem NestMO.setC {B g : Nat} {W : World} {x : MeV} {cs : Array Value} (h : NestMO B W x) (hk : BK W g cs 27) (j : Nat) (u : Value) : NestMO B (W.setCell ⟨g, j, none⟩ u) x :=
  ⟨h.1.setT hk (by decide) j u (fun _ h => h), h.2.1.setT hk (by decide) j u, h.2.2.setT hk (by decide) j u (fun _ h => h)⟩
theorem own_of {α : Type} {S : Shp α} {B : Nat} {w : World} {A : Option Addr} {n c : Nat} {l : List α} (h : S.Own B w (.slice A n c) l) (hl : 0 < l.length) : ∃ g, A = some ⟨g, 0, none⟩ ∧ B ≤ g ∧ g < w.heap.size := by
  rcases h.1.2 with ⟨e, e2⟩ | ⟨g, cap, cur, e, hB, hg, _⟩
  · omega
  · injection e with e1
    exact ⟨g, e1, hB, lt_of_get hg⟩
theorem not_inf {b : Bool} (h : b = !b) : False := by cases b <;> cases h
theorem less_parts {c : Cl} {I : List ByteArray} {F : List Fd} {E : List MeV} {W : World} {vp vi vf vm : Value} (hp : ShC.Row W vp c.pool) (hi : ShS.Row W vi I) (hf : ShF.Row W vf F) (hm : ShM.Row W vm E)
    (ho : okCl c = true) (hr : ClRoom c) (hz : (bytesZ c.pool).length ≤ 50000000) (h1 : Few I c.ifs) (h2 : Few F c.fds) (h3 : Few (E.map (·.1)) c.mts) :
    ClAt W ⟨c.pool, !c.inf, c.nm, c.sup, I, F, E.map (·.1)⟩ vp vi vf vm ∧ okCl ⟨c.pool, !c.inf, c.nm, c.sup, I, F, E.map (·.1)⟩ = true ∧ ClRoom ⟨c.pool, !c.inf, c.nm, c.sup, I, F, E.map (·.1)⟩ ∧ decide (c = ⟨c.pool, !c.inf, c.nm, c.sup, I, F, E.map (·.1)⟩) = false ∧ (bytesZ (⟨c.pool, !c.inf, c.nm, c.sup, I, F, E.map (·.1)⟩ : Cl).pool).length ≤ 50000000 :=
  ⟨⟨hp, hi, hf, E, rfl, hm⟩, okCl_few ho rfl rfl rfl h1 h2 h3, room_few hr rfl rfl rfl h1 h2 h3, decide_eq_false (fun e => not_inf (congrArg Cl.inf e)), hz⟩
set_option maxRecDepth 100000 in
set_option maxHeartbeats 16000000 in
theorem classLess_any (w : World) (hT : Tabs w) (hM : Most w) (c : Cl) (vp vi vf vm : Value) (h : ClAt w c vp vi vf vm) (hr : ClRoom c) (hs : ClSize c) (hp : (bytesZ c.pool).length ≤ 50000000) (a b g3 : Int) (ha : -9223372036854775808 ≤ a ∧ a ≤ 9223372036854775807) (hb : -9223372036854775808 ≤ b ∧ b ≤ 9223372036854775807) (hg3 : -9223372036854775808 ≤ g3 ∧ g3 ≤ 9223372036854775807) :
    Calls Tryz.prog 9 #[.agg (c.vals vp vi vf vm), .agg #[.int .i64 a, .int .i64 b, .int .i64 g3]] w fun e w' => e = .returned (.bool true) ∧ Ext w w' := by
  have HW := Lib.hid (fun W (e : Ext w W) => worksCl_any W (hT.ext e) (hM.ext e))
  have hC := fun W (e : Ext w W) => classCheck_any c vp vi vf vm W (h.ext e) hr (hT.ext e) (hM.ext e)
  have HT := Lib.hid hT
  have HM := Lib.hid hM
  obtain ⟨Ap, Akp, rfl, -⟩ := h.1.cut
  obtain ⟨Ai, Aki, rfl, -⟩ := h.2.1.cut
  obtain ⟨Af, Akf, rfl, -⟩ := h.2.2.1.cut
  obtain ⟨Am, Akm, rfl, -⟩ := h.2.2.2.cut
  have X0 := Lib.hid (((Ext.refl w).alloc (.cells #[.slice Ap c.pool.length Akp, .string c.nm, .string c.sup, .bool c.inf, .slice Ai c.ifs.length Aki, .slice Af c.fds.length Akf, .slice Am c.mts.length Akm] 27)).alloc (.cells #[.int .i64 a, .int .i64 b, .int .i64 g3] 54))
  have BX := Lib.hid (fun W (e : Ext ((w.alloc (.cells #[.slice Ap c.pool.length Akp, .string c.nm, .string c.sup, .bool c.inf, .slice Ai c.ifs.length Aki, .slice Af c.fds.length Akf, .slice Am c.mts.length Akm] 27)).alloc (.cells #[.int .i64 a, .int .i64 b, .int .i64 g3] 54)) W) => ((BK.new w #[.slice Ap c.pool.length Akp, .string c.nm, .string c.sup, .bool c.inf, .slice Ai c.ifs.length Aki, .slice Af c.fds.length Akf, .slice Am c.mts.length Akm] 27).ext ((Ext.refl _).alloc (.cells #[.int .i64 a, .int .i64 b, .int .i64 g3] 54))).ext e)
  have BW := Lib.hid (fun W (e : Ext ((w.alloc (.cells #[.slice Ap c.pool.length Akp, .string c.nm, .string c.sup, .bool c.inf, .slice Ai c.ifs.length Aki, .slice Af c.fds.length Akf, .slice Am c.mts.length Akm] 27)).alloc (.cells #[.int .i64 a, .int .i64 b, .int .i64 g3] 54)) W) => (show BK _ (w.heap.size + 1) #[.int .i64 a, .int .i64 b, .int .i64 g3] 54 from by have := BK.new (w.alloc (.cells #[.slice Ap c.pool.length Akp, .string c.nm, .string c.sup, .bool c.inf, .slice Ai c.ifs.length Aki, .slice Af c.fds.length Akf, .slice Am c.mts.length Akm] 27)) #[.int .i64 a, .int .i64 b, .int .i64 g3] 54; simpa [BK] using this).ext e)
  by_cases ho : okCl c = true
  case neg =>
    simp only [chkK_no ho] at hC
    have HC := Lib.hid hC
    clear hC h hr hs hp ho hT hM
    unfold Cl.vals at HC ⊢
    go_enter Tryz.func9, Tryz.ntmps9
    go_wp2_with fail
    refine (HW.out _ X0.out).mono ?_
    rintro e w1 ⟨rfl, x1⟩
    have X1 := Lib.hid (X0.out.trans x1)
    obtain ⟨q0, q1, q2, q3, q4, q5, q6⟩ := cells7 (BX.out w1 x1)
    clear x1
    go_wp2_with fail
    refine (HC.out _ X1.out).mono ?_
    rintro e w2 ⟨rfl, x2⟩
    clear q0 q1 q2 q3 q4 q5 q6
    go_wp2
    go_ret
    exact ⟨rfl, X1.out.trans x2⟩
  simp only [chkK_ok ho] at hC
  have HC := Lib.hid hC
  have HY := Lib.hid (fun W (e : Ext w W) => refCopyCl_any c _ _ _ _ W (h.ext e) hs)
  have HAT := Lib.hid h
  have HR := Lib.hid hr
  have HOK := Lib.hid ho
  have hs1 := hs.fds
  have hs2 := hs.mts
  have hs3 := hs.ifs
  have HPZ := Lib.hid hp
  clear hC h hr hp ho hT hM hs
  unfold Cl.vals at HC HY ⊢
  go_enter Tryz.func9, Tryz.ntmps9
  go_wp2_with fail
  refine (HW.out _ X0.out).mono ?_
  rintro e w1 ⟨rfl, x1⟩
  have E1 := Lib.hid x1
  have X1 := Lib.hid (X0.out.trans x1)
  obtain ⟨q0, q1, q2, q3, q4, q5, q6⟩ := cells7 (BX.out w1 x1)
  clear x1
  go_wp2_with fail
  refine (HC.out _ X1.out).mono ?_
  rintro e w2 ⟨rfl, x2⟩
  have E2 := Lib.hid (E1.out.trans x2)
  have X2 := Lib.hid (X1.out.trans x2)
  clear q0 q1 q2 q3 q4 q5 q6
  obtain ⟨q0, q1, q2, q3, q4, q5, q6⟩ := cells7 (BX.out w2 E2.out)
  clear x2
  go_wp2_with fail
  refine (HY.out _ X2.out).mono ?_
  rintro e w3 ⟨vp', vi', vf', vm', rfl, ho3, x3⟩
  clear q0 q1 q2 q3 q4 q5 q6
  have X3 := Lib.hid (X2.out.trans x3)
  have E3 := Lib.hid (E2.out.trans x3)
  have hle : w.heap.size + 2 ≤ w2.heap.size := by have := E2.out.size; simp at this; omega
  have hle3 := x3.size
  obtain ⟨Dp, Dkp, rfl, -⟩ := ho3.at.1.cut
  obtain ⟨Di, Dki, rfl, -⟩ := ho3.at.2.1.cut
  obtain ⟨Df, Dkf, rfl, -⟩ := ho3.at.2.2.1.cut
  obtain ⟨Dm, Dkm, rfl, -⟩ := ho3.at.2.2.2.cut
  have OC := Lib.hid ho3.1
  have OS := Lib.hid ho3.2.1
  have OF := Lib.hid ho3.2.2.1
  obtain ⟨es, hes, hE⟩ := ho3.2.2.2
  have HES := Lib.hid hes
  have hel : es.length = c.mts.length := by rw [← hes, List.length_map]
  rw [← hel] at hE
  have OM := Lib.hid hE
  rw [← hel]
  have gd0 := BK.new w3 #[.slice Dp c.pool.length Dkp, .string c.nm, .string c.sup, .bool c.inf, .slice Di c.ifs.length Dki, .slice Df c.fds.length Dkf, .slice Dm es.length Dkm] 27
  have Y3 := Lib.hid ((Ext.refl w3).alloc (.cells #[.slice Dp c.pool.length Dkp, .string c.nm, .string c.sup, .bool c.inf, .slice Di c.ifs.length Dki, .slice Df c.fds.length Dkf, .slice Dm es.length Dkm] 27))
  have HEL := Lib.hid hel
  rw [← hel] at hs2
  clear x3 ho3 hes hE hel
  obtain ⟨WL, hWL⟩ : ∃ W, w3.alloc (.cells #[.slice Dp c.pool.length Dkp, .string c.nm, .string c.sup, .bool c.inf, .slice Di c.ifs.length Dki, .slice Df c.fds.length Dkf, .slice Dm es.length Dkm] 27) = W := ⟨_, rfl⟩
  have OCL := Lib.hid (OC.out.ext Y3.out)
  have OFL := Lib.hid (OF.out.ext Y3.out)
  have OML := Lib.hid (OM.out.ext Y3.out)
  have OSL := Lib.hid (OS.out.ext Y3.out)
  have KD := Lib.hid gd0
  have EW := Lib.hid (E3.out.trans Y3.out)
  have XW := Lib.hid (X3.out.trans Y3.out)
  have HWL := Lib.hid hWL
  rw [hWL] at OCL OFL OML OSL KD EW XW
  clear gd0 hWL
  obtain ⟨d0, d1, d2, d3, d4, d5, d6⟩ := cells7 KD.out
  have df := KD.out.free
  obtain ⟨wh0, wh1, wh2⟩ := cells3 (BW.out _ EW.out)
  rw [← HWL.out] at d0 d1 d2 d3 d4 d5 d6 df wh0 wh1 wh2
  by_cases hpF : 0 < c.fds.length
  · have hqF : (0 : Int) < (c.fds.length : Int) := by omega
    obtain ⟨gF, hAF, hBF, hltF⟩ := own_of OF.out hpF
    have hgdF : ¬ gF = w3.heap.size := by omega
    subst hAF
    obtain ⟨kF, hkF, hknF⟩ := bring_nat a hpF
    have HKF := Lib.hid hkF
    have OCP := Lib.hid (OCL.out.ext (Ext.refl _).drew)
    have OFP := Lib.hid (OFL.out.ext (Ext.refl _).drew)
    have OMP := Lib.hid (OML.out.ext (Ext.refl _).drew)
    have OSP := Lib.hid (OSL.out.ext (Ext.refl _).drew)
    have KDP := Lib.hid (KD.out.ext (Ext.refl _).drew)
    have EWP := Lib.hid EW.out.drew
    have X3P := Lib.hid XW.out.drew
    obtain ⟨vF, sAF, sBF, hrowF⟩ := cut_opsF OFP.out kF hknF
    have HROWF := Lib.hid hrowF
    have HFSTF := Lib.hid (OFP.out.firsts kF (by omega))
    have hlenF : (c.fds.take kF).length = kF := by rw [List.length_take]; omega
    have hdrF : (c.fds.drop (kF + 1)).length = c.fds.length - (kF + 1) := List.length_drop
    have hszF : w3.heap.size < WL.drew.heap.size := KDP.out.lt
    clear hkF hrowF
    go_wp2_with fail
    refine (bring_any a c.fds.length _ (by omega) (by omega) (by omega) (by omega)).mono ?_
    rw [HKF.out]
    rintro e _ ⟨rfl, rfl⟩
    go_wp2_with fail
    rw [HWL.out]
    have wrF : IntKind.i64.wrap ((kF : Int) + 1) = (kF : Int) + 1 := by rw [IntKind.wrap_i64]; omega
    obtain ⟨VF, hVF⟩ : ∃ V : Value, ((.slice (some ⟨gF, 0, none⟩) c.fds.length Dkf) : Value) = V := ⟨_, rfl⟩
    rw [hVF] at sAF sBF
    have HVF := Lib.hid hVF
    have f0 : WL.cell? ⟨w3.heap.size, 5, none⟩ = some VF := by rw [← hVF]; exact KDP.out.cell 5
    clear hVF d0 d1 d2 d3 d4 d5 d6 df wh0 wh1 wh2
    go_still_tail 9, (by kernel_rfl)
    change wpList _ _ _ _ _ WL.drew
    go_loud (refine Shp.wpList_app ShF _ rfl _ _ w2.heap.size 24 _ 48 rfl Tryz.underlying24 infoKF rfl (by omega) (.slice (some ⟨gF, 0, none⟩) kF Dkf) (c.fds.take kF) rfl HFSTF.out vF (c.fds.drop (kF + 1)) rfl HROWF.out (fun e he => OFP.out.2 e (List.mem_of_mem_drop he)) (by rw [hlenF, hdrF]; omega) (by omega) ?_)
    intro uF wF oF grF _
    have oF' : ShF.Own w2.heap.size wF uF (cutAt c.fds kF) := oF
    obtain ⟨NF, cF, rfl, -⟩ := oF'.slice
    have KEF := Lib.hid (KDP.out.keptO grF (fun e => by injection e with e; exact hgdF e))
    have f1 : wF.cell? ⟨w3.heap.size, 5, none⟩ = some VF := HVF.out ▸ KEF.out.cell 5
    have f2 := KEF.out.free
    have hlowF := HFSTF.out.low
    have OCL := Lib.hid (OCP.out.kept grF (OCP.out.apart HFSTF.out (by decide)) (fun _ _ h => h))
    have OFL := Lib.hid oF'
    have OML := Lib.hid (OMP.out.kept grF (OMP.out.apart HFSTF.out (by decide)) (fun e _ h => NestMO.kept h grF fun g e => by obtain ⟨c', z', e'⟩ := HFSTF.out.typed g e; exact ⟨c', _, z', e', by decide, by decide, by decide⟩))
    have OSL := Lib.hid (OSP.out.kept grF (OSP.out.apart HFSTF.out (by decide)) (fun _ _ h => h))
    have KD := KEF
    have EW := Lib.hid (EWP.out.grown grF (fun g e => by have := hlowF g e; simp; omega))
    have XW := Lib.hid (X3P.out.grown grF (fun g e => by have := hlowF g e; omega))
    clear f0 f1 f2 wrF KEF sAF sBF oF oF' hlowF hlenF hdrF hszF OCP OFP OMP OSP KDP EWP X3P grF
    obtain ⟨WL, hWL⟩ : ∃ W, wF = W := ⟨_, rfl⟩
    rw [hWL] at OCL OFL OML OSL KD EW XW ⊢
    clear hWL
    obtain ⟨d0, d1, d2, d3, d4, d5, d6⟩ := cells7 KD.out
    have df := KD.out.free
    obtain ⟨wh0, wh1, wh2⟩ := cells3 (BW.out _ EW.out)
    by_cases hpM : 0 < es.length
    · have hqM : (0 : Int) < (es.length : Int) := by omega
      obtain ⟨gM, hAM, hBM, hltM⟩ := own_of OM.out hpM
      have hgdM : ¬ gM = w3.heap.size := by omega
      subst hAM
      obtain ⟨kM, hkM, hknM⟩ := bring_nat b hpM
      have HKM := Lib.hid hkM
      have OCP := Lib.hid ((OCL.out.setT KD.out (by decide) 5 (.slice NF (cutAt c.fds kF).length cF) (fun _ h => h)).ext (Ext.refl _).drew)
      have OFP := Lib.hid ((OFL.out.setT KD.out (by decide) 5 (.slice NF (cutAt c.fds kF).length cF) (fun _ h => h)).ext (Ext.refl _).drew)
      have OSP := Lib.hid ((OSL.out.setT KD.out (by decide) 5 (.slice NF (cutAt c.fds kF).length cF) (fun _ h => h)).ext (Ext.refl _).drew)
      have OMP := Lib.hid ((OML.out.setT KD.out (by decide) 5 (.slice NF (cutAt c.fds kF).length cF) (fun _ h => h.setC KD.out 5 (.slice NF (cutAt c.fds kF).length cF))).ext (Ext.refl _).drew)
      have KDP : Hid (BK (WL.setCell ⟨w3.heap.size, 5, none⟩ (.slice NF (cutAt c.fds kF).length cF)).drew w3.heap.size #[.slice Dp c.pool.length Dkp, .string c.nm, .string c.sup, .bool c.inf, .slice Di c.ifs.length Dki, .slice NF (cutAt c.fds kF).length cF, .slice (some ⟨gM, 0, none⟩) es.length Dkm] 27) := Lib.hid ((show BK (WL.setCell ⟨w3.heap.size, 5, none⟩ (.slice NF (cutAt c.fds kF).length cF)) w3.heap.size #[.slice Dp c.pool.length Dkp, .string c.nm, .string c.sup, .bool c.inf, .slice Di c.ifs.length Dki, .slice NF (cutAt c.fds kF).length cF, .slice (some ⟨gM, 0, none⟩) es.length Dkm] 27 from KD.out.put 5 (.slice NF (cutAt c.fds kF).length cF)).ext (Ext.refl _).drew)
      have EWP := Lib.hid (Ext.drew (EW.out.set_ (p := ⟨w3.heap.size, 5, none⟩) (show _ ≤ w3.heap.size by simp; omega) (.slice NF (cutAt c.fds kF).length cF)))
      have X3P := Lib.hid (Ext.drew (XW.out.set_ (p := ⟨w3.heap.size, 5, none⟩) (show _ ≤ w3.heap.size by omega) (.slice NF (cutAt c.fds kF).length cF)))
      obtain ⟨vM, sAM, sBM, hrowM⟩ := cut_opsM OMP.out kM hknM
      have HROWM := Lib.hid hrowM
      have HFSTM := Lib.hid (OMP.out.firsts kM (by omega))
      have hlenM : (es.take kM).length = kM := by rw [List.length_take]; omega
      have hdrM : (es.drop (kM + 1)).length = es.length - (kM + 1) := List.length_drop
      have hszM : w3.heap.size < (WL.setCell ⟨w3.heap.size, 5, none⟩ (.slice NF (cutAt c.fds kF).length cF)).drew.heap.size := KDP.out.lt
      clear hkM hrowM
      go_wp2_with fail
      refine (bring_any b es.length _ (by omega) (by omega) (by omega) (by omega)).mono ?_
      rw [HKM.out]
      rintro e _ ⟨rfl, rfl⟩
      go_wp2_with fail
      obtain ⟨WQ, hWQ⟩ : ∃ W, (WL.setCell ⟨w3.heap.size, 5, none⟩ (.slice NF (cutAt c.fds kF).length cF)) = W := ⟨_, rfl⟩
      rw [hWQ] at OCP OFP OMP OSP KDP EWP X3P HROWM HFSTM hszM ⊢
      clear hWQ
      have wrM : IntKind.i64.wrap ((kM : Int) + 1) = (kM : Int) + 1 := by rw [IntKind.wrap_i64]; omega
      obtain ⟨VM, hVM⟩ : ∃ V : Value, ((.slice (some ⟨gM, 0, none⟩) es.length Dkm) : Value) = V := ⟨_, rfl⟩
      rw [hVM] at sAM sBM
      have HVM := Lib.hid hVM
      have f0 : WQ.cell? ⟨w3.heap.size, 6, none⟩ = some VM := by rw [← hVM]; exact KDP.out.cell 6
      clear hVM d0 d1 d2 d3 d4 d5 d6 df wh0 wh1 wh2
      go_still_tail 9, (by kernel_rfl)
      change wpList _ _ _ _ _ WQ.drew
      go_loud (refine Shp.wpList_app ShM _ rfl _ _ w2.heap.size 25 _ 136 rfl Tryz.underlying25 infoKM rfl (by omega) (.slice (some ⟨gM, 0, none⟩) kM Dkm) (es.take kM) rfl HFSTM.out vM (es.drop (kM + 1)) rfl HROWM.out (fun e he => OMP.out.2 e (List.mem_of_mem_drop he)) (by rw [hlenM, hdrM]; omega) (by omega) ?_)
      intro uM wM oM grM _
      have oM' : ShM.Own w2.heap.size wM uM (cutAt es kM) := oM
      obtain ⟨NM, cM, rfl, -⟩ := oM'.slice
      have KEM := Lib.hid (KDP.out.keptO grM (fun e => by injection e with e; exact hgdM e))
      have f1 : wM.cell? ⟨w3.heap.size, 6, none⟩ = some VM := HVM.out ▸ KEM.out.cell 6
      have f2 := KEM.out.free
      have hlowM := HFSTM.out.low
      have OCL := Lib.hid (OCP.out.kept grM (OCP.out.apart HFSTM.out (by decide)) (fun _ _ h => h))
      have OFL := Lib.hid (OFP.out.kept grM (OFP.out.apart HFSTM.out (by decide)) (fun _ _ h => h))
      have OML := Lib.hid oM'
      have OSL := Lib.hid (OSP.out.kept grM (OSP.out.apart HFSTM.out (by decide)) (fun _ _ h => h))
      have KD := KEM
      have EW := Lib.hid (EWP.out.grown grM (fun g e => by have := hlowM g e; simp; omega))
      have XW := Lib.hid (X3P.out.grown grM (fun g e => by have := hlowM g e; omega))
      clear f0 f1 f2 wrM KEM sAM sBM oM oM' hlowM hlenM hdrM hszM OCP OFP OMP OSP KDP EWP X3P grM
      obtain ⟨WL, hWL⟩ : ∃ W, wM = W := ⟨_, rfl⟩
      rw [hWL] at OCL OFL OML OSL KD EW XW ⊢
      clear hWL
      obtain ⟨d0, d1, d2, d3, d4, d5, d6⟩ := cells7 KD.out
      have df := KD.out.free
      obtain ⟨wh0, wh1, wh2⟩ := cells3 (BW.out _ EW.out)
      by_cases hpS : 0 < c.ifs.length
      · have hqS : (0 : Int) < (c.ifs.length : Int) := by omega
        obtain ⟨gS, hAS, hBS, hltS⟩ := own_of OS.out hpS
        have hgdS : ¬ gS = w3.heap.size := by omega
        subst hAS
        obtain ⟨kS, hkS, hknS⟩ := bring_nat g3 hpS
        have HKS := Lib.hid hkS
        have OCP := Lib.hid ((OCL.out.setT KD.out (by decide) 6 (.slice NM (cutAt es kM).length cM) (fun _ h => h)).ext (Ext.refl _).drew)
        have OFP := Lib.hid ((OFL.out.setT KD.out (by decide) 6 (.slice NM (cutAt es kM).length cM) (fun _ h => h)).ext (Ext.refl _).drew)
        have OSP := Lib.hid ((OSL.out.setT KD.out (by decide) 6 (.slice NM (cutAt es kM).length cM) (fun _ h => h)).ext (Ext.refl _).drew)
        have OMP := Lib.hid ((OML.out.setT KD.out (by decide) 6 (.slice NM (cutAt es kM).length cM) (fun _ h => h.setC KD.out 6 (.slice NM (cutAt es kM).length cM))).ext (Ext.refl _).drew)
        have KDP : Hid (BK (WL.setCell ⟨w3.heap.size, 6, none⟩ (.slice NM (cutAt es kM).length cM)).drew w3.heap.size #[.slice Dp c.pool.length Dkp, .string c.nm, .string c.sup, .bool c.inf, .slice (some ⟨gS, 0, none⟩) c.ifs.length Dki, .slice NF (cutAt c.fds kF).length cF, .slice NM (cutAt es kM).length cM] 27) := Lib.hid ((show BK (WL.setCell ⟨w3.heap.size, 6, none⟩ (.slice NM (cutAt es kM).length cM)) w3.heap.size #[.slice Dp c.pool.length Dkp, .string c.nm, .string c.sup, .bool c.inf, .slice (some ⟨gS, 0, none⟩) c.ifs.length Dki, .slice NF (cutAt c.fds kF).length cF, .slice NM (cutAt es kM).length cM] 27 from KD.out.put 6 (.slice NM (cutAt es kM).length cM)).ext (Ext.refl _).drew)
        have EWP := Lib.hid (Ext.drew (EW.out.set_ (p := ⟨w3.heap.size, 6, none⟩) (show _ ≤ w3.heap.size by simp; omega) (.slice NM (cutAt es kM).length cM)))
        have X3P := Lib.hid (Ext.drew (XW.out.set_ (p := ⟨w3.heap.size, 6, none⟩) (show _ ≤ w3.heap.size by omega) (.slice NM (cutAt es kM).length cM)))
        obtain ⟨vS, sAS, sBS, hrowS⟩ := cut_opsS OSP.out kS hknS
        have HROWS := Lib.hid hrowS
        have HFSTS := Lib.hid (OSP.out.firsts kS (by omega))
        have hlenS : (c.ifs.take kS).length = kS := by rw [List.length_take]; omega
        have hdrS : (c.ifs.drop (kS + 1)).length = c.ifs.length - (kS + 1) := List.length_drop
        have hszS : w3.heap.size < (WL.setCell ⟨w3.heap.size, 6, none⟩ (.slice NM (cutAt es kM).length cM)).drew.heap.size := KDP.out.lt
        clear hkS hrowS
        go_wp2_with fail
        refine (bring_any g3 c.ifs.length _ (by omega) (by omega) (by omega) (by omega)).mono ?_
        rw [HKS.out]
        rintro e _ ⟨rfl, rfl⟩
        go_wp2_with fail
        obtain ⟨WQ, hWQ⟩ : ∃ W, (WL.setCell ⟨w3.heap.size, 6, none⟩ (.slice NM (cutAt es kM).length cM)) = W := ⟨_, rfl⟩
        rw [hWQ] at OCP OFP OMP OSP KDP EWP X3P HROWS HFSTS hszS ⊢
        clear hWQ
        have wrS : IntKind.i64.wrap ((kS : Int) + 1) = (kS : Int) + 1 := by rw [IntKind.wrap_i64]; omega
        obtain ⟨VS, hVS⟩ : ∃ V : Value, ((.slice (some ⟨gS, 0, none⟩) c.ifs.length Dki) : Value) = V := ⟨_, rfl⟩
        rw [hVS] at sAS sBS
        have HVS := Lib.hid hVS
        have f0 : WQ.cell? ⟨w3.heap.size, 4, none⟩ = some VS := by rw [← hVS]; exact KDP.out.cell 4
        clear hVS d0 d1 d2 d3 d4 d5 d6 df wh0 wh1 wh2
        go_still_tail 9, (by kernel_rfl)
        change wpList _ _ _ _ _ WQ.drew
        go_loud (refine Shp.wpList_app ShS _ rfl _ _ w2.heap.size 23 _ 16 rfl Tryz.underlying23 infoKS rfl (by omega) (.slice (some ⟨gS, 0, none⟩) kS Dki) (c.ifs.take kS) rfl HFSTS.out vS (c.ifs.drop (kS + 1)) rfl HROWS.out (fun e he => OSP.out.2 e (List.mem_of_mem_drop he)) (by rw [hlenS, hdrS]; omega) (by omega) ?_)
        intro uS wS oS grS _
        have oS' : ShS.Own w2.heap.size wS uS (cutAt c.ifs kS) := oS
        obtain ⟨NS, cS, rfl, -⟩ := oS'.slice
        have KES := Lib.hid (KDP.out.keptO grS (fun e => by injection e with e; exact hgdS e))
        have f1 : wS.cell? ⟨w3.heap.size, 4, none⟩ = some VS := HVS.out ▸ KES.out.cell 4
        have f2 := KES.out.free
        have hlowS := HFSTS.out.low
        have OCL := Lib.hid (OCP.out.kept grS (OCP.out.apart HFSTS.out (by decide)) (fun _ _ h => h))
        have OFL := Lib.hid (OFP.out.kept grS (OFP.out.apart HFSTS.out (by decide)) (fun _ _ h => h))
        have OML := Lib.hid (OMP.out.kept grS (OMP.out.apart HFSTS.out (by decide)) (fun e _ h => NestMO.kept h grS fun g e => by obtain ⟨c', z', e'⟩ := HFSTS.out.typed g e; exact ⟨c', _, z', e', by decide, by decide, by decide⟩))
        have OSL := Lib.hid oS'
        have KD := KES
        have EW := Lib.hid (EWP.out.grown grS (fun g e => by have := hlowS g e; simp; omega))
        have XW := Lib.hid (X3P.out.grown grS (fun g e => by have := hlowS g e; omega))
        clear f0 f1 f2 wrS KES sAS sBS oS oS' hlowS hlenS hdrS hszS OCP OFP OMP OSP KDP EWP X3P grS
        obtain ⟨WL, hWL⟩ : ∃ W, wS = W := ⟨_, rfl⟩
        rw [hWL] at OCL OFL OML OSL KD EW XW ⊢
        clear hWL
        obtain ⟨d0, d1, d2, d3, d4, d5, d6⟩ := cells7 KD.out
        have df := KD.out.free
        obtain ⟨wh0, wh1, wh2⟩ := cells3 (BW.out _ EW.out)
        have KQ : BK (WL.setCell ⟨w3.heap.size, 4, none⟩ (.slice NS (cutAt c.ifs kS).length cS)) w3.heap.size #[.slice Dp c.pool.length Dkp, .string c.nm, .string c.sup, .bool c.inf, .slice NS (cutAt c.ifs kS).length cS, .slice NF (cutAt c.fds kF).length cF, .slice NM (cutAt es kM).length cM] 27 := KD.out.put 4 (.slice NS (cutAt c.ifs kS).length cS)
        have OCT := ((OCL.out.setT KD.out (by decide) 4 (.slice NS (cutAt c.ifs kS).length cS) (fun _ h => h)).setT KQ (by decide) 3 (.bool (!c.inf)) (fun _ h => h))
        have OFT := ((OFL.out.setT KD.out (by decide) 4 (.slice NS (cutAt c.ifs kS).length cS) (fun _ h => h)).setT KQ (by decide) 3 (.bool (!c.inf)) (fun _ h => h))
        have OMT := ((OML.out.setT KD.out (by decide) 4 (.slice NS (cutAt c.ifs kS).length cS) (fun _ h => h.setC KD.out 4 (.slice NS (cutAt c.ifs kS).length cS))).setT KQ (by decide) 3 (.bool (!c.inf)) (fun _ h => h.setC KQ 3 (.bool (!c.inf))))
        have OST := ((OSL.out.setT KD.out (by decide) 4 (.slice NS (cutAt c.ifs kS).length cS) (fun _ h => h)).setT KQ (by decide) 3 (.bool (!c.inf)) (fun _ h => h))
        have KT : BK ((WL.setCell ⟨w3.heap.size, 4, none⟩ (.slice NS (cutAt c.ifs kS).length cS)).setCell ⟨w3.heap.size, 3, none⟩ (.bool (!c.inf))) w3.heap.size #[.slice Dp c.pool.length Dkp, .string c.nm, .string c.sup, .bool (!c.inf), .slice NS (cutAt c.ifs kS).length cS, .slice NF (cutAt c.fds kF).length cF, .slice NM (cutAt es kM).length cM] 27 := KQ.put 3 (.bool (!c.inf))
        have ET := (EW.out.set_ (p := ⟨w3.heap.size, 4, none⟩) (show _ ≤ w3.heap.size by simp; omega) (.slice NS (cutAt c.ifs kS).length cS)).set_ (p := ⟨w3.heap.size, 3, none⟩) (show _ ≤ w3.heap.size by simp; omega) (.bool (!c.inf))
        have XT := (XW.out.set_ (p := ⟨w3.heap.size, 4, none⟩) (show _ ≤ w3.heap.size by omega) (.slice NS (cutAt c.ifs kS).length cS)).set_ (p := ⟨w3.heap.size, 3, none⟩) (show _ ≤ w3.heap.size by omega) (.bool (!c.inf))
        have fM : Few ((cutAt es kM).map (·.1)) c.mts := by rw [cutAt_map, HES.out]; exact Few.cut _ _
        obtain ⟨hA, hK, hR2, hN, hZ⟩ := less_parts (I := (cutAt c.ifs kS)) (F := (cutAt c.fds kF)) (E := (cutAt es kM)) OCT.row OST.row OFT.row OMT.row HOK.out HR.out HPZ.out (Few.cut _ _) (Few.cut _ _) fM
        obtain ⟨dd, hdd⟩ : ∃ d : Cl, (⟨c.pool, !c.inf, c.nm, c.sup, (cutAt c.ifs kS), (cutAt c.fds kF), (cutAt es kM).map (·.1)⟩ : Cl) = d := ⟨_, rfl⟩
        have hv : #[.slice Dp c.pool.length Dkp, .string c.nm, .string c.sup, .bool (!c.inf), .slice NS (cutAt c.ifs kS).length cS, .slice NF (cutAt c.fds kF).length cF, .slice NM (cutAt es kM).length cM] = dd.vals (.slice Dp c.pool.length Dkp) (.slice NS (cutAt c.ifs kS).length cS) (.slice NF (cutAt c.fds kF).length cF) (.slice NM (cutAt es kM).length cM) := by rw [← hdd]; rfl
        rw [hdd] at hA hK hR2 hN hZ
        have hCd := fun W (e : Ext ((WL.setCell ⟨w3.heap.size, 4, none⟩ (.slice NS (cutAt c.ifs kS).length cS)).setCell ⟨w3.heap.size, 3, none⟩ (.bool (!c.inf))) W) => classCheck_any dd _ _ _ _ W (hA.ext e) hR2 (HT.out.ext (XT.trans e)) (HM.out.ext (XT.trans e))
        have hSd := fun W (e : Ext ((WL.setCell ⟨w3.heap.size, 4, none⟩ (.slice NS (cutAt c.ifs kS).length cS)).setCell ⟨w3.heap.size, 3, none⟩ (.bool (!c.inf))) W) => classSame_any c dd _ _ _ _ _ _ _ _ W (HAT.out.ext (XT.trans e)) (hA.ext e) HR.out hR2
        have hBd := fun W (e : Ext ((WL.setCell ⟨w3.heap.size, 4, none⟩ (.slice NS (cutAt c.ifs kS).length cS)).setCell ⟨w3.heap.size, 3, none⟩ (.bool (!c.inf))) W) => classBack_any W (HT.out.ext (XT.trans e)) (HM.out.ext (XT.trans e)) dd _ _ _ _ (hA.ext e) hR2 hZ
        simp only [chkK_ok hK, hN, ← hv] at hCd hSd hBd
        unfold Cl.vals at hSd
        have HCd := Lib.hid hCd
        have HSd := Lib.hid hSd
        have HBd := Lib.hid hBd
        have HXT := Lib.hid XT
        have HKT := Lib.hid KT
        have HET := Lib.hid ET
        clear hCd hSd hBd hA hK hR2 hN hZ hv hdd fM XT ET KT OCT OFT OMT OST KQ
        go_wp2_with fail
        refine (HCd.out _ (Ext.refl _)).mono ?_
        rintro e w5 ⟨rfl, x5⟩
        clear d0 d1 d2 d3 d4 d5 d6 df wh0 wh1 wh2
        obtain ⟨q0, q1, q2, q3, q4, q5, q6⟩ := cells7 (BX.out w5 (HET.out.trans x5))
        obtain ⟨d0, d1, d2, d3, d4, d5, d6⟩ := cells7 (HKT.out.ext x5)
        have X5 := Lib.hid x5
        clear x5
        go_wp2_with fail
        refine (HSd.out _ X5.out).mono ?_
        rintro e w6 ⟨rfl, x6⟩
        clear q0 q1 q2 q3 q4 q5 q6 d0 d1 d2 d3 d4 d5 d6
        obtain ⟨d0, d1, d2, d3, d4, d5, d6⟩ := cells7 (HKT.out.ext (X5.out.trans x6))
        have X6 := Lib.hid (X5.out.trans x6)
        clear x6
        go_wp2_with fail
        refine (HBd.out _ X6.out).mono ?_
        rintro e w7 ⟨rfl, x7⟩
        go_wp2
        go_ret
        exact ⟨rfl, (HXT.out.trans X6.out).trans x7⟩
      · have hqS : ¬ (0 : Int) < (c.ifs.length : Int) := by omega
        have KQ : BK (WL.setCell ⟨w3.heap.size, 6, none⟩ (.slice NM (cutAt es kM).length cM)) w3.heap.size #[.slice Dp c.pool.length Dkp, .string c.nm, .string c.sup, .bool c.inf, .slice Di c.ifs.length Dki, .slice NF (cutAt c.fds kF).length cF, .slice NM (cutAt es kM).length cM] 27 := KD.out.put 6 (.slice NM (cutAt es kM).length cM)
        have OCT := ((OCL.out.setT KD.out (by decide) 6 (.slice NM (cutAt es kM).length cM) (fun _ h => h)).setT KQ (by decide) 3 (.bool (!c.inf)) (fun _ h => h))
        have OFT := ((OFL.out.setT KD.out (by decide) 6 (.slice NM (cutAt es kM).length cM) (fun _ h => h)).setT KQ (by decide) 3 (.bool (!c.inf)) (fun _ h => h))
        have OMT := ((OML.out.setT KD.out (by decide) 6 (.slice NM (cutAt es kM).length cM) (fun _ h => h.setC KD.out 6 (.slice NM (cutAt es kM).length cM))).setT KQ (by decide) 3 (.bool (!c.inf)) (fun _ h => h.setC KQ 3 (.bool (!c.inf))))
        have OST := ((OSL.out.setT KD.out (by decide) 6 (.slice NM (cutAt es kM).length cM) (fun _ h => h)).setT KQ (by decide) 3 (.bool (!c.inf)) (fun _ h => h))
        have KT : BK ((WL.setCell ⟨w3.heap.size, 6, none⟩ (.slice NM (cutAt es kM).length cM)).setCell ⟨w3.heap.size, 3, none⟩ (.bool (!c.inf))) w3.heap.size #[.slice Dp c.pool.length Dkp, .string c.nm, .string c.sup, .bool (!c.inf), .slice Di c.ifs.length Dki, .slice NF (cutAt c.fds kF).length cF, .slice NM (cutAt es kM).length cM] 27 := KQ.put 3 (.bool (!c.inf))
        have ET := (EW.out.set_ (p := ⟨w3.heap.size, 6, none⟩) (show _ ≤ w3.heap.size by simp; omega) (.slice NM (cutAt es kM).length cM)).set_ (p := ⟨w3.heap.size, 3, none⟩) (show _ ≤ w3.heap.size by simp; omega) (.bool (!c.inf))
        have XT := (XW.out.set_ (p := ⟨w3.heap.size, 6, none⟩) (show _ ≤ w3.heap.size by omega) (.slice NM (cutAt es kM).length cM)).set_ (p := ⟨w3.heap.size, 3, none⟩) (show _ ≤ w3.heap.size by omega) (.bool (!c.inf))
        have fM : Few ((cutAt es kM).map (·.1)) c.mts := by rw [cutAt_map, HES.out]; exact Few.cut _ _
        obtain ⟨hA, hK, hR2, hN, hZ⟩ := less_parts (I := c.ifs) (F := (cutAt c.fds kF)) (E := (cutAt es kM)) OCT.row OST.row OFT.row OMT.row HOK.out HR.out HPZ.out (Few.refl _) (Few.cut _ _) fM
        obtain ⟨dd, hdd⟩ : ∃ d : Cl, (⟨c.pool, !c.inf, c.nm, c.sup, c.ifs, (cutAt c.fds kF), (cutAt es kM).map (·.1)⟩ : Cl) = d := ⟨_, rfl⟩
        have hv : #[.slice Dp c.pool.length Dkp, .string c.nm, .string c.sup, .bool (!c.inf), .slice Di c.ifs.length Dki, .slice NF (cutAt c.fds kF).length cF, .slice NM (cutAt es kM).length cM] = dd.vals (.slice Dp c.pool.length Dkp) (.slice Di c.ifs.length Dki) (.slice NF (cutAt c.fds kF).length cF) (.slice NM (cutAt es kM).length cM) := by rw [← hdd]; rfl
        rw [hdd] at hA hK hR2 hN hZ
        have hCd := fun W (e : Ext ((WL.setCell ⟨w3.heap.size, 6, none⟩ (.slice NM (cutAt es kM).length cM)).setCell ⟨w3.heap.size, 3, none⟩ (.bool (!c.inf))) W) => classCheck_any dd _ _ _ _ W (hA.ext e) hR2 (HT.out.ext (XT.trans e)) (HM.out.ext (XT.trans e))
        have hSd := fun W (e : Ext ((WL.setCell ⟨w3.heap.size, 6, none⟩ (.slice NM (cutAt es kM).length cM)).setCell ⟨w3.heap.size, 3, none⟩ (.bool (!c.inf))) W) => classSame_any c dd _ _ _ _ _ _ _ _ W (HAT.out.ext (XT.trans e)) (hA.ext e) HR.out hR2
        have hBd := fun W (e : Ext ((WL.setCell ⟨w3.heap.size, 6, none⟩ (.slice NM (cutAt es kM).length cM)).setCell ⟨w3.heap.size, 3, none⟩ (.bool (!c.inf))) W) => classBack_any W (HT.out.ext (XT.trans e)) (HM.out.ext (XT.trans e)) dd _ _ _ _ (hA.ext e) hR2 hZ
        simp only [chkK_ok hK, hN, ← hv] at hCd hSd hBd
        unfold Cl.vals at hSd
        have HCd := Lib.hid hCd
        have HSd := Lib.hid hSd
        have HBd := Lib.hid hBd
        have HXT := Lib.hid XT
        have HKT := Lib.hid KT
        have HET := Lib.hid ET
        clear hCd hSd hBd hA hK hR2 hN hZ hv hdd fM XT ET KT OCT OFT OMT OST KQ
        go_wp2_with fail
        refine (HCd.out _ (Ext.refl _)).mono ?_
        rintro e w5 ⟨rfl, x5⟩
        clear d0 d1 d2 d3 d4 d5 d6 df wh0 wh1 wh2
        obtain ⟨q0, q1, q2, q3, q4, q5, q6⟩ := cells7 (BX.out w5 (HET.out.trans x5))
        obtain ⟨d0, d1, d2, d3, d4, d5, d6⟩ := cells7 (HKT.out.ext x5)
        have X5 := Lib.hid x5
        clear x5
        go_wp2_with fail
        refine (HSd.out _ X5.out).mono ?_
        rintro e w6 ⟨rfl, x6⟩
        clear q0 q1 q2 q3 q4 q5 q6 d0 d1 d2 d3 d4 d5 d6
        obtain ⟨d0, d1, d2, d3, d4, d5, d6⟩ := cells7 (HKT.out.ext (X5.out.trans x6))
        have X6 := Lib.hid (X5.out.trans x6)
        clear x6
        go_wp2_with fail
        refine (HBd.out _ X6.out).mono ?_
        rintro e w7 ⟨rfl, x7⟩
        go_wp2
        go_ret
        exact ⟨rfl, (HXT.out.trans X6.out).trans x7⟩
    · have hqM : ¬ (0 : Int) < (es.length : Int) := by omega
      by_cases hpS : 0 < c.ifs.length
      · have hqS : (0 : Int) < (c.ifs.length : Int) := by omega
        obtain ⟨gS, hAS, hBS, hltS⟩ := own_of OS.out hpS
        have hgdS : ¬ gS = w3.heap.size := by omega
        subst hAS
        obtain ⟨kS, hkS, hknS⟩ := bring_nat g3 hpS
        have HKS := Lib.hid hkS
        have OCP := Lib.hid ((OCL.out.setT KD.out (by decide) 5 (.slice NF (cutAt c.fds kF).length cF) (fun _ h => h)).ext (Ext.refl _).drew)
        have OFP := Lib.hid ((OFL.out.setT KD.out (by decide) 5 (.slice NF (cutAt c.fds kF).length cF) (fun _ h => h)).ext (Ext.refl _).drew)
        have OSP := Lib.hid ((OSL.out.setT KD.out (by decide) 5 (.slice NF (cutAt c.fds kF).length cF) (fun _ h => h)).ext (Ext.refl _).drew)
        have OMP := Lib.hid ((OML.out.setT KD.out (by decide) 5 (.slice NF (cutAt c.fds kF).length cF) (fun _ h => h.setC KD.out 5 (.slice NF (cutAt c.fds kF).length cF))).ext (Ext.refl _).drew)
        have KDP : Hid (BK (WL.setCell ⟨w3.heap.size, 5, none⟩ (.slice NF (cutAt c.fds kF).length cF)).drew w3.heap.size #[.slice Dp c.pool.length Dkp, .string c.nm, .string c.sup, .bool c.inf, .slice (some ⟨gS, 0, none⟩) c.ifs.length Dki, .slice NF (cutAt c.fds kF).length cF, .slice Dm es.length Dkm] 27) := Lib.hid ((show BK (WL.setCell ⟨w3.heap.size, 5, none⟩ (.slice NF (cutAt c.fds kF).length cF)) w3.heap.size #[.slice Dp c.pool.length Dkp, .string c.nm, .string c.sup, .bool c.inf, .slice (some ⟨gS, 0, none⟩) c.ifs.length Dki, .slice NF (cutAt c.fds kF).length cF, .slice Dm es.length Dkm] 27 from KD.out.put 5 (.slice NF (cutAt c.fds kF).length cF)).ext (Ext.refl _).drew)
        have EWP := Lib.hid (Ext.drew (EW.out.set_ (p := ⟨w3.heap.size, 5, none⟩) (show _ ≤ w3.heap.size by simp; omega) (.slice NF (cutAt c.fds kF).length cF)))
        have X3P := Lib.hid (Ext.drew (XW.out.set_ (p := ⟨w3.heap.size, 5, none⟩) (show _ ≤ w3.heap.size by omega) (.slice NF (cutAt c.fds kF).length cF)))
        obtain ⟨vS, sAS, sBS, hrowS⟩ := cut_opsS OSP.out kS hknS
        have HROWS := Lib.hid hrowS
        have HFSTS := Lib.hid (OSP.out.firsts kS (by omega))
        have hlenS : (c.ifs.take kS).length = kS := by rw [List.length_take]; omega
        have hdrS : (c.ifs.drop (kS + 1)).length = c.ifs.length - (kS + 1) := List.length_drop
        have hszS : w3.heap.size < (WL.setCell ⟨w3.heap.size, 5, none⟩ (.slice NF (cutAt c.fds kF).length cF)).drew.heap.size := KDP.out.lt
        clear hkS hrowS
        go_wp2_with fail
        refine (bring_any g3 c.ifs.length _ (by omega) (by omega) (by omega) (by omega)).mono ?_
        rw [HKS.out]
        rintro e _ ⟨rfl, rfl⟩
        go_wp2_with fail
        obtain ⟨WQ, hWQ⟩ : ∃ W, (WL.setCell ⟨w3.heap.size, 5, none⟩ (.slice NF (cutAt c.fds kF).length cF)) = W := ⟨_, rfl⟩
        rw [hWQ] at OCP OFP OMP OSP KDP EWP X3P HROWS HFSTS hszS ⊢
        clear hWQ
        have wrS : IntKind.i64.wrap ((kS : Int) + 1) = (kS : Int) + 1 := by rw [IntKind.wrap_i64]; omega
        obtain ⟨VS, hVS⟩ : ∃ V : Value, ((.slice (some ⟨gS, 0, none⟩) c.ifs.length Dki) : Value) = V := ⟨_, rfl⟩
        rw [hVS] at sAS sBS
        have HVS := Lib.hid hVS
        have f0 : WQ.cell? ⟨w3.heap.size, 4, none⟩ = some VS := by rw [← hVS]; exact KDP.out.cell 4
        clear hVS d0 d1 d2 d3 d4 d5 d6 df wh0 wh1 wh2
        go_still_tail 9, (by kernel_rfl)
        change wpList _ _ _ _ _ WQ.drew
        go_loud (refine Shp.wpList_app ShS _ rfl _ _ w2.heap.size 23 _ 16 rfl Tryz.underlying23 infoKS rfl (by omega) (.slice (some ⟨gS, 0, none⟩) kS Dki) (c.ifs.take kS) rfl HFSTS.out vS (c.ifs.drop (kS + 1)) rfl HROWS.out (fun e he => OSP.out.2 e (List.mem_of_mem_drop he)) (by rw [hlenS, hdrS]; omega) (by omega) ?_)
        intro uS wS oS grS _
        have oS' : ShS.Own w2.heap.size wS uS (cutAt c.ifs kS) := oS
        obtain ⟨NS, cS, rfl, -⟩ := oS'.slice
        have KES := Lib.hid (KDP.out.keptO grS (fun e => by injection e with e; exact hgdS e))
        have f1 : wS.cell? ⟨w3.heap.size, 4, none⟩ = some VS := HVS.out ▸ KES.out.cell 4
        have f2 := KES.out.free
        have hlowS := HFSTS.out.low
        have OCL := Lib.hid (OCP.out.kept grS (OCP.out.apart HFSTS.out (by decide)) (fun _ _ h => h))
        have OFL := Lib.hid (OFP.out.kept grS (OFP.out.apart HFSTS.out (by decide)) (fun _ _ h => h))
        have OML := Lib.hid (OMP.out.kept grS (OMP.out.apart HFSTS.out (by decide)) (fun e _ h => NestMO.kept h grS fun g e => by obtain ⟨c', z', e'⟩ := HFSTS.out.typed g e; exact ⟨c', _, z', e', by decide, by decide, by decide⟩))
        have OSL := Lib.hid oS'
        have KD := KES
        have EW := Lib.hid (EWP.out.grown grS (fun g e => by have := hlowS g e; simp; omega))
        have XW := Lib.hid (X3P.out.grown grS (fun g e => by have := hlowS g e; omega))
        clear f0 f1 f2 wrS KES sAS sBS oS oS' hlowS hlenS hdrS hszS OCP OFP OMP OSP KDP EWP X3P grS
        obtain ⟨WL, hWL⟩ : ∃ W, wS = W := ⟨_, rfl⟩
        rw [hWL] at OCL OFL OML OSL KD EW XW ⊢
        clear hWL
        obtain ⟨d0, d1, d2, d3, d4, d5, d6⟩ := cells7 KD.out
        have df := KD.out.free
        obtain ⟨wh0, wh1, wh2⟩ := cells3 (BW.out _ EW.out)
        have KQ : BK (WL.setCell ⟨w3.heap.size, 4, none⟩ (.slice NS (cutAt c.ifs kS).length cS)) w3.heap.size #[.slice Dp c.pool.length Dkp, .string c.nm, .string c.sup, .bool c.inf, .slice NS (cutAt c.ifs kS).length cS, .slice NF (cutAt c.fds kF).length cF, .slice Dm es.length Dkm] 27 := KD.out.put 4 (.slice NS (cutAt c.ifs kS).length cS)
        have OCT := ((OCL.out.setT KD.out (by decide) 4 (.slice NS (cutAt c.ifs kS).length cS) (fun _ h => h)).setT KQ (by decide) 3 (.bool (!c.inf)) (fun _ h => h))
        have OFT := ((OFL.out.setT KD.out (by decide) 4 (.slice NS (cutAt c.ifs kS).length cS) (fun _ h => h)).setT KQ (by decide) 3 (.bool (!c.inf)) (fun _ h => h))
        have OMT := ((OML.out.setT KD.out (by decide) 4 (.slice NS (cutAt c.ifs kS).length cS) (fun _ h => h.setC KD.out 4 (.slice NS (cutAt c.ifs kS).length cS))).setT KQ (by decide) 3 (.bool (!c.inf)) (fun _ h => h.setC KQ 3 (.bool (!c.inf))))
        have OST := ((OSL.out.setT KD.out (by decide) 4 (.slice NS (cutAt c.ifs kS).length cS) (fun _ h => h)).setT KQ (by decide) 3 (.bool (!c.inf)) (fun _ h => h))
        have KT : BK ((WL.setCell ⟨w3.heap.size, 4, none⟩ (.slice NS (cutAt c.ifs kS).length cS)).setCell ⟨w3.heap.size, 3, none⟩ (.bool (!c.inf))) w3.heap.size #[.slice Dp c.pool.length Dkp, .string c.nm, .string c.sup, .bool (!c.inf), .slice NS (cutAt c.ifs kS).length cS, .slice NF (cutAt c.fds kF).length cF, .slice Dm es.length Dkm] 27 := KQ.put 3 (.bool (!c.inf))
        have ET := (EW.out.set_ (p := ⟨w3.heap.size, 4, none⟩) (show _ ≤ w3.heap.size by simp; omega) (.slice NS (cutAt c.ifs kS).length cS)).set_ (p := ⟨w3.heap.size, 3, none⟩) (show _ ≤ w3.heap.size by simp; omega) (.bool (!c.inf))
        have XT := (XW.out.set_ (p := ⟨w3.heap.size, 4, none⟩) (show _ ≤ w3.heap.size by omega) (.slice NS (cutAt c.ifs kS).length cS)).set_ (p := ⟨w3.heap.size, 3, none⟩) (show _ ≤ w3.heap.size by omega) (.bool (!c.inf))
        have fM : Few (es.map (·.1)) c.mts := by rw [HES.out]; exact Few.refl _
        obtain ⟨hA, hK, hR2, hN, hZ⟩ := less_parts (I := (cutAt c.ifs kS)) (F := (cutAt c.fds kF)) (E := es) OCT.row OST.row OFT.row OMT.row HOK.out HR.out HPZ.out (Few.cut _ _) (Few.cut _ _) fM
        obtain ⟨dd, hdd⟩ : ∃ d : Cl, (⟨c.pool, !c.inf, c.nm, c.sup, (cutAt c.ifs kS), (cutAt c.fds kF), es.map (·.1)⟩ : Cl) = d := ⟨_, rfl⟩
        have hv : #[.slice Dp c.pool.length Dkp, .string c.nm, .string c.sup, .bool (!c.inf), .slice NS (cutAt c.ifs kS).length cS, .slice NF (cutAt c.fds kF).length cF, .slice Dm es.length Dkm] = dd.vals (.slice Dp c.pool.length Dkp) (.slice NS (cutAt c.ifs kS).length cS) (.slice NF (cutAt c.fds kF).length cF) (.slice Dm es.length Dkm) := by rw [← hdd]; rfl
        rw [hdd] at hA hK hR2 hN hZ
        have hCd := fun W (e : Ext ((WL.setCell ⟨w3.heap.size, 4, none⟩ (.slice NS (cutAt c.ifs kS).length cS)).setCell ⟨w3.heap.size, 3, none⟩ (.bool (!c.inf))) W) => classCheck_any dd _ _ _ _ W (hA.ext e) hR2 (HT.out.ext (XT.trans e)) (HM.out.ext (XT.trans e))
        have hSd := fun W (e : Ext ((WL.setCell ⟨w3.heap.size, 4, none⟩ (.slice NS (cutAt c.ifs kS).length cS)).setCell ⟨w3.heap.size, 3, none⟩ (.bool (!c.inf))) W) => classSame_any c dd _ _ _ _ _ _ _ _ W (HAT.out.ext (XT.trans e)) (hA.ext e) HR.out hR2
        have hBd := fun W (e : Ext ((WL.setCell ⟨w3.heap.size, 4, none⟩ (.slice NS (cutAt c.ifs kS).length cS)).setCell ⟨w3.heap.size, 3, none⟩ (.bool (!c.inf))) W) => classBack_any W (HT.out.ext (XT.trans e)) (HM.out.ext (XT.trans e)) dd _ _ _ _ (hA.ext e) hR2 hZ
        simp only [chkK_ok hK, hN, ← hv] at hCd hSd hBd
        unfold Cl.vals at hSd
        have HCd := Lib.hid hCd
        have HSd := Lib.hid hSd
        have HBd := Lib.hid hBd
        have HXT := Lib.hid XT
        have HKT := Lib.hid KT
        have HET := Lib.hid ET
        clear hCd hSd hBd hA hK hR2 hN hZ hv hdd fM XT ET KT OCT OFT OMT OST KQ
        go_wp2_with fail
        refine (HCd.out _ (Ext.refl _)).mono ?_
        rintro e w5 ⟨rfl, x5⟩
        clear d0 d1 d2 d3 d4 d5 d6 df wh0 wh1 wh2
        obtain ⟨q0, q1, q2, q3, q4, q5, q6⟩ := cells7 (BX.out w5 (HET.out.trans x5))
        obtain ⟨d0, d1, d2, d3, d4, d5, d6⟩ := cells7 (HKT.out.ext x5)
        have X5 := Lib.hid x5
        clear x5
        go_wp2_with fail
        refine (HSd.out _ X5.out).mono ?_
        rintro e w6 ⟨rfl, x6⟩
        clear q0 q1 q2 q3 q4 q5 q6 d0 d1 d2 d3 d4 d5 d6
        obtain ⟨d0, d1, d2, d3, d4, d5, d6⟩ := cells7 (HKT.out.ext (X5.out.trans x6))
        have X6 := Lib.hid (X5.out.trans x6)
        clear x6
        go_wp2_with fail
        refine (HBd.out _ X6.out).mono ?_
        rintro e w7 ⟨rfl, x7⟩
        go_wp2
        go_ret
        exact ⟨rfl, (HXT.out.trans X6.out).trans x7⟩
      · have hqS : ¬ (0 : Int) < (c.ifs.length : Int) := by omega
        have KQ : BK (WL.setCell ⟨w3.heap.size, 5, none⟩ (.slice NF (cutAt c.fds kF).length cF)) w3.heap.size #[.slice Dp c.pool.length Dkp, .string c.nm, .string c.sup, .bool c.inf, .slice Di c.ifs.length Dki, .slice NF (cutAt c.fds kF).length cF, .slice Dm es.length Dkm] 27 := KD.out.put 5 (.slice NF (cutAt c.fds kF).length cF)
        have OCT := ((OCL.out.setT KD.out (by decide) 5 (.slice NF (cutAt c.fds kF).length cF) (fun _ h => h)).setT KQ (by decide) 3 (.bool (!c.inf)) (fun _ h => h))
        have OFT := ((OFL.out.setT KD.out (by decide) 5 (.slice NF (cutAt c.fds kF).length cF) (fun _ h => h)).setT KQ (by decide) 3 (.bool (!c.inf)) (fun _ h => h))
        have OMT := ((OML.out.setT KD.out (by decide) 5 (.slice NF (cutAt c.fds kF).length cF) (fun _ h => h.setC KD.out 5 (.slice NF (cutAt c.fds kF).length cF))).setT KQ (by decide) 3 (.bool (!c.inf)) (fun _ h => h.setC KQ 3 (.bool (!c.inf))))
        have OST := ((OSL.out.setT KD.out (by decide) 5 (.slice NF (cutAt c.fds kF).length cF) (fun _ h => h)).setT KQ (by decide) 3 (.bool (!c.inf)) (fun _ h => h))
        have KT : BK ((WL.setCell ⟨w3.heap.size, 5, none⟩ (.slice NF (cutAt c.fds kF).length cF)).setCell ⟨w3.heap.size, 3, none⟩ (.bool (!c.inf))) w3.heap.size #[.slice Dp c.pool.length Dkp, .string c.nm, .string c.sup, .bool (!c.inf), .slice Di c.ifs.length Dki, .slice NF (cutAt c.fds kF).length cF, .slice Dm es.length Dkm] 27 := KQ.put 3 (.bool (!c.inf))
        have ET := (EW.out.set_ (p := ⟨w3.heap.size, 5, none⟩) (show _ ≤ w3.heap.size by simp; omega) (.slice NF (cutAt c.fds kF).length cF)).set_ (p := ⟨w3.heap.size, 3, none⟩) (show _ ≤ w3.heap.size by simp; omega) (.bool (!c.inf))
        have XT := (XW.out.set_ (p := ⟨w3.heap.size, 5, none⟩) (show _ ≤ w3.heap.size by omega) (.slice NF (cutAt c.fds kF).length cF)).set_ (p := ⟨w3.heap.size, 3, none⟩) (show _ ≤ w3.heap.size by omega) (.bool (!c.inf))
        have fM : Few (es.map (·.1)) c.mts := by rw [HES.out]; exact Few.refl _
        obtain ⟨hA, hK, hR2, hN, hZ⟩ := less_parts (I := c.ifs) (F := (cutAt c.fds kF)) (E := es) OCT.row OST.row OFT.row OMT.row HOK.out HR.out HPZ.out (Few.refl _) (Few.cut _ _) fM
        obtain ⟨dd, hdd⟩ : ∃ d : Cl, (⟨c.pool, !c.inf, c.nm, c.sup, c.ifs, (cutAt c.fds kF), es.map (·.1)⟩ : Cl) = d := ⟨_, rfl⟩
        have hv : #[.slice Dp c.pool.length Dkp, .string c.nm, .string c.sup, .bool (!c.inf), .slice Di c.ifs.length Dki, .slice NF (cutAt c.fds kF).length cF, .slice Dm es.length Dkm] = dd.vals (.slice Dp c.pool.length Dkp) (.slice Di c.ifs.length Dki) (.slice NF (cutAt c.fds kF).length cF) (.slice Dm es.length Dkm) := by rw [← hdd]; rfl
        rw [hdd] at hA hK hR2 hN hZ
        have hCd := fun W (e : Ext ((WL.setCell ⟨w3.heap.size, 5, none⟩ (.slice NF (cutAt c.fds kF).length cF)).setCell ⟨w3.heap.size, 3, none⟩ (.bool (!c.inf))) W) => classCheck_any dd _ _ _ _ W (hA.ext e) hR2 (HT.out.ext (XT.trans e)) (HM.out.ext (XT.trans e))
        have hSd := fun W (e : Ext ((WL.setCell ⟨w3.heap.size, 5, none⟩ (.slice NF (cutAt c.fds kF).length cF)).setCell ⟨w3.heap.size, 3, none⟩ (.bool (!c.inf))) W) => classSame_any c dd _ _ _ _ _ _ _ _ W (HAT.out.ext (XT.trans e)) (hA.ext e) HR.out hR2
        have hBd := fun W (e : Ext ((WL.setCell ⟨w3.heap.size, 5, none⟩ (.slice NF (cutAt c.fds kF).length cF)).setCell ⟨w3.heap.size, 3, none⟩ (.bool (!c.inf))) W) => classBack_any W (HT.out.ext (XT.trans e)) (HM.out.ext (XT.trans e)) dd _ _ _ _ (hA.ext e) hR2 hZ
        simp only [chkK_ok hK, hN, ← hv] at hCd hSd hBd
        unfold Cl.vals at hSd
        have HCd := Lib.hid hCd
        have HSd := Lib.hid hSd
        have HBd := Lib.hid hBd
        have HXT := Lib.hid XT
        have HKT := Lib.hid KT
        have HET := Lib.hid ET
        clear hCd hSd hBd hA hK hR2 hN hZ hv hdd fM XT ET KT OCT OFT OMT OST KQ
        go_wp2_with fail
        refine (HCd.out _ (Ext.refl _)).mono ?_
        rintro e w5 ⟨rfl, x5⟩
        clear d0 d1 d2 d3 d4 d5 d6 df wh0 wh1 wh2
        obtain ⟨q0, q1, q2, q3, q4, q5, q6⟩ := cells7 (BX.out w5 (HET.out.trans x5))
        obtain ⟨d0, d1, d2, d3, d4, d5, d6⟩ := cells7 (HKT.out.ext x5)
        have X5 := Lib.hid x5
        clear x5
        go_wp2_with fail
        refine (HSd.out _ X5.out).mono ?_
        rintro e w6 ⟨rfl, x6⟩
        clear q0 q1 q2 q3 q4 q5 q6 d0 d1 d2 d3 d4 d5 d6
        obtain ⟨d0, d1, d2, d3, d4, d5, d6⟩ := cells7 (HKT.out.ext (X5.out.trans x6))
        have X6 := Lib.hid (X5.out.trans x6)
        clear x6
        go_wp2_with fail
        refine (HBd.out _ X6.out).mono ?_
        rintro e w7 ⟨rfl, x7⟩
        go_wp2
        go_ret
        exact ⟨rfl, (HXT.out.trans X6.out).trans x7⟩
  · have hqF : ¬ (0 : Int) < (c.fds.length : Int) := by omega
    by_cases hpM : 0 < es.length
    · have hqM : (0 : Int) < (es.length : Int) := by omega
      obtain ⟨gM, hAM, hBM, hltM⟩ := own_of OM.out hpM
      have hgdM : ¬ gM = w3.heap.size := by omega
      subst hAM
      obtain ⟨kM, hkM, hknM⟩ := bring_nat b hpM
      have HKM := Lib.hid hkM
      have OCP := Lib.hid (OCL.out.ext (Ext.refl _).drew)
      have OFP := Lib.hid (OFL.out.ext (Ext.refl _).drew)
      have OMP := Lib.hid (OML.out.ext (Ext.refl _).drew)
      have OSP := Lib.hid (OSL.out.ext (Ext.refl _).drew)
      have KDP := Lib.hid (KD.out.ext (Ext.refl _).drew)
      have EWP := Lib.hid EW.out.drew
      have X3P := Lib.hid XW.out.drew
      obtain ⟨vM, sAM, sBM, hrowM⟩ := cut_opsM OMP.out kM hknM
      have HROWM := Lib.hid hrowM
      have HFSTM := Lib.hid (OMP.out.firsts kM (by omega))
      have hlenM : (es.take kM).length = kM := by rw [List.length_take]; omega
      have hdrM : (es.drop (kM + 1)).length = es.length - (kM + 1) := List.length_drop
      have hszM : w3.heap.size < WL.drew.heap.size := KDP.out.lt
      clear hkM hrowM
      go_wp2_with fail
      refine (bring_any b es.length _ (by omega) (by omega) (by omega) (by omega)).mono ?_
      rw [HKM.out]
      rintro e _ ⟨rfl, rfl⟩
      go_wp2_with fail
      rw [HWL.out]
      have wrM : IntKind.i64.wrap ((kM : Int) + 1) = (kM : Int) + 1 := by rw [IntKind.wrap_i64]; omega
      obtain ⟨VM, hVM⟩ : ∃ V : Value, ((.slice (some ⟨gM, 0, none⟩) es.length Dkm) : Value) = V := ⟨_, rfl⟩
      rw [hVM] at sAM sBM
      have HVM := Lib.hid hVM
      have f0 : WL.cell? ⟨w3.heap.size, 6, none⟩ = some VM := by rw [← hVM]; exact KDP.out.cell 6
      clear hVM d0 d1 d2 d3 d4 d5 d6 df wh0 wh1 wh2
      go_still_tail 9, (by kernel_rfl)
      change wpList _ _ _ _ _ WL.drew
      go_loud (refine Shp.wpList_app ShM _ rfl _ _ w2.heap.size 25 _ 136 rfl Tryz.underlying25 infoKM rfl (by omega) (.slice (some ⟨gM, 0, none⟩) kM Dkm) (es.take kM) rfl HFSTM.out vM (es.drop (kM + 1)) rfl HROWM.out (fun e he => OMP.out.2 e (List.mem_of_mem_drop he)) (by rw [hlenM, hdrM]; omega) (by omega) ?_)
      intro uM wM oM grM _
      have oM' : ShM.Own w2.heap.size wM uM (cutAt es kM) := oM
      obtain ⟨NM, cM, rfl, -⟩ := oM'.slice
      have KEM := Lib.hid (KDP.out.keptO grM (fun e => by injection e with e; exact hgdM e))
      have f1 : wM.cell? ⟨w3.heap.size, 6, none⟩ = some VM := HVM.out ▸ KEM.out.cell 6
      have f2 := KEM.out.free
      have hlowM := HFSTM.out.low
      have OCL := Lib.hid (OCP.out.kept grM (OCP.out.apart HFSTM.out (by decide)) (fun _ _ h => h))
      have OFL := Lib.hid (OFP.out.kept grM (OFP.out.apart HFSTM.out (by decide)) (fun _ _ h => h))
      have OML := Lib.hid oM'
      have OSL := Lib.hid (OSP.out.kept grM (OSP.out.apart HFSTM.out (by decide)) (fun _ _ h => h))
      have KD := KEM
      have EW := Lib.hid (EWP.out.grown grM (fun g e => by have := hlowM g e; simp; omega))
      have XW := Lib.hid (X3P.out.grown grM (fun g e => by have := hlowM g e; omega))
      clear f0 f1 f2 wrM KEM sAM sBM oM oM' hlowM hlenM hdrM hszM OCP OFP OMP OSP KDP EWP X3P grM
      obtain ⟨WL, hWL⟩ : ∃ W, wM = W := ⟨_, rfl⟩
      rw [hWL] at OCL OFL OML OSL KD EW XW ⊢
      clear hWL
      obtain ⟨d0, d1, d2, d3, d4, d5, d6⟩ := cells7 KD.out
      have df := KD.out.free
      obtain ⟨wh0, wh1, wh2⟩ := cells3 (BW.out _ EW.out)
      by_cases hpS : 0 < c.ifs.length
      · have hqS : (0 : Int) < (c.ifs.length : Int) := by omega
        obtain ⟨gS, hAS, hBS, hltS⟩ := own_of OS.out hpS
        have hgdS : ¬ gS = w3.heap.size := by omega
        subst hAS
        obtain ⟨kS, hkS, hknS⟩ := bring_nat g3 hpS
        have HKS := Lib.hid hkS
        have OCP := Lib.hid ((OCL.out.setT KD.out (by decide) 6 (.slice NM (cutAt es kM).length cM) (fun _ h => h)).ext (Ext.refl _).drew)
        have OFP := Lib.hid ((OFL.out.setT KD.out (by decide) 6 (.slice NM (cutAt es kM).length cM) (fun _ h => h)).ext (Ext.refl _).drew)
        have OSP := Lib.hid ((OSL.out.setT KD.out (by decide) 6 (.slice NM (cutAt es kM).length cM) (fun _ h => h)).ext (Ext.refl _).drew)
        have OMP := Lib.hid ((OML.out.setT KD.out (by decide) 6 (.slice NM (cutAt es kM).length cM) (fun _ h => h.setC KD.out 6 (.slice NM (cutAt es kM).length cM))).ext (Ext.refl _).drew)
        have KDP : Hid (BK (WL.setCell ⟨w3.heap.size, 6, none⟩ (.slice NM (cutAt es kM).length cM)).drew w3.heap.size #[.slice Dp c.pool.length Dkp, .string c.nm, .string c.sup, .bool c.inf, .slice (some ⟨gS, 0, none⟩) c.ifs.length Dki, .slice Df c.fds.length Dkf, .slice NM (cutAt es kM).length cM] 27) := Lib.hid ((show BK (WL.setCell ⟨w3.heap.size, 6, none⟩ (.slice NM (cutAt es kM).length cM)) w3.heap.size #[.slice Dp c.pool.length Dkp, .string c.nm, .string c.sup, .bool c.inf, .slice (some ⟨gS, 0, none⟩) c.ifs.length Dki, .slice Df c.fds.length Dkf, .slice NM (cutAt es kM).length cM] 27 from KD.out.put 6 (.slice NM (cutAt es kM).length cM)).ext (Ext.refl _).drew)
        have EWP := Lib.hid (Ext.drew (EW.out.set_ (p := ⟨w3.heap.size, 6, none⟩) (show _ ≤ w3.heap.size by simp; omega) (.slice NM (cutAt es kM).length cM)))
        have X3P := Lib.hid (Ext.drew (XW.out.set_ (p := ⟨w3.heap.size, 6, none⟩) (show _ ≤ w3.heap.size by omega) (.slice NM (cutAt es kM).length cM)))
        obtain ⟨vS, sAS, sBS, hrowS⟩ := cut_opsS OSP.out kS hknS
        have HROWS := Lib.hid hrowS
        have HFSTS := Lib.hid (OSP.out.firsts kS (by omega))
        have hlenS : (c.ifs.take kS).length = kS := by rw [List.length_take]; omega
        have hdrS : (c.ifs.drop (kS + 1)).length = c.ifs.length - (kS + 1) := List.length_drop
        have hszS : w3.heap.size < (WL.setCell ⟨w3.heap.size, 6, none⟩ (.slice NM (cutAt es kM).length cM)).drew.heap.size := KDP.out.lt
        clear hkS hrowS
        go_wp2_with fail
        refine (bring_any g3 c.ifs.length _ (by omega) (by omega) (by omega) (by omega)).mono ?_
        rw [HKS.out]
        rintro e _ ⟨rfl, rfl⟩
        go_wp2_with fail
        obtain ⟨WQ, hWQ⟩ : ∃ W, (WL.setCell ⟨w3.heap.size, 6, none⟩ (.slice NM (cutAt es kM).length cM)) = W := ⟨_, rfl⟩
        rw [hWQ] at OCP OFP OMP OSP KDP EWP X3P HROWS HFSTS hszS ⊢
        clear hWQ
        have wrS : IntKind.i64.wrap ((kS : Int) + 1) = (kS : Int) + 1 := by rw [IntKind.wrap_i64]; omega
        obtain ⟨VS, hVS⟩ : ∃ V : Value, ((.slice (some ⟨gS, 0, none⟩) c.ifs.length Dki) : Value) = V := ⟨_, rfl⟩
        rw [hVS] at sAS sBS
        have HVS := Lib.hid hVS
        have f0 : WQ.cell? ⟨w3.heap.size, 4, none⟩ = some VS := by rw [← hVS]; exact KDP.out.cell 4
        clear hVS d0 d1 d2 d3 d4 d5 d6 df wh0 wh1 wh2
        go_still_tail 9, (by kernel_rfl)
        change wpList _ _ _ _ _ WQ.drew
        go_loud (refine Shp.wpList_app ShS _ rfl _ _ w2.heap.size 23 _ 16 rfl Tryz.underlying23 infoKS rfl (by omega) (.slice (some ⟨gS, 0, none⟩) kS Dki) (c.ifs.take kS) rfl HFSTS.out vS (c.ifs.drop (kS + 1)) rfl HROWS.out (fun e he => OSP.out.2 e (List.mem_of_mem_drop he)) (by rw [hlenS, hdrS]; omega) (by omega) ?_)
        intro uS wS oS grS _
        have oS' : ShS.Own w2.heap.size wS uS (cutAt c.ifs kS) := oS
        obtain ⟨NS, cS, rfl, -⟩ := oS'.slice
        have KES := Lib.hid (KDP.out.keptO grS (fun e => by injection e with e; exact hgdS e))
        have f1 : wS.cell? ⟨w3.heap.size, 4, none⟩ = some VS := HVS.out ▸ KES.out.cell 4
        have f2 := KES.out.free
        have hlowS := HFSTS.out.low
        have OCL := Lib.hid (OCP.out.kept grS (OCP.out.apart HFSTS.out (by decide)) (fun _ _ h => h))
        have OFL := Lib.hid (OFP.out.kept grS (OFP.out.apart HFSTS.out (by decide)) (fun _ _ h => h))
        have OML := Lib.hid (OMP.out.kept grS (OMP.out.apart HFSTS.out (by decide)) (fun e _ h => NestMO.kept h grS fun g e => by obtain ⟨c', z', e'⟩ := HFSTS.out.typed g e; exact ⟨c', _, z', e', by decide, by decide, by decide⟩))
        have OSL := Lib.hid oS'
        have KD := KES
        have EW := Lib.hid (EWP.out.grown grS (fun g e => by have := hlowS g e; simp; omega))
        have XW := Lib.hid (X3P.out.grown grS (fun g e => by have := hlowS g e; omega))
        clear f0 f1 f2 wrS KES sAS sBS oS oS' hlowS hlenS hdrS hszS OCP OFP OMP OSP KDP EWP X3P grS
        obtain ⟨WL, hWL⟩ : ∃ W, wS = W := ⟨_, rfl⟩
        rw [hWL] at OCL OFL OML OSL KD EW XW ⊢
        clear hWL
        obtain ⟨d0, d1, d2, d3, d4, d5, d6⟩ := cells7 KD.out
        have df := KD.out.free
        obtain ⟨wh0, wh1, wh2⟩ := cells3 (BW.out _ EW.out)
        have KQ : BK (WL.setCell ⟨w3.heap.size, 4, none⟩ (.slice NS (cutAt c.ifs kS).length cS)) w3.heap.size #[.slice Dp c.pool.length Dkp, .string c.nm, .string c.sup, .bool c.inf, .slice NS (cutAt c.ifs kS).length cS, .slice Df c.fds.length Dkf, .slice NM (cutAt es kM).length cM] 27 := KD.out.put 4 (.slice NS (cutAt c.ifs kS).length cS)
        have OCT := ((OCL.out.setT KD.out (by decide) 4 (.slice NS (cutAt c.ifs kS).length cS) (fun _ h => h)).setT KQ (by decide) 3 (.bool (!c.inf)) (fun _ h => h))
        have OFT := ((OFL.out.setT KD.out (by decide) 4 (.slice NS (cutAt c.ifs kS).length cS) (fun _ h => h)).setT KQ (by decide) 3 (.bool (!c.inf)) (fun _ h => h))
        have OMT := ((OML.out.setT KD.out (by decide) 4 (.slice NS (cutAt c.ifs kS).length cS) (fun _ h => h.setC KD.out 4 (.slice NS (cutAt c.ifs kS).length cS))).setT KQ (by decide) 3 (.bool (!c.inf)) (fun _ h => h.setC KQ 3 (.bool (!c.inf))))
        have OST := ((OSL.out.setT KD.out (by decide) 4 (.slice NS (cutAt c.ifs kS).length cS) (fun _ h => h)).setT KQ (by decide) 3 (.bool (!c.inf)) (fun _ h => h))
        have KT : BK ((WL.setCell ⟨w3.heap.size, 4, none⟩ (.slice NS (cutAt c.ifs kS).length cS)).setCell ⟨w3.heap.size, 3, none⟩ (.bool (!c.inf))) w3.heap.size #[.slice Dp c.pool.length Dkp, .string c.nm, .string c.sup, .bool (!c.inf), .slice NS (cutAt c.ifs kS).length cS, .slice Df c.fds.length Dkf, .slice NM (cutAt es kM).length cM] 27 := KQ.put 3 (.bool (!c.inf))
        have ET := (EW.out.set_ (p := ⟨w3.heap.size, 4, none⟩) (show _ ≤ w3.heap.size by simp; omega) (.slice NS (cutAt c.ifs kS).length cS)).set_ (p := ⟨w3.heap.size, 3, none⟩) (show _ ≤ w3.heap.size by simp; omega) (.bool (!c.inf))
        have XT := (XW.out.set_ (p := ⟨w3.heap.size, 4, none⟩) (show _ ≤ w3.heap.size by omega) (.slice NS (cutAt c.ifs kS).length cS)).set_ (p := ⟨w3.heap.size, 3, none⟩) (show _ ≤ w3.heap.size by omega) (.bool (!c.inf))
        have fM : Few ((cutAt es kM).map (·.1)) c.mts := by rw [cutAt_map, HES.out]; exact Few.cut _ _
        obtain ⟨hA, hK, hR2, hN, hZ⟩ := less_parts (I := (cutAt c.ifs kS)) (F := c.fds) (E := (cutAt es kM)) OCT.row OST.row OFT.row OMT.row HOK.out HR.out HPZ.out (Few.cut _ _) (Few.refl _) fM
        obtain ⟨dd, hdd⟩ : ∃ d : Cl, (⟨c.pool, !c.inf, c.nm, c.sup, (cutAt c.ifs kS), c.fds, (cutAt es kM).map (·.1)⟩ : Cl) = d := ⟨_, rfl⟩
        have hv : #[.slice Dp c.pool.length Dkp, .string c.nm, .string c.sup, .bool (!c.inf), .slice NS (cutAt c.ifs kS).length cS, .slice Df c.fds.length Dkf, .slice NM (cutAt es kM).length cM] = dd.vals (.slice Dp c.pool.length Dkp) (.slice NS (cutAt c.ifs kS).length cS) (.slice Df c.fds.length Dkf) (.slice NM (cutAt es kM).length cM) := by rw [← hdd]; rfl
        rw [hdd] at hA hK hR2 hN hZ
        have hCd := fun W (e : Ext ((WL.setCell ⟨w3.heap.size, 4, none⟩ (.slice NS (cutAt c.ifs kS).length cS)).setCell ⟨w3.heap.size, 3, none⟩ (.bool (!c.inf))) W) => classCheck_any dd _ _ _ _ W (hA.ext e) hR2 (HT.out.ext (XT.trans e)) (HM.out.ext (XT.trans e))
        have hSd := fun W (e : Ext ((WL.setCell ⟨w3.heap.size, 4, none⟩ (.slice NS (cutAt c.ifs kS).length cS)).setCell ⟨w3.heap.size, 3, none⟩ (.bool (!c.inf))) W) => classSame_any c dd _ _ _ _ _ _ _ _ W (HAT.out.ext (XT.trans e)) (hA.ext e) HR.out hR2
        have hBd := fun W (e : Ext ((WL.setCell ⟨w3.heap.size, 4, none⟩ (.slice NS (cutAt c.ifs kS).length cS)).setCell ⟨w3.heap.size, 3, none⟩ (.bool (!c.inf))) W) => classBack_any W (HT.out.ext (XT.trans e)) (HM.out.ext (XT.trans e)) dd _ _ _ _ (hA.ext e) hR2 hZ
        simp only [chkK_ok hK, hN, ← hv] at hCd hSd hBd
        unfold Cl.vals at hSd
        have HCd := Lib.hid hCd
        have HSd := Lib.hid hSd
        have HBd := Lib.hid hBd
        have HXT := Lib.hid XT
        have HKT := Lib.hid KT
        have HET := Lib.hid ET
        clear hCd hSd hBd hA hK hR2 hN hZ hv hdd fM XT ET KT OCT OFT OMT OST KQ
        go_wp2_with fail
        refine (HCd.out _ (Ext.refl _)).mono ?_
        rintro e w5 ⟨rfl, x5⟩
        clear d0 d1 d2 d3 d4 d5 d6 df wh0 wh1 wh2
        obtain ⟨q0, q1, q2, q3, q4, q5, q6⟩ := cells7 (BX.out w5 (HET.out.trans x5))
        obtain ⟨d0, d1, d2, d3, d4, d5, d6⟩ := cells7 (HKT.out.ext x5)
        have X5 := Lib.hid x5
        clear x5
        go_wp2_with fail
        refine (HSd.out _ X5.out).mono ?_
        rintro e w6 ⟨rfl, x6⟩
        clear q0 q1 q2 q3 q4 q5 q6 d0 d1 d2 d3 d4 d5 d6
        obtain ⟨d0, d1, d2, d3, d4, d5, d6⟩ := cells7 (HKT.out.ext (X5.out.trans x6))
        have X6 := Lib.hid (X5.out.trans x6)
        clear x6
        go_wp2_with fail
        refine (HBd.out _ X6.out).mono ?_
        rintro e w7 ⟨rfl, x7⟩
        go_wp2
        go_ret
        exact ⟨rfl, (HXT.out.trans X6.out).trans x7⟩
      · have hqS : ¬ (0 : Int) < (c.ifs.length : Int) := by omega
        have KQ : BK (WL.setCell ⟨w3.heap.size, 6, none⟩ (.slice NM (cutAt es kM).length cM)) w3.heap.size #[.slice Dp c.pool.length Dkp, .string c.nm, .string c.sup, .bool c.inf, .slice Di c.ifs.length Dki, .slice Df c.fds.length Dkf, .slice NM (cutAt es kM).length cM] 27 := KD.out.put 6 (.slice NM (cutAt es kM).length cM)
        have OCT := ((OCL.out.setT KD.out (by decide) 6 (.slice NM (cutAt es kM).length cM) (fun _ h => h)).setT KQ (by decide) 3 (.bool (!c.inf)) (fun _ h => h))
        have OFT := ((OFL.out.setT KD.out (by decide) 6 (.slice NM (cutAt es kM).length cM) (fun _ h => h)).setT KQ (by decide) 3 (.bool (!c.inf)) (fun _ h => h))
        have OMT := ((OML.out.setT KD.out (by decide) 6 (.slice NM (cutAt es kM).length cM) (fun _ h => h.setC KD.out 6 (.slice NM (cutAt es kM).length cM))).setT KQ (by decide) 3 (.bool (!c.inf)) (fun _ h => h.setC KQ 3 (.bool (!c.inf))))
        have OST := ((OSL.out.setT KD.out (by decide) 6 (.slice NM (cutAt es kM).length cM) (fun _ h => h)).setT KQ (by decide) 3 (.bool (!c.inf)) (fun _ h => h))
        have KT : BK ((WL.setCell ⟨w3.heap.size, 6, none⟩ (.slice NM (cutAt es kM).length cM)).setCell ⟨w3.heap.size, 3, none⟩ (.bool (!c.inf))) w3.heap.size #[.slice Dp c.pool.length Dkp, .string c.nm, .string c.sup, .bool (!c.inf), .slice Di c.ifs.length Dki, .slice Df c.fds.length Dkf, .slice NM (cutAt es kM).length cM] 27 := KQ.put 3 (.bool (!c.inf))
        have ET := (EW.out.set_ (p := ⟨w3.heap.size, 6, none⟩) (show _ ≤ w3.heap.size by simp; omega) (.slice NM (cutAt es kM).length cM)).set_ (p := ⟨w3.heap.size, 3, none⟩) (show _ ≤ w3.heap.size by simp; omega) (.bool (!c.inf))
        have XT := (XW.out.set_ (p := ⟨w3.heap.size, 6, none⟩) (show _ ≤ w3.heap.size by omega) (.slice NM (cutAt es kM).length cM)).set_ (p := ⟨w3.heap.size, 3, none⟩) (show _ ≤ w3.heap.size by omega) (.bool (!c.inf))
        have fM : Few ((cutAt es kM).map (·.1)) c.mts := by rw [cutAt_map, HES.out]; exact Few.cut _ _
        obtain ⟨hA, hK, hR2, hN, hZ⟩ := less_parts (I := c.ifs) (F := c.fds) (E := (cutAt es kM)) OCT.row OST.row OFT.row OMT.row HOK.out HR.out HPZ.out (Few.refl _) (Few.refl _) fM
        obtain ⟨dd, hdd⟩ : ∃ d : Cl, (⟨c.pool, !c.inf, c.nm, c.sup, c.ifs, c.fds, (cutAt es kM).map (·.1)⟩ : Cl) = d := ⟨_, rfl⟩
        have hv : #[.slice Dp c.pool.length Dkp, .string c.nm, .string c.sup, .bool (!c.inf), .slice Di c.ifs.length Dki, .slice Df c.fds.length Dkf, .slice NM (cutAt es kM).length cM] = dd.vals (.slice Dp c.pool.length Dkp) (.slice Di c.ifs.length Dki) (.slice Df c.fds.length Dkf) (.slice NM (cutAt es kM).length cM) := by rw [← hdd]; rfl
        rw [hdd] at hA hK hR2 hN hZ
        have hCd := fun W (e : Ext ((WL.setCell ⟨w3.heap.size, 6, none⟩ (.slice NM (cutAt es kM).length cM)).setCell ⟨w3.heap.size, 3, none⟩ (.bool (!c.inf))) W) => classCheck_any dd _ _ _ _ W (hA.ext e) hR2 (HT.out.ext (XT.trans e)) (HM.out.ext (XT.trans e))
        have hSd := fun W (e : Ext ((WL.setCell ⟨w3.heap.size, 6, none⟩ (.slice NM (cutAt es kM).length cM)).setCell ⟨w3.heap.size, 3, none⟩ (.bool (!c.inf))) W) => classSame_any c dd _ _ _ _ _ _ _ _ W (HAT.out.ext (XT.trans e)) (hA.ext e) HR.out hR2
        have hBd := fun W (e : Ext ((WL.setCell ⟨w3.heap.size, 6, none⟩ (.slice NM (cutAt es kM).length cM)).setCell ⟨w3.heap.size, 3, none⟩ (.bool (!c.inf))) W) => classBack_any W (HT.out.ext (XT.trans e)) (HM.out.ext (XT.trans e)) dd _ _ _ _ (hA.ext e) hR2 hZ
        simp only [chkK_ok hK, hN, ← hv] at hCd hSd hBd
        unfold Cl.vals at hSd
        have HCd := Lib.hid hCd
        have HSd := Lib.hid hSd
        have HBd := Lib.hid hBd
        have HXT := Lib.hid XT
        have HKT := Lib.hid KT
        have HET := Lib.hid ET
        clear hCd hSd hBd hA hK hR2 hN hZ hv hdd fM XT ET KT OCT OFT OMT OST KQ
        go_wp2_with fail
        refine (HCd.out _ (Ext.refl _)).mono ?_
        rintro e w5 ⟨rfl, x5⟩
        clear d0 d1 d2 d3 d4 d5 d6 df wh0 wh1 wh2
        obtain ⟨q0, q1, q2, q3, q4, q5, q6⟩ := cells7 (BX.out w5 (HET.out.trans x5))
        obtain ⟨d0, d1, d2, d3, d4, d5, d6⟩ := cells7 (HKT.out.ext x5)
        have X5 := Lib.hid x5
        clear x5
        go_wp2_with fail
        refine (HSd.out _ X5.out).mono ?_
        rintro e w6 ⟨rfl, x6⟩
        clear q0 q1 q2 q3 q4 q5 q6 d0 d1 d2 d3 d4 d5 d6
        obtain ⟨d0, d1, d2, d3, d4, d5, d6⟩ := cells7 (HKT.out.ext (X5.out.trans x6))
        have X6 := Lib.hid (X5.out.trans x6)
        clear x6
        go_wp2_with fail
        refine (HBd.out _ X6.out).mono ?_
        rintro e w7 ⟨rfl, x7⟩
        go_wp2
        go_ret
        exact ⟨rfl, (HXT.out.trans X6.out).trans x7⟩
    · have hqM : ¬ (0 : Int) < (es.length : Int) := by omega
      by_cases hpS : 0 < c.ifs.length
      · have hqS : (0 : Int) < (c.ifs.length : Int) := by omega
        obtain ⟨gS, hAS, hBS, hltS⟩ := own_of OS.out hpS
        have hgdS : ¬ gS = w3.heap.size := by omega
        subst hAS
        obtain ⟨kS, hkS, hknS⟩ := bring_nat g3 hpS
        have HKS := Lib.hid hkS
        have OCP := Lib.hid (OCL.out.ext (Ext.refl _).drew)
        have OFP := Lib.hid (OFL.out.ext (Ext.refl _).drew)
        have OMP := Lib.hid (OML.out.ext (Ext.refl _).drew)
        have OSP := Lib.hid (OSL.out.ext (Ext.refl _).drew)
        have KDP := Lib.hid (KD.out.ext (Ext.refl _).drew)
        have EWP := Lib.hid EW.out.drew
        have X3P := Lib.hid XW.out.drew
        obtain ⟨vS, sAS, sBS, hrowS⟩ := cut_opsS OSP.out kS hknS
        have HROWS := Lib.hid hrowS
        have HFSTS := Lib.hid (OSP.out.firsts kS (by omega))
        have hlenS : (c.ifs.take kS).length = kS := by rw [List.length_take]; omega
        have hdrS : (c.ifs.drop (kS + 1)).length = c.ifs.length - (kS + 1) := List.length_drop
        have hszS : w3.heap.size < WL.drew.heap.size := KDP.out.lt
        clear hkS hrowS
        go_wp2_with fail
        refine (bring_any g3 c.ifs.length _ (by omega) (by omega) (by omega) (by omega)).mono ?_
        rw [HKS.out]
        rintro e _ ⟨rfl, rfl⟩
        go_wp2_with fail
        rw [HWL.out]
        have wrS : IntKind.i64.wrap ((kS : Int) + 1) = (kS : Int) + 1 := by rw [IntKind.wrap_i64]; omega
        obtain ⟨VS, hVS⟩ : ∃ V : Value, ((.slice (some ⟨gS, 0, none⟩) c.ifs.length Dki) : Value) = V := ⟨_, rfl⟩
        rw [hVS] at sAS sBS
        have HVS := Lib.hid hVS
        have f0 : WL.cell? ⟨w3.heap.size, 4, none⟩ = some VS := by rw [← hVS]; exact KDP.out.cell 4
        clear hVS d0 d1 d2 d3 d4 d5 d6 df wh0 wh1 wh2
        go_still_tail 9, (by kernel_rfl)
        change wpList _ _ _ _ _ WL.drew
        go_loud (refine Shp.wpList_app ShS _ rfl _ _ w2.heap.size 23 _ 16 rfl Tryz.underlying23 infoKS rfl (by omega) (.slice (some ⟨gS, 0, none⟩) kS Dki) (c.ifs.take kS) rfl HFSTS.out vS (c.ifs.drop (kS + 1)) rfl HROWS.out (fun e he => OSP.out.2 e (List.mem_of_mem_drop he)) (by rw [hlenS, hdrS]; omega) (by omega) ?_)
        intro uS wS oS grS _
        have oS' : ShS.Own w2.heap.size wS uS (cutAt c.ifs kS) := oS
        obtain ⟨NS, cS, rfl, -⟩ := oS'.slice
        have KES := Lib.hid (KDP.out.keptO grS (fun e => by injection e with e; exact hgdS e))
        have f1 : wS.cell? ⟨w3.heap.size, 4, none⟩ = some VS := HVS.out ▸ KES.out.cell 4
        have f2 := KES.out.free
        have hlowS := HFSTS.out.low
        have OCL := Lib.hid (OCP.out.kept grS (OCP.out.apart HFSTS.out (by decide)) (fun _ _ h => h))
        have OFL := Lib.hid (OFP.out.kept grS (OFP.out.apart HFSTS.out (by decide)) (fun _ _ h => h))
        have OML := Lib.hid (OMP.out.kept grS (OMP.out.apart HFSTS.out (by decide)) (fun e _ h => NestMO.kept h grS fun g e => by obtain ⟨c', z', e'⟩ := HFSTS.out.typed g e; exact ⟨c', _, z', e', by decide, by decide, by decide⟩))
        have OSL := Lib.hid oS'
        have KD := KES
        have EW := Lib.hid (EWP.out.grown grS (fun g e => by have := hlowS g e; simp; omega))
        have XW := Lib.hid (X3P.out.grown grS (fun g e => by have := hlowS g e; omega))
        clear f0 f1 f2 wrS KES sAS sBS oS oS' hlowS hlenS hdrS hszS OCP OFP OMP OSP KDP EWP X3P grS
        obtain ⟨WL, hWL⟩ : ∃ W, wS = W := ⟨_, rfl⟩
        rw [hWL] at OCL OFL OML OSL KD EW XW ⊢
        clear hWL
        obtain ⟨d0, d1, d2, d3, d4, d5, d6⟩ := cells7 KD.out
        have df := KD.out.free
        obtain ⟨wh0, wh1, wh2⟩ := cells3 (BW.out _ EW.out)
        have KQ : BK (WL.setCell ⟨w3.heap.size, 4, none⟩ (.slice NS (cutAt c.ifs kS).length cS)) w3.heap.size #[.slice Dp c.pool.length Dkp, .string c.nm, .string c.sup, .bool c.inf, .slice NS (cutAt c.ifs kS).length cS, .slice Df c.fds.length Dkf, .slice Dm es.length Dkm] 27 := KD.out.put 4 (.slice NS (cutAt c.ifs kS).length cS)
        have OCT := ((OCL.out.setT KD.out (by decide) 4 (.slice NS (cutAt c.ifs kS).length cS) (fun _ h => h)).setT KQ (by decide) 3 (.bool (!c.inf)) (fun _ h => h))
        have OFT := ((OFL.out.setT KD.out (by decide) 4 (.slice NS (cutAt c.ifs kS).length cS) (fun _ h => h)).setT KQ (by decide) 3 (.bool (!c.inf)) (fun _ h => h))
        have OMT := ((OML.out.setT KD.out (by decide) 4 (.slice NS (cutAt c.ifs kS).length cS) (fun _ h => h.setC KD.out 4 (.slice NS (cutAt c.ifs kS).length cS))).setT KQ (by decide) 3 (.bool (!c.inf)) (fun _ h => h.setC KQ 3 (.bool (!c.inf))))
        have OST := ((OSL.out.setT KD.out (by decide) 4 (.slice NS (cutAt c.ifs kS).length cS) (fun _ h => h)).setT KQ (by decide) 3 (.bool (!c.inf)) (fun _ h => h))
        have KT : BK ((WL.setCell ⟨w3.heap.size, 4, none⟩ (.slice NS (cutAt c.ifs kS).length cS)).setCell ⟨w3.heap.size, 3, none⟩ (.bool (!c.inf))) w3.heap.size #[.slice Dp c.pool.length Dkp, .string c.nm, .string c.sup, .bool (!c.inf), .slice NS (cutAt c.ifs kS).length cS, .slice Df c.fds.length Dkf, .slice Dm es.length Dkm] 27 := KQ.put 3 (.bool (!c.inf))
        have ET := (EW.out.set_ (p := ⟨w3.heap.size, 4, none⟩) (show _ ≤ w3.heap.size by simp; omega) (.slice NS (cutAt c.ifs kS).length cS)).set_ (p := ⟨w3.heap.size, 3, none⟩) (show _ ≤ w3.heap.size by simp; omega) (.bool (!c.inf))
        have XT := (XW.out.set_ (p := ⟨w3.heap.size, 4, none⟩) (show _ ≤ w3.heap.size by omega) (.slice NS (cutAt c.ifs kS).length cS)).set_ (p := ⟨w3.heap.size, 3, none⟩) (show _ ≤ w3.heap.size by omega) (.bool (!c.inf))
        have fM : Few (es.map (·.1)) c.mts := by rw [HES.out]; exact Few.refl _
        obtain ⟨hA, hK, hR2, hN, hZ⟩ := less_parts (I := (cutAt c.ifs kS)) (F := c.fds) (E := es) OCT.row OST.row OFT.row OMT.row HOK.out HR.out HPZ.out (Few.cut _ _) (Few.refl _) fM
        obtain ⟨dd, hdd⟩ : ∃ d : Cl, (⟨c.pool, !c.inf, c.nm, c.sup, (cutAt c.ifs kS), c.fds, es.map (·.1)⟩ : Cl) = d := ⟨_, rfl⟩
        have hv : #[.slice Dp c.pool.length Dkp, .string c.nm, .string c.sup, .bool (!c.inf), .slice NS (cutAt c.ifs kS).length cS, .slice Df c.fds.length Dkf, .slice Dm es.length Dkm] = dd.vals (.slice Dp c.pool.length Dkp) (.slice NS (cutAt c.ifs kS).length cS) (.slice Df c.fds.length Dkf) (.slice Dm es.length Dkm) := by rw [← hdd]; rfl
        rw [hdd] at hA hK hR2 hN hZ
        have hCd := fun W (e : Ext ((WL.setCell ⟨w3.heap.size, 4, none⟩ (.slice NS (cutAt c.ifs kS).length cS)).setCell ⟨w3.heap.size, 3, none⟩ (.bool (!c.inf))) W) => classCheck_any dd _ _ _ _ W (hA.ext e) hR2 (HT.out.ext (XT.trans e)) (HM.out.ext (XT.trans e))
        have hSd := fun W (e : Ext ((WL.setCell ⟨w3.heap.size, 4, none⟩ (.slice NS (cutAt c.ifs kS).length cS)).setCell ⟨w3.heap.size, 3, none⟩ (.bool (!c.inf))) W) => classSame_any c dd _ _ _ _ _ _ _ _ W (HAT.out.ext (XT.trans e)) (hA.ext e) HR.out hR2
        have hBd := fun W (e : Ext ((WL.setCell ⟨w3.heap.size, 4, none⟩ (.slice NS (cutAt c.ifs kS).length cS)).setCell ⟨w3.heap.size, 3, none⟩ (.bool (!c.inf))) W) => classBack_any W (HT.out.ext (XT.trans e)) (HM.out.ext (XT.trans e)) dd _ _ _ _ (hA.ext e) hR2 hZ
        simp only [chkK_ok hK, hN, ← hv] at hCd hSd hBd
        unfold Cl.vals at hSd
        have HCd := Lib.hid hCd
        have HSd := Lib.hid hSd
        have HBd := Lib.hid hBd
        have HXT := Lib.hid XT
        have HKT := Lib.hid KT
        have HET := Lib.hid ET
        clear hCd hSd hBd hA hK hR2 hN hZ hv hdd fM XT ET KT OCT OFT OMT OST KQ
        go_wp2_with fail
        refine (HCd.out _ (Ext.refl _)).mono ?_
        rintro e w5 ⟨rfl, x5⟩
        clear d0 d1 d2 d3 d4 d5 d6 df wh0 wh1 wh2
        obtain ⟨q0, q1, q2, q3, q4, q5, q6⟩ := cells7 (BX.out w5 (HET.out.trans x5))
        obtain ⟨d0, d1, d2, d3, d4, d5, d6⟩ := cells7 (HKT.out.ext x5)
        have X5 := Lib.hid x5
        clear x5
        go_wp2_with fail
        refine (HSd.out _ X5.out).mono ?_
        rintro e w6 ⟨rfl, x6⟩
        clear q0 q1 q2 q3 q4 q5 q6 d0 d1 d2 d3 d4 d5 d6
        obtain ⟨d0, d1, d2, d3, d4, d5, d6⟩ := cells7 (HKT.out.ext (X5.out.trans x6))
        have X6 := Lib.hid (X5.out.trans x6)
        clear x6
        go_wp2_with fail
        refine (HBd.out _ X6.out).mono ?_
        rintro e w7 ⟨rfl, x7⟩
        go_wp2
        go_ret
        exact ⟨rfl, (HXT.out.trans X6.out).trans x7⟩
      · have hqS : ¬ (0 : Int) < (c.ifs.length : Int) := by omega
        have OCT := (OCL.out.setT KD.out (by decide) 3 (.bool (!c.inf)) (fun _ h => h))
        have OFT := (OFL.out.setT KD.out (by decide) 3 (.bool (!c.inf)) (fun _ h => h))
        have OMT := (OML.out.setT KD.out (by decide) 3 (.bool (!c.inf)) (fun _ h => h.setC KD.out 3 (.bool (!c.inf))))
        have OST := (OSL.out.setT KD.out (by decide) 3 (.bool (!c.inf)) (fun _ h => h))
        have KT : BK (WL.setCell ⟨w3.heap.size, 3, none⟩ (.bool (!c.inf))) w3.heap.size #[.slice Dp c.pool.length Dkp, .string c.nm, .string c.sup, .bool (!c.inf), .slice Di c.ifs.length Dki, .slice Df c.fds.length Dkf, .slice Dm es.length Dkm] 27 := KD.out.put 3 (.bool (!c.inf))
        have ET := EW.out.set_ (p := ⟨w3.heap.size, 3, none⟩) (show _ ≤ w3.heap.size by simp; omega) (.bool (!c.inf))
        have XT := XW.out.set_ (p := ⟨w3.heap.size, 3, none⟩) (show _ ≤ w3.heap.size by omega) (.bool (!c.inf))
        have fM : Few (es.map (·.1)) c.mts := by rw [HES.out]; exact Few.refl _
        obtain ⟨hA, hK, hR2, hN, hZ⟩ := less_parts (I := c.ifs) (F := c.fds) (E := es) OCT.row OST.row OFT.row OMT.row HOK.out HR.out HPZ.out (Few.refl _) (Few.refl _) fM
        obtain ⟨dd, hdd⟩ : ∃ d : Cl, (⟨c.pool, !c.inf, c.nm, c.sup, c.ifs, c.fds, es.map (·.1)⟩ : Cl) = d := ⟨_, rfl⟩
        have hv : #[.slice Dp c.pool.length Dkp, .string c.nm, .string c.sup, .bool (!c.inf), .slice Di c.ifs.length Dki, .slice Df c.fds.length Dkf, .slice Dm es.length Dkm] = dd.vals (.slice Dp c.pool.length Dkp) (.slice Di c.ifs.length Dki) (.slice Df c.fds.length Dkf) (.slice Dm es.length Dkm) := by rw [← hdd]; rfl
        rw [hdd] at hA hK hR2 hN hZ
        have hCd := fun W (e : Ext (WL.setCell ⟨w3.heap.size, 3, none⟩ (.bool (!c.inf))) W) => classCheck_any dd _ _ _ _ W (hA.ext e) hR2 (HT.out.ext (XT.trans e)) (HM.out.ext (XT.trans e))
        have hSd := fun W (e : Ext (WL.setCell ⟨w3.heap.size, 3, none⟩ (.bool (!c.inf))) W) => classSame_any c dd _ _ _ _ _ _ _ _ W (HAT.out.ext (XT.trans e)) (hA.ext e) HR.out hR2
        have hBd := fun W (e : Ext (WL.setCell ⟨w3.heap.size, 3, none⟩ (.bool (!c.inf))) W) => classBack_any W (HT.out.ext (XT.trans e)) (HM.out.ext (XT.trans e)) dd _ _ _ _ (hA.ext e) hR2 hZ
        simp only [chkK_ok hK, hN, ← hv] at hCd hSd hBd
        unfold Cl.vals at hSd
        have HCd := Lib.hid hCd
        have HSd := Lib.hid hSd
        have HBd := Lib.hid hBd
        have HXT := Lib.hid XT
        have HKT := Lib.hid KT
        have HET := Lib.hid ET
        clear hCd hSd hBd hA hK hR2 hN hZ hv hdd fM XT ET KT OCT OFT OMT OST
        go_wp2_with fail
        have hWT : (WL.setCell ⟨w3.heap.size, 3, none⟩ (.bool (!c.inf))) = w3.alloc (.cells #[.slice Dp c.pool.length Dkp, .string c.nm, .string c.sup, .bool (!c.inf), .slice Di c.ifs.length Dki, .slice Df c.fds.length Dkf, .slice Dm es.length Dkm] 27) := by rw [← HWL.out]; first | (go_simp; done) | (rw [World.setCell_alloc_new]; rfl) | (simp [go_sem]; done)
        rw [← hWT]
        refine (HCd.out _ (Ext.refl _)).mono ?_
        rintro e w5 ⟨rfl, x5⟩
        clear d0 d1 d2 d3 d4 d5 d6 df wh0 wh1 wh2
        obtain ⟨q0, q1, q2, q3, q4, q5, q6⟩ := cells7 (BX.out w5 (HET.out.trans x5))
        obtain ⟨d0, d1, d2, d3, d4, d5, d6⟩ := cells7 (HKT.out.ext x5)
        have X5 := Lib.hid x5
        clear x5
        go_wp2_with fail
        refine (HSd.out _ X5.out).mono ?_
        rintro e w6 ⟨rfl, x6⟩
        clear q0 q1 q2 q3 q4 q5 q6 d0 d1 d2 d3 d4 d5 d6
        obtain ⟨d0, d1, d2, d3, d4, d5, d6⟩ := cells7 (HKT.out.ext (X5.out.trans x6))
        have X6 := Lib.hid (X5.out.trans x6)
        clear x6
        go_wp2_with fail
        refine (HBd.out _ X6.out).mono ?_
        rintro e w7 ⟨rfl, x7⟩
        go_wp2
        go_ret
        exact ⟨rfl, (HXT.out.trans X6.out).trans x7⟩
end Go.Proofs.YtokmeomjdpfknaaGreatDoor
