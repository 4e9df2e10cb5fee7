/- ClassAgain: what can be read may be, and is written so, of any bytes; the row's three tables (utf8's two, and how many of each thing a class may have) are as the texts lay them. -/
import Derived.Test.YtokmeomjdpfknaaGreatDoorZaAE
import Derived.Test.YtokmeomjdpfknaaGreatDoorZaAQ
namespace Go.Proofs.YtokmeomjdpfknaaGreatDoor
open Go.ChangeShapes Go.WideShapes Go.ChangeAt Go.RowKit
open Go.ChangeMaps (open_string shut_string)
set_option linter.unusedVariables false
set_option maxRecDepth 100000 in
set_option maxHeartbeats 16000000 in
theorem classAgain_walk (w : World) (hT : Tabs w) (hM : Most w) (v : Value) (b : List Int) (h : Row w .u8 v b) (hl : b.length ≤ 140737488351232) :
    Calls Tryz.prog 6 #[v] w fun e w' => e = .returned (.bool true) ∧ Ext w w' := by
  have HW := Lib.hid (fun W (e : Ext w W) => worksCl_any W (hT.ext e) (hM.ext e))
  have hP := fun W (e : Ext w W) => classParse_any v b W (h.ext e) (hT.ext e) (hM.ext e)
  have HR := Lib.hid h
  have hfit := h.fit
  obtain ⟨Ab, kb, rfl, -⟩ := id h
  rcases parseK_err b with he | ⟨he, hb⟩ | ⟨he, hb⟩
  · obtain ⟨k1, k2, k3, k4⟩ := parseK_back hfit he
    have kr := parseK_room hfit he
    have hpk : parseK b = ((parseK b).1, 0) := by rw [← he]
    obtain ⟨c, hc⟩ : ∃ c, (parseK b).1 = c := ⟨_, rfl⟩
    rw [hc] at k2 k3 k4 kr hpk
    simp only [hpk] at hP
    have hzl := bytesZ_le_clZ c
    rw [k4] at hzl
    have hB := fun W vp vi vf vm (e : Ext w W) (ha : ClAt W c vp vi vf vm) => classBytes_any c vp vi vf vm W ha kr k3 (hT.ext e) (hM.ext e) (fun _ => by omega)
    have hC := fun W vp vi vf vm (e : Ext w W) (ha : ClAt W c vp vi vf vm) => classCheck_any c vp vi vf vm W ha kr (hT.ext e) (hM.ext e)
    have hbk : bytesK c = (b, 0) := by rw [bytesK_ok k2 (by rw [k4]; exact k1), k4]
    simp only [hbk] at hB
    simp only [chkK_ok k2] at hC
    have HP := Lib.hid hP
    have HB := Lib.hid hB
    have HC := Lib.hid hC
    clear hP hB hC hbk hzl hpk hc k1 k2 k3 k4 kr he hT hM h hfit hl
    unfold Cl.vals at HP HB HC
    go_enter Tryz.func6, Tryz.ntmps6
    go_wp2_with fail
    refine (HW.out _ (Ext.refl _)).mono ?_
    rintro e w1 ⟨rfl, x1⟩
    have X1 := Lib.hid x1
    clear x1
    go_wp2_with fail
    refine (HP.out _ X1.out).mono ?_
    rintro e w2 ⟨u, rfl, ⟨vp, vi, vf, vm, rfl, ho2⟩, x2⟩
    have X2 := Lib.hid (X1.out.trans x2)
    have h2 := ho2.at
    have H2 := Lib.hid h2
    obtain ⟨Dp, Dkp, rfl, -⟩ := h2.1.cut
    obtain ⟨Di, Dki, rfl, -⟩ := h2.2.1.cut
    obtain ⟨Df, Dkf, rfl, -⟩ := h2.2.2.1.cut
    obtain ⟨Dm, Dkm, rfl, -⟩ := h2.2.2.2.cut
    have BY := Lib.hid (fun W (e : Ext (w2.alloc (.cells (c.vals (.slice Dp c.pool.length Dkp) (.slice Di c.ifs.length Dki) (.slice Df c.fds.length Dkf) (.slice Dm c.mts.length Dkm)) 27)) W) => (BK.new w2 (c.vals (.slice Dp c.pool.length Dkp) (.slice Di c.ifs.length Dki) (.slice Df c.fds.length Dkf) (.slice Dm c.mts.length Dkm)) 27).ext e)
    have Y2 := Lib.hid ((Ext.refl w2).alloc (.cells (c.vals (.slice Dp c.pool.length Dkp) (.slice Di c.ifs.length Dki) (.slice Df c.fds.length Dkf) (.slice Dm c.mts.length Dkm)) 27))
    clear h2 ho2 x2
    unfold Cl.vals at BY Y2 ⊢
    go_wp2_with fail
    refine (HB.out _ _ _ _ _ (X2.out.trans Y2.out) (H2.out.ext Y2.out)).mono ?_
    rintro e w3 ⟨u, rfl, ⟨v3, rfl, ho3⟩, x3⟩
    have X3 := Lib.hid ((X2.out.trans Y2.out).trans x3)
    have Y3 := Lib.hid (Y2.out.trans x3)
    have R3 := Lib.hid ho3.row
    obtain ⟨A3, k3, rfl, -⟩ := id ho3.row
    have r0 : w3.cell? ⟨w2.heap.size, 0, none⟩ = some (.slice Dp c.pool.length Dkp) := (BY.out w3 x3).cell 0
    have r1 : w3.cell? ⟨w2.heap.size, 1, none⟩ = some (.string c.nm) := (BY.out w3 x3).cell 1
    have r2 : w3.cell? ⟨w2.heap.size, 2, none⟩ = some (.string c.sup) := (BY.out w3 x3).cell 2
    have r3 : w3.cell? ⟨w2.heap.size, 3, none⟩ = some (.bool c.inf) := (BY.out w3 x3).cell 3
    have r4 : w3.cell? ⟨w2.heap.size, 4, none⟩ = some (.slice Di c.ifs.length Dki) := (BY.out w3 x3).cell 4
    have r5 : w3.cell? ⟨w2.heap.size, 5, none⟩ = some (.slice Df c.fds.length Dkf) := (BY.out w3 x3).cell 5
    have r6 : w3.cell? ⟨w2.heap.size, 6, none⟩ = some (.slice Dm c.mts.length Dkm) := (BY.out w3 x3).cell 6
    clear ho3 x3
    go_wp2_with fail
    refine (HC.out _ _ _ _ _ X3.out (H2.out.ext Y3.out)).mono ?_
    rintro e w4 ⟨rfl, x4⟩
    clear r0 r1 r2 r3 r4 r5 r6
    go_wp2_with fail
    refine (eqBytes_ext _ _ b b _ (R3.out.ext x4) (HR.out.ext (X3.out.trans x4))).mono ?_
    rintro e w5 ⟨rfl, x5⟩
    rw [decide_eq_true (rfl : b = b)]
    go_wp2
    go_ret
    exact ⟨rfl, (X3.out.trans x4).trans x5⟩
  · simp only [he] at hP
    obtain ⟨c, hc⟩ : ∃ c, c = cl0 := ⟨_, rfl⟩
    rw [← hc] at hP
    have rc : ClRoom c := by rw [hc]; exact roomC0
    have hS := fun W vp vi vf vm (e : Ext w W) (ha : ClAt W c vp vi vf vm) => classSame_any c cl0 vp vi vf vm (.slice none 0 0) (.slice none 0 0) (.slice none 0 0) (.slice none 0 0) W ha (clOwn_zero 0 W).at rc roomC0
    simp only [decide_eq_true hc] at hS
    have HP := Lib.hid hP
    have HS := Lib.hid hS
    have hbig : 65535 < (b.length : Int) := by omega
    clear hP hS he hb hT hM h hfit hc rc
    unfold Cl.vals at HP HS
    simp only [cl0] at HS
    go_enter Tryz.func6, Tryz.ntmps6
    go_wp2_with fail
    refine (HW.out _ (Ext.refl _)).mono ?_
    rintro e w1 ⟨rfl, x1⟩
    have X1 := Lib.hid x1
    clear x1
    go_wp2_with fail
    refine (HP.out _ X1.out).mono ?_
    rintro e w2 ⟨u, rfl, ⟨vp, vi, vf, vm, rfl, ho2⟩, x2⟩
    have X2 := Lib.hid (X1.out.trans x2)
    have h2 := ho2.at
    have H2 := Lib.hid h2
    obtain ⟨Dp, Dkp, rfl, -⟩ := h2.1.cut
    obtain ⟨Di, Dki, rfl, -⟩ := h2.2.1.cut
    obtain ⟨Df, Dkf, rfl, -⟩ := h2.2.2.1.cut
    obtain ⟨Dm, Dkm, rfl, -⟩ := h2.2.2.2.cut
    have Y2 := Lib.hid ((Ext.refl w2).alloc (.cells (c.vals (.slice Dp c.pool.length Dkp) (.slice Di c.ifs.length Dki) (.slice Df c.fds.length Dkf) (.slice Dm c.mts.length Dkm)) 27))
    clear h2 ho2 x2
    unfold Cl.vals at Y2 ⊢
    go_wp2_with fail
    refine (HS.out _ _ _ _ _ (X2.out.trans Y2.out) (H2.out.ext Y2.out)).mono ?_
    rintro e w3 ⟨rfl, x3⟩
    go_wp2
    go_ret
    exact ⟨rfl, (X2.out.trans Y2.out).trans x3⟩
  · simp only [he] at hP
    obtain ⟨c, hc⟩ : ∃ c, c = cl0 := ⟨_, rfl⟩
    rw [← hc] at hP
    have rc : ClRoom c := by rw [hc]; exact roomC0
    have hS := fun W vp vi vf vm (e : Ext w W) (ha : ClAt W c vp vi vf vm) => classSame_any c cl0 vp vi vf vm (.slice none 0 0) (.slice none 0 0) (.slice none 0 0) (.slice none 0 0) W ha (clOwn_zero 0 W).at rc roomC0
    simp only [decide_eq_true hc] at hS
    have HP := Lib.hid hP
    have HS := Lib.hid hS
    clear hP hS he hb hT hM h hfit hc rc
    unfold Cl.vals at HP HS
    simp only [cl0] at HS
    go_enter Tryz.func6, Tryz.ntmps6
    go_wp2_with fail
    refine (HW.out _ (Ext.refl _)).mono ?_
    rintro e w1 ⟨rfl, x1⟩
    have X1 := Lib.hid x1
    clear x1
    go_wp2_with fail
    refine (HP.out _ X1.out).mono ?_
    rintro e w2 ⟨u, rfl, ⟨vp, vi, vf, vm, rfl, ho2⟩, x2⟩
    have X2 := Lib.hid (X1.out.trans x2)
    have h2 := ho2.at
    have H2 := Lib.hid h2
    obtain ⟨Dp, Dkp, rfl, -⟩ := h2.1.cut
    obtain ⟨Di, Dki, rfl, -⟩ := h2.2.1.cut
    obtain ⟨Df, Dkf, rfl, -⟩ := h2.2.2.1.cut
    obtain ⟨Dm, Dkm, rfl, -⟩ := h2.2.2.2.cut
    have Y2 := Lib.hid ((Ext.refl w2).alloc (.cells (c.vals (.slice Dp c.pool.length Dkp) (.slice Di c.ifs.length Dki) (.slice Df c.fds.length Dkf) (.slice Dm c.mts.length Dkm)) 27))
    clear h2 ho2 x2
    unfold Cl.vals at Y2 ⊢
    go_wp2_with fail
    refine (HS.out _ _ _ _ _ (X2.out.trans Y2.out) (H2.out.ext Y2.out)).mono ?_
    rintro e w3 ⟨rfl, x3⟩
    go_wp2
    go_ret
    exact ⟨rfl, (X2.out.trans Y2.out).trans x3⟩
theorem classAgain_fits (os : Os) {H : Type} (enc : TypeId × Value → H) :
    (OpenSpec.ofChange Rows.classAgainSpec).preRow enc Tryz.prog Tryz.f6 Rows.classAgainRow.domain false Rows.classAgainRow.laid ((laidWorld os).forCall (fun _ _ => 0) ⟨#[], #[.slice none 0 0], []⟩).memory #[.slice none 0 0] := by
  have hw : (DataW.whole enc Tryz.prog ((laidWorld os).forCall (fun _ _ => 0) ⟨#[], #[.slice none 0 0], []⟩).memory Tryz.f6.params.toList Rows.classAgainSpec.vars false (#[.slice none 0 0] : Array Value).toList 8).map (fun x => (x.1, x.2.1)) = some ([.nil], []) := by kernel_rfl
  obtain ⟨⟨x1, x2, x3⟩, hx, hx1⟩ := Option.map_eq_some_iff.1 hw
  simp only [Prod.mk.injEq] at hx1
  obtain ⟨rfl, rfl⟩ := hx1
  exact OpenSpec.preRow_of_cond 8 hx (by kernel_rfl) (fun k hk => by cases hk) (by kernel_rfl) (laid_met os _)

set_option maxRecDepth 100000 in
set_option maxHeartbeats 2000000 in
theorem classAgain_lifted (os : Os) (started : os.Started) (H : Type) (enc : TypeId × Value → H) (F : Stop.Interp) :
    ReturnsInHanded {} Tryz.checked os 6 .any ((OpenSpec.ofChange Rows.classAgainSpec).preRow enc Tryz.prog Tryz.f6 Rows.classAgainRow.domain false Rows.classAgainRow.laid) (((OpenSpec.ofChange Rows.classAgainSpec).at F).post enc Tryz.prog Tryz.f6 false true false false) := by
  refine returnsInHanded_of_row (C := Tryz.checked) (s := (OpenSpec.ofChange Rows.classAgainSpec)) own started (by kernel_rfl) Tryz.func6
    (witness_row_atRef (enc := enc) (C := Tryz.checked) false (laidWorld os) #[.slice none 0 0] rfl (by kernel_rfl) (by kernel_rfl) (by kernel_rfl) (classAgain_fits os enc)) ?_
  intro W base args ds gs before hval0 hW _ hcond hsz0 hL _ _
  obtain ⟨hT, hM⟩ : Tabs W ∧ Most W := tabs_of hL
  have hval : ∀ (j : Nat) t v, Tryz.f6.params[j]? = some t → args[j]? = some v → Value.okWide Tryz.prog W .any base t v := hval0
  have hsz : (DataW.weightsEach Tryz.prog (Tryz.f6.params.toList ++ Rows.classAgainSpec.plain.varTypes Tryz.prog) (ds ++ gs)).all (· ≤ reachBytes) = true := hsz0
  have hW' := hW
  obtain ⟨p, q, hA0, hV, rfl, hfz, hnd⟩ := hW
  have hA : DataW.TrodAll enc Tryz.prog W 0 (fun _ => true) true Tryz.f6.params.toList args.toList ds p := hA0
  rw [Tryz.params6] at hA hval hsz
  obtain ⟨v0, vs0, d0, ds0, p0, q0, hargs, rfl, rfl, h0, r0⟩ := trodAll_cons hA
  obtain ⟨rfl, rfl, rfl⟩ := trodAll_nil r0
  obtain rfl : args = #[v0] := by cases args; simp_all
  obtain ⟨rfl, rfl⟩ := trodVars_none hV
  obtain ⟨a0, len0, cap0, rfl⟩ := okWide_slice Tryz.underlying29 (hval 0 29 v0 rfl rfl)
  have k0 := h0
  have lt0 : ∀ x ∈ p0, x.block < W.heap.size := by obtain ⟨m, hm⟩ := k0; exact DataW.trod_lt m _ _ _ hm
  obtain ⟨l0, w0, z0⟩ : ∃ l, Row W .u8 (.slice a0 len0 cap0) l ∧ l.length ≤ 140737488351232 := by
    obtain ⟨fuel, hf⟩ := h0
    obtain ⟨A, n, c, l, hcs, hln, hrow, hb⟩ := open_listI (bytes := 1) Tryz.underlying29 Tryz.underlying5 (by kernel_rfl) (by kernel_rfl) hf (light_of hsz (j := 0) rfl rfl)
    simp [Value.cells] at hcs
    obtain ⟨rfl, rfl, rfl⟩ := hcs
    have e : reachBytes = 140737488351232 := rfl
    exact ⟨l, hrow, by omega⟩
  clear hA0 hval0 hsz0 hcond
  refine (classAgain_walk W hT hM (.slice a0 len0 cap0) l0 w0 z0).mono fun e W' ⟨he, bel⟩ => ?_
  subst he
  exact ⟨_, rfl, _, _, _, [], _, [], hW', trodAll_mk1 (shut_bool Tryz.underlying4 _), (trodAll_cons_mk (Below.trod laidOut (by kernel_rfl) (of_decide_eq_true (by kernel_rfl)) k0 bel lt0) trodAll_mk0), rfl, bel.frame _, fun h => by cases h⟩

theorem classAgain_over : Rows.ClassAgainSaid :=
  OpenClaim.holds_of_cond 6 Tryz.f6 rfl rfl rfl rfl rfl rfl rfl ⟨rfl, rfl, rfl, rfl, rfl⟩ rfl rfl rfl rfl rfl (by kernel_rfl) Tryz.func6 (by kernel_rfl)
    (of_decide_eq_true (by kernel_rfl)) (by unfold Func.isWrapper; first | (rw [if_pos (by decide +kernel)]; kernel_rfl) | (rw [if_neg (by decide +kernel)]; exact ⟨rfl, rfl⟩))
    (fun os started H enc _ F => by rw [OpenClaim.pre_eq_preRow]; exact classAgain_lifted os started H enc F)
theorem classAgain_plain (f : FuncId) (fn : Func) (hf : Tryz.pinned.checked.prog.funcNamed "warpbeam/warpbeamlaw08.ClassAgain" = some f) (hfn : Tryz.pinned.checked.prog.funcs[f]? = some fn) :
    false = Tryz.pinned.checked.prog.looks [] ∧ ∀ (j : Nat) t, fn.params[j]? = some t → Tryz.pinned.checked.prog.wantsStandIn t = false := by
  obtain rfl : f = 6 := Option.some.inj ((show Tryz.prog.funcNamed "warpbeam/warpbeamlaw08.ClassAgain" = some 6 by kernel_rfl).symm.trans hf) |>.symm
  obtain rfl : fn = Tryz.f6 := (Option.some.inj (Tryz.func6.symm.trans hfn)).symm
  refine ⟨by kernel_rfl, fun j t ht => ?_⟩
  rw [Tryz.params6] at ht
  have hm := Array.mem_of_getElem? ht
  simp only [List.mem_toArray, List.mem_cons, List.not_mem_nil, or_false] at hm
  subst hm
  exact (show Tryz.prog.wantsStandIn 29 = false by kernel_rfl)

theorem classAgain_proved : Rows.ClassAgainCardSaid :=
  Claim7.holds_tied_plain_at .later [] _ _ _ _ classAgain_over (fun _ h => by cases h) (by kernel_rfl) (fun _ h => by cases h) classAgain_row_tie rfl ⟨rfl, rfl⟩ (by kernel_rfl) rfl classAgain_plain (by kernel_rfl)
#print axioms classAgain_proved
end Go.Proofs.YtokmeomjdpfknaaGreatDoor
