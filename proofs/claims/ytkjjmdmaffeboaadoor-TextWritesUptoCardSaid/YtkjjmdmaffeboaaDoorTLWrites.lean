/- TextWrites: Encode and Len answer as the chapter says, and what is answered is memory of its own, of each string of which the reading's bulk is at most 1048576; the row's two tables are as the library's text lays them. -/
import Derived.Test.YtkjjmdmaffeboaaDoorTFrame
import Derived.Test.YtkjjmdmaffeboaaDoorTextX
import Derived.Test.YtkjjmdmaffeboaaDoorBulk
import Derived.LoopN
namespace Go.Proofs.YtkjjmdmaffeboaaDoor
open Go.ChangeShapes Go.WideShapes Go.ChangeAt Go.RowKit
open Go.ChangeMaps (open_string shut_string)
set_option linter.unusedVariables false

set_option maxHeartbeats 8000000 in
theorem textWrites_walk (w : World) (hT : Tabs w) (s : ByteArray) (hs : s.size ≤ 1048576) : Calls Tryd.prog 3 #[.string s] w (RetT w true) := by
  have hl := enc_fit s hs
  obtain ⟨b, hb⟩ : ∃ b, encZ s.data.toList = b := ⟨_, rfl⟩
  rw [hb] at hl
  have HE := Lib.hid hb
  obtain ⟨n, hn⟩ : ∃ n, b.length = n := ⟨_, rfl⟩
  rw [hn] at hl
  have HN := Lib.hid hn
  clear hb hn
  obtain ⟨vb, hvb⟩ : ∃ vb, Lib.validD s.data.toList = vb := ⟨_, rfl⟩
  have HV := Lib.hid hvb
  clear hvb
  cases vb
  · go_enter Tryd.func3, Tryd.ntmps3
    go_wp2_with fail
    refine (Encode_any s _ hT (by omega) (by rw [HE.out, HN.out]; omega)).mono ?_
    rintro e w1 ⟨u1, rfl, ⟨hv, -⟩ | ⟨-, rfl⟩, he1⟩
    · rw [HV.out] at hv; cases hv
    go_wp2_with fail
    refine (refEncode_any s _ (hT.ext he1) (by omega) (by rw [HE.out, HN.out]; omega)).mono ?_
    rintro e w2 ⟨u2, rfl, ⟨hv, -⟩ | ⟨-, rfl⟩, he2⟩
    · rw [HV.out] at hv; cases hv
    have x2 : Ext w w2 := he1.trans he2
    go_wp2_with fail
    refine (Len_any s _ (hT.ext x2) (by omega) (by rw [HE.out, HN.out]; omega)).mono ?_
    rintro e w3 ⟨u3, rfl, ⟨hv, -⟩ | ⟨-, rfl⟩, he3⟩
    · rw [HV.out] at hv; cases hv
    have x3 : Ext w w3 := x2.trans he3
    go_wp2_with fail
    refine (refLen_any s _ (hT.ext x3) (by omega) (by rw [HE.out, HN.out]; omega)).mono ?_
    rintro e w4 ⟨u4, rfl, ⟨hv, -⟩ | ⟨-, rfl⟩, he4⟩
    · rw [HV.out] at hv; cases hv
    have x4 : Ext w w4 := x3.trans he4
    go_wp2_with fail
    refine (eqBytes_any _ _ [] [] _ (by exact (Own.nil 0 _ 5 .u8).row) (by exact (Own.nil 0 _ 5 .u8).row)).mono ?_
    rw [decide_eq_true rfl]
    rintro e w5 ⟨rfl, m5, rfl⟩
    have x5 : Ext w (w4.drewN m5) := x4.drewN m5
    go_wp2
    refine wp_loop_rounds 1 ?_
    rw [rounds_succ]
    go_wp2_with fail
    refine (Encode_any s _ (hT.ext x5) (by omega) (by rw [HE.out, HN.out]; omega)).mono ?_
    rintro e w6 ⟨u6, rfl, ⟨hv, -⟩ | ⟨-, rfl⟩, he6⟩
    · rw [HV.out] at hv; cases hv
    have x6 : Ext w w6 := x5.trans he6
    go_wp2_with fail
    refine (eqBytes_any _ _ [] [] _ (by exact (Own.nil 0 _ 5 .u8).row) (by exact (Own.nil 0 _ 5 .u8).row)).mono ?_
    rw [decide_eq_true rfl]
    rintro e w7 ⟨rfl, m7, rfl⟩
    have x7 : Ext w (w6.drewN m7) := x6.drewN m7
    go_wp2_with fail
    refine (works_any _ (hT.ext x7)).mono ?_
    rintro e w8 ⟨rfl, he8⟩
    go_wp2
    go_ret
    exact ⟨rfl, x7.trans he8⟩
  · go_enter Tryd.func3, Tryd.ntmps3
    go_wp2_with fail
    refine (Encode_any s _ hT (by omega) (by rw [HE.out, HN.out]; omega)).mono ?_
    rintro e w1 ⟨u1, rfl, ⟨-, v1, rfl, ho1⟩ | ⟨hv, -⟩, he1⟩
    rotate_left
    · rw [HV.out] at hv; cases hv
    rw [HE.out] at ho1
    go_wp2_with fail
    refine (refEncode_any s _ (hT.ext he1) (by omega) (by rw [HE.out, HN.out]; omega)).mono ?_
    rintro e w2 ⟨u2, rfl, ⟨-, v2, rfl, ho2⟩ | ⟨hv, -⟩, he2⟩
    rotate_left
    · rw [HV.out] at hv; cases hv
    rw [HE.out] at ho2
    have x2 : Ext w w2 := he1.trans he2
    go_wp2_with fail
    refine (Len_any s _ (hT.ext x2) (by omega) (by rw [HE.out, HN.out]; omega)).mono ?_
    rintro e w3 ⟨u3, rfl, ⟨-, rfl⟩ | ⟨hv, -⟩, he3⟩
    rotate_left
    · rw [HV.out] at hv; cases hv
    rw [HE.out, HN.out]
    have x3 : Ext w w3 := x2.trans he3
    go_wp2_with fail
    refine (refLen_any s _ (hT.ext x3) (by omega) (by rw [HE.out, HN.out]; omega)).mono ?_
    rintro e w4 ⟨u4, rfl, ⟨-, rfl⟩ | ⟨hv, -⟩, he4⟩
    rotate_left
    · rw [HV.out] at hv; cases hv
    rw [HE.out, HN.out]
    have x4 : Ext w w4 := x3.trans he4
    have y4 : Ext w2 w4 := he3.trans he4
    go_wp2_with fail
    refine (eqBytes_any _ _ b b _ (by exact ho1.row.ext (he2.trans y4)) (by exact ho2.row.ext y4)).mono ?_
    rw [decide_eq_true rfl]
    rintro e w5 ⟨rfl, m5, rfl⟩
    have x5 : Ext w (w4.drewN m5) := x4.drewN m5
    have y5 : Ext w1 (w4.drewN m5) := (he2.trans y4).drewN m5
    have z5 : Ext w2 (w4.drewN m5) := y4.drewN m5
    obtain ⟨A, C, rfl, hC, hCm, -⟩ := ho1.row
    rw [HN.out] at ho1 hC ⊢
    unfold maxLen at hCm
    have hoW := ho1.ext y5
    have hoY := ho2.ext z5
    have hhi := ho1.high
    have hlo := ho1.low
    have hlo2 := ho2.low
    have HHI := Lib.hid hhi
    have HLO := Lib.hid hlo
    have HLO2 := Lib.hid hlo2
    have HOY := Lib.hid hoY
    clear hhi hlo hlo2 hoY ho1 ho2
    obtain ⟨W0, hW0⟩ : ∃ W0, w4.drewN m5 = W0 := ⟨_, rfl⟩
    rw [hW0] at x5 y5 z5 hoW HOY ⊢
    clear hW0
    go_wp2
    go_loopw [11] (fun i wr => ∃ (k : Nat) (m : List Int), i = .int .i64 k ∧ k ≤ n ∧ Hid (m.length = n) ∧ Own w.heap.size wr 5 .u8 (.slice A n C) m ∧ W0.grownBy wr (Value.slice A n C).ownBlock) (fun i _ => n - (intOf i).toNat)
    case atStart => exact ⟨0, b, rfl, by omega, HN.out, hoW, World.grownBy.refl _ _⟩
    case round =>
      obtain ⟨k, m, rfl, hk, HM, hom, hgr⟩ := hrel
      by_cases hlt : k < n
      · obtain ⟨g', c', hv, _, _, _, _, hcell, hfr⟩ := hom.parts (by have := HM.out; omega)
        have hy := hcell k (by have := HM.out; omega)
        have hz := hfr k
        have hA2 : A = some ⟨g', 0, none⟩ := by injection hv
        have HO := Lib.hid hom
        have HG := Lib.hid hgr
        subst hA2
        clear hcell hfr hom hgr hv hoW
        go_wp2
        go_roundw
        case rel =>
          refine ⟨k + 1, m.set k 0, by go_num, by omega, by rw [Hid, List.length_set]; exact HM.out, ?_, only_set HG.out _ _⟩
          exact HO.out.put (j := k) (x := 0) (by have := HM.out; omega) (by decide)
        case measure => simp [intOf]; omega
      · have xr : Ext w wr := x5.grown hgr HLO.out
        have hyr : Own w1.heap.size wr 5 .u8 v2 b := Own.kept HOY.out hgr (fun g hg e => by
          have h1 := HHI.out g e
          have h2 := HLO2.out g hg
          omega)
        clear hgr hom hoW
        go_wp2_with fail
        refine (Encode_any s _ (hT.ext xr) (by omega) (by rw [HE.out, HN.out]; omega)).mono ?_
        rintro e w6 ⟨u6, rfl, ⟨-, v6, rfl, ho6⟩ | ⟨hv, -⟩, he6⟩
        rotate_left
        · rw [HV.out] at hv; cases hv
        rw [HE.out] at ho6
        have x6 : Ext w w6 := xr.trans he6
        go_wp2_with fail
        refine (eqBytes_any _ _ b b _ (by exact ho6.row) (by exact hyr.row.ext he6)).mono ?_
        rw [decide_eq_true rfl]
        rintro e w7 ⟨rfl, m7, rfl⟩
        have x7 : Ext w (w6.drewN m7) := x6.drewN m7
        go_wp2_with fail
        refine (works_any _ (hT.ext x7)).mono ?_
        rintro e w8 ⟨rfl, he8⟩
        go_wp2
        go_ret
        exact ⟨rfl, x7.trans he8⟩

theorem textWrites_fits (os : Os) {H : Type} (enc : TypeId × Value → H) :
    (Rows.OpenSpec.upto Rows.textWritesSpec).preRow enc Tryd.prog Tryd.f3 Rows.textWritesUptoRow.domain false Rows.textWritesUptoRow.laid ((laidWorld os).forCall (fun _ _ => 0) ⟨#[], #[.string ⟨#[]⟩], []⟩).memory #[.string ⟨#[]⟩] := by
  have hw : (DataW.whole enc Tryd.prog ((laidWorld os).forCall (fun _ _ => 0) ⟨#[], #[.string ⟨#[]⟩], []⟩).memory Tryd.f3.params.toList Rows.textWritesSpec.vars false (#[.string ⟨#[]⟩] : Array Value).toList 8).map (fun x => (x.1, x.2.1)) = some ([.lit (.string [])], []) := by kernel_rfl
  obtain ⟨⟨x1, x2, x3⟩, hx, hx1⟩ := Option.map_eq_some_iff.1 hw
  simp only [Prod.mk.injEq] at hx1
  obtain ⟨rfl, rfl⟩ := hx1
  exact OpenSpec.preRow_of_cond 8 hx (by kernel_rfl) (fun k hk => by cases hk; kernel_rfl) (by kernel_rfl) (laid_met os _)

set_option maxRecDepth 100000 in
set_option maxHeartbeats 2000000 in
theorem textWrites_lifted (os : Os) (started : os.Started) (H : Type) (enc : TypeId × Value → H) (F : Stop.Interp) :
    ReturnsInHanded {} Tryd.checked os 3 .any ((Rows.OpenSpec.upto Rows.textWritesSpec).preRow enc Tryd.prog Tryd.f3 Rows.textWritesUptoRow.domain false Rows.textWritesUptoRow.laid) (((Rows.OpenSpec.upto Rows.textWritesSpec).at F).post enc Tryd.prog Tryd.f3 false true false false) := by
  refine returnsInHanded_of_row (C := Tryd.checked) (s := (Rows.OpenSpec.upto Rows.textWritesSpec)) own started (by kernel_rfl) Tryd.func3
    (witness_row_atRef (enc := enc) (C := Tryd.checked) false (laidWorld os) #[.string ⟨#[]⟩] rfl (by kernel_rfl) (by kernel_rfl) (by kernel_rfl) (textWrites_fits os enc)) ?_
  intro W base args ds gs before hval0 hW _ hcond hsz0 hL _ _
  have hT : Tabs W := tabs_of hL
  have hval : ∀ (j : Nat) t v, Tryd.f3.params[j]? = some t → args[j]? = some v → Value.okWide Tryd.prog W .any base t v := hval0
  have hsz : (DataW.weightsEach Tryd.prog (Tryd.f3.params.toList ++ Rows.textWritesSpec.plain.varTypes Tryd.prog) (ds ++ gs)).all (· ≤ reachBytes) = true := hsz0
  have hW' := hW
  obtain ⟨p, q, hA0, hV, rfl, hfz, hnd⟩ := hW
  have hA : DataW.TrodAll enc Tryd.prog W 0 (fun _ => true) true Tryd.f3.params.toList args.toList ds p := hA0
  rw [Tryd.params3] at hA hval hsz
  obtain ⟨v0, vs0, d0, ds0, p0, q0, hargs, rfl, rfl, h0, r0⟩ := trodAll_cons hA
  obtain ⟨rfl, rfl, rfl⟩ := trodAll_nil r0
  obtain rfl : args = #[v0] := by cases args; simp_all
  obtain ⟨rfl, rfl⟩ := trodVars_none hV
  have hbk : Rows.uptoBulkAll ([d0] : List (DataW H)) ≤ 1048576 := bulk_bound (hcond _ rfl)
  obtain ⟨a0, rfl, rfl, rfl, w0⟩ := open_string Tryd.underlying9 (hval 0 9 v0 rfl rfl) h0
  have z0 : a0.size ≤ 1048576 := by
    have hb := Nat.le_trans (bulk_part (show (DataW.lit (.string a0.data.toList) : DataW H) ∈ ([.lit (.string a0.data.toList)] : List (DataW H)) by simp)) hbk
    rw [bulk_string] at hb
    rw [Lib.size_eq]
    omega
  clear hA0 hval0 hsz0 hcond
  refine (textWrites_walk W hT a0 z0).mono fun e W' ⟨he, bel⟩ => ?_
  subst he
  exact ⟨_, rfl, _, _, _, [], _, [], hW', trodAll_mk1 (shut_bool Tryd.underlying4 _), (trodAll_cons_mk (shut_string Tryd.underlying9 w0) trodAll_mk0), rfl, bel.frame _, fun h => by cases h⟩

theorem textWrites_over : Rows.TextWritesUptoSaid :=
  OpenClaim.holds_of_cond 3 Tryd.f3 rfl rfl rfl rfl rfl rfl rfl ⟨rfl, rfl, rfl, rfl, rfl⟩ rfl rfl rfl rfl rfl (by kernel_rfl) Tryd.func3 (by kernel_rfl)
    (of_decide_eq_true (by kernel_rfl)) (by unfold Func.isWrapper; first | (rw [if_pos (by decide +kernel)]; kernel_rfl) | (rw [if_neg (by decide +kernel)]; exact ⟨rfl, rfl⟩))
    (fun os started H enc _ F => by rw [OpenClaim.pre_eq_preRow]; exact textWrites_lifted os started H enc F)
theorem textWrites_plain (f : FuncId) (fn : Func) (hf : Tryd.pinned.checked.prog.funcNamed "warpbeam/warpbeamlaw02.TextWrites" = some f) (hfn : Tryd.pinned.checked.prog.funcs[f]? = some fn) :
    false = Tryd.pinned.checked.prog.looks [] ∧ ∀ (j : Nat) t, fn.params[j]? = some t → Tryd.pinned.checked.prog.wantsStandIn t = false := by
  obtain rfl : f = 3 := Option.some.inj ((show Tryd.prog.funcNamed "warpbeam/warpbeamlaw02.TextWrites" = some 3 by kernel_rfl).symm.trans hf) |>.symm
  obtain rfl : fn = Tryd.f3 := (Option.some.inj (Tryd.func3.symm.trans hfn)).symm
  refine ⟨by kernel_rfl, fun j t ht => ?_⟩
  rw [Tryd.params3] at ht
  have hm := Array.mem_of_getElem? ht
  simp only [List.mem_toArray, List.mem_cons, List.not_mem_nil, or_false] at hm
  subst hm
  exact (show Tryd.prog.wantsStandIn 9 = false by kernel_rfl)

/-- The statement. -/
theorem textWrites_proved : Rows.TextWritesUptoCardSaid :=
  Claim7.holds_tied_plain_at .later [] _ _ _ _ textWrites_over (fun _ h => by cases h) (by kernel_rfl) (fun _ h => by cases h) textWritesUpto_row_tie rfl ⟨rfl, rfl⟩ (by kernel_rfl) rfl textWrites_plain (by kernel_rfl)
#print axioms textWrites_proved
end Go.Proofs.YtkjjmdmaffeboaaDoor
