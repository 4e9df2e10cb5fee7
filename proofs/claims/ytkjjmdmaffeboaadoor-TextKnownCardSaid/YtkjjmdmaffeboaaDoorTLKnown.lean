/- TextKnown: closed: both ends of each length, halves of pairs, what is cut; the row's two tables are as the library's text lays them. -/
import Derived.Test.YtkjjmdmaffeboaaDoorTFrame
import Derived.Test.YtkjjmdmaffeboaaDoorTextX
namespace Go.Proofs.YtkjjmdmaffeboaaDoor
open Go.ChangeShapes Go.WideShapes Go.ChangeAt Go.RowKit
open Go.ChangeMaps (open_string shut_string)
set_option linter.unusedVariables false

set_option maxHeartbeats 8000000 in
theorem textKnown_walk (w : World) (hT : Tabs w) : Calls Tryd.prog 10 #[] w (RetT w true) := by
  have x0 := Ext.refl w
  go_enter Tryd.func10, Tryd.ntmps10
  go_wp2_with fail
  refine (is_yes ⟨#[]⟩ _ [] _ (by exact hT.ext x0) (by exact (Own.nil 0 _ 5 .u8).row) (by decide) (by decide) (by decide +kernel) (by decide +kernel)).mono ?_
  rintro e w1 ⟨rfl, he1⟩
  have x1 : Ext w w1 := x0.trans he1
  go_wp2_with fail
  refine (is_yes ⟨#[1]⟩ _ [1] _ (by exact hT.ext (x1.alloc _)) (by exact Row.litT _ [1] (fit_dec (by decide)) (by decide) (by decide)) (by decide) (by decide) (by decide +kernel) (by decide +kernel)).mono ?_
  rintro e w2 ⟨rfl, he2⟩
  have x2 : Ext w w2 := (x1.alloc _).trans he2
  go_wp2_with fail
  refine (is_yes ⟨#[127]⟩ _ [127] _ (by exact hT.ext (x2.alloc _)) (by exact Row.litT _ [127] (fit_dec (by decide)) (by decide) (by decide)) (by decide) (by decide) (by decide +kernel) (by decide +kernel)).mono ?_
  rintro e w3 ⟨rfl, he3⟩
  have x3 : Ext w w3 := (x2.alloc _).trans he3
  go_wp2_with fail
  refine (is_yes ⟨#[194, 128]⟩ _ [194, 128] _ (by exact hT.ext (x3.alloc _)) (by exact Row.litT _ [194, 128] (fit_dec (by decide)) (by decide) (by decide)) (by decide) (by decide) (by decide +kernel) (by decide +kernel)).mono ?_
  rintro e w4 ⟨rfl, he4⟩
  have x4 : Ext w w4 := (x3.alloc _).trans he4
  go_wp2_with fail
  refine (is_yes ⟨#[237, 159, 191]⟩ _ [237, 159, 191] _ (by exact hT.ext (x4.alloc _)) (by exact Row.litT _ [237, 159, 191] (fit_dec (by decide)) (by decide) (by decide)) (by decide) (by decide) (by decide +kernel) (by decide +kernel)).mono ?_
  rintro e w5 ⟨rfl, he5⟩
  have x5 : Ext w w5 := (x4.alloc _).trans he5
  go_wp2_with fail
  refine (is_yes ⟨#[238, 128, 128]⟩ _ [238, 128, 128] _ (by exact hT.ext (x5.alloc _)) (by exact Row.litT _ [238, 128, 128] (fit_dec (by decide)) (by decide) (by decide)) (by decide) (by decide) (by decide +kernel) (by decide +kernel)).mono ?_
  rintro e w6 ⟨rfl, he6⟩
  have x6 : Ext w w6 := (x5.alloc _).trans he6
  go_wp2_with fail
  refine (is_yes ⟨#[97, 0, 98]⟩ _ [97, 192, 128, 98] _ (by exact hT.ext (x6.alloc _)) (by exact Row.litT _ [97, 192, 128, 98] (fit_dec (by decide)) (by decide) (by decide)) (by decide) (by decide) (by decide +kernel) (by decide +kernel)).mono ?_
  rintro e w7 ⟨rfl, he7⟩
  have x7 : Ext w w7 := (x6.alloc _).trans he7
  go_wp2_with fail
  refine (is_yes ⟨#[240, 159, 152, 128]⟩ _ [237, 160, 189, 237, 184, 128] _ (by exact hT.ext (x7.alloc _)) (by exact Row.litT _ [237, 160, 189, 237, 184, 128] (fit_dec (by decide)) (by decide) (by decide)) (by decide) (by decide) (by decide +kernel) (by decide +kernel)).mono ?_
  rintro e w8 ⟨rfl, he8⟩
  have x8 : Ext w w8 := (x7.alloc _).trans he8
  go_wp2_with fail
  refine (fails_yes 0 _ [0] _ (by exact Row.litT _ [0] (fit_dec (by decide)) (by decide) (by decide)) (by decide) (by decide +kernel) (by decide)).mono ?_
  rintro e w9 ⟨rfl, he9⟩
  have x9 : Ext w w9 := (x8.alloc _).trans he9
  go_wp2_with fail
  refine (fails_yes 0 _ [128] _ (by exact Row.litT _ [128] (fit_dec (by decide)) (by decide) (by decide)) (by decide) (by decide +kernel) (by decide)).mono ?_
  rintro e w10 ⟨rfl, he10⟩
  have x10 : Ext w w10 := (x9.alloc _).trans he10
  go_wp2_with fail
  refine (fails_yes 0 _ [192] _ (by exact Row.litT _ [192] (fit_dec (by decide)) (by decide) (by decide)) (by decide) (by decide +kernel) (by decide)).mono ?_
  rintro e w11 ⟨rfl, he11⟩
  have x11 : Ext w w11 := (x10.alloc _).trans he11
  go_wp2_with fail
  refine (fails_yes 0 _ [193, 191] _ (by exact Row.litT _ [193, 191] (fit_dec (by decide)) (by decide) (by decide)) (by decide) (by decide +kernel) (by decide)).mono ?_
  rintro e w12 ⟨rfl, he12⟩
  have x12 : Ext w w12 := (x11.alloc _).trans he12
  go_wp2_with fail
  refine (fails_yes 0 _ [224, 159, 191] _ (by exact Row.litT _ [224, 159, 191] (fit_dec (by decide)) (by decide) (by decide)) (by decide) (by decide +kernel) (by decide)).mono ?_
  rintro e w13 ⟨rfl, he13⟩
  have x13 : Ext w w13 := (x12.alloc _).trans he13
  go_wp2_with fail
  refine (fails_yes 0 _ [237, 176, 128] _ (by exact Row.litT _ [237, 176, 128] (fit_dec (by decide)) (by decide) (by decide)) (by decide) (by decide +kernel) (by decide)).mono ?_
  rintro e w14 ⟨rfl, he14⟩
  have x14 : Ext w w14 := (x13.alloc _).trans he14
  go_wp2_with fail
  refine (fails_yes 0 _ [237, 176, 128, 237, 160, 128] _ (by exact Row.litT _ [237, 176, 128, 237, 160, 128] (fit_dec (by decide)) (by decide) (by decide)) (by decide) (by decide +kernel) (by decide)).mono ?_
  rintro e w15 ⟨rfl, he15⟩
  have x15 : Ext w w15 := (x14.alloc _).trans he15
  go_wp2_with fail
  refine (fails_yes 0 _ [237, 160, 128, 237, 160, 128] _ (by exact Row.litT _ [237, 160, 128, 237, 160, 128] (fit_dec (by decide)) (by decide) (by decide)) (by decide) (by decide +kernel) (by decide)).mono ?_
  rintro e w16 ⟨rfl, he16⟩
  have x16 : Ext w w16 := (x15.alloc _).trans he16
  go_wp2_with fail
  refine (fails_yes 0 _ [237, 160, 128, 97] _ (by exact Row.litT _ [237, 160, 128, 97] (fit_dec (by decide)) (by decide) (by decide)) (by decide) (by decide +kernel) (by decide)).mono ?_
  rintro e w17 ⟨rfl, he17⟩
  have x17 : Ext w w17 := (x16.alloc _).trans he17
  go_wp2_with fail
  refine (fails_yes 0 _ [237, 160, 128, 237, 176] _ (by exact Row.litT _ [237, 160, 128, 237, 176] (fit_dec (by decide)) (by decide) (by decide)) (by decide) (by decide +kernel) (by decide)).mono ?_
  rintro e w18 ⟨rfl, he18⟩
  have x18 : Ext w w18 := (x17.alloc _).trans he18
  go_wp2_with fail
  refine (fails_yes 0 _ [255] _ (by exact Row.litT _ [255] (fit_dec (by decide)) (by decide) (by decide)) (by decide) (by decide +kernel) (by decide)).mono ?_
  rintro e w19 ⟨rfl, he19⟩
  have x19 : Ext w w19 := (x18.alloc _).trans he19
  go_wp2_with fail
  refine (fails_yes 2 _ [97, 98, 195] _ (by exact Row.litT _ [97, 98, 195] (fit_dec (by decide)) (by decide) (by decide)) (by decide) (by decide +kernel) (by decide)).mono ?_
  rintro e w20 ⟨rfl, he20⟩
  have x20 : Ext w w20 := (x19.alloc _).trans he20
  go_wp2_with fail
  refine (fails_yes 0 _ [195, 40] _ (by exact Row.litT _ [195, 40] (fit_dec (by decide)) (by decide) (by decide)) (by decide) (by decide +kernel) (by decide)).mono ?_
  rintro e w21 ⟨rfl, he21⟩
  have x21 : Ext w w21 := (x20.alloc _).trans he21
  go_wp2_with fail
  refine (Encode_any ⟨#[255]⟩ _ (by exact hT.ext x21) (by decide) (by decide +kernel)).mono ?_
  rintro e w22 ⟨u22, rfl, ⟨hv22, -⟩ | ⟨-, rfl⟩, he22⟩
  · exact absurd hv22 (by decide +kernel)
  have x22 : Ext w w22 := x21.trans he22
  go_wp2_with fail
  refine (Encode_any ⟨#[97, 237, 160, 128]⟩ _ (by exact hT.ext x22) (by decide) (by decide +kernel)).mono ?_
  rintro e w23 ⟨u23, rfl, ⟨hv23, -⟩ | ⟨-, rfl⟩, he23⟩
  · exact absurd hv23 (by decide +kernel)
  have x23 : Ext w w23 := x22.trans he23
  go_wp2_with fail
  refine (Len_any ⟨#[192, 128]⟩ _ (by exact hT.ext x23) (by decide) (by decide +kernel)).mono ?_
  rintro e w24 ⟨u24, rfl, ⟨hv24, -⟩ | ⟨-, rfl⟩, he24⟩
  · exact absurd hv24 (by decide +kernel)
  have x24 : Ext w w24 := x23.trans he24
  go_wp2_with fail
  refine (works_any _ (by exact hT.ext x24)).mono ?_
  rintro e w25 ⟨rfl, he25⟩
  have x25 : Ext w w25 := x24.trans he25
  go_wp2_with fail
  go_ret
  exact ⟨rfl, x25⟩

theorem textKnown_fits (os : Os) {H : Type} (enc : TypeId × Value → H) :
    (OpenSpec.ofChange Rows.textKnownSpec).preRow enc Tryd.prog Tryd.f10 Rows.textKnownRow.domain false Rows.textKnownRow.laid ((laidWorld os).forCall (fun _ _ => 0) ⟨#[], #[], []⟩).memory #[] := by
  have hw : (DataW.whole enc Tryd.prog ((laidWorld os).forCall (fun _ _ => 0) ⟨#[], #[], []⟩).memory Tryd.f10.params.toList Rows.textKnownSpec.vars false (#[] : Array Value).toList 8).map (fun x => (x.1, x.2.1)) = some ([], []) := by kernel_rfl
  obtain ⟨⟨x1, x2, x3⟩, hx, hx1⟩ := Option.map_eq_some_iff.1 hw
  simp only [Prod.mk.injEq] at hx1
  obtain ⟨rfl, rfl⟩ := hx1
  exact OpenSpec.preRow_of_cond 8 hx (by kernel_rfl) (fun k hk => by cases hk) (by kernel_rfl) (laid_met os _)

set_option maxRecDepth 100000 in
set_option maxHeartbeats 2000000 in
theorem textKnown_lifted (os : Os) (started : os.Started) (H : Type) (enc : TypeId × Value → H) (F : Stop.Interp) :
    ReturnsInHanded {} Tryd.checked os 10 .any ((OpenSpec.ofChange Rows.textKnownSpec).preRow enc Tryd.prog Tryd.f10 Rows.textKnownRow.domain false Rows.textKnownRow.laid) (((OpenSpec.ofChange Rows.textKnownSpec).at F).post enc Tryd.prog Tryd.f10 false true false false) := by
  refine returnsInHanded_of_row (C := Tryd.checked) (s := (OpenSpec.ofChange Rows.textKnownSpec)) own started (by kernel_rfl) Tryd.func10
    (witness_row_atRef (enc := enc) (C := Tryd.checked) false (laidWorld os) #[] rfl (by kernel_rfl) (by kernel_rfl) (by kernel_rfl) (textKnown_fits os enc)) ?_
  intro W base args ds gs before hval0 hW _ hcond hsz0 hL _ _
  have hT : Tabs W := tabs_of hL
  have hval : ∀ (j : Nat) t v, Tryd.f10.params[j]? = some t → args[j]? = some v → Value.okWide Tryd.prog W .any base t v := hval0
  have hsz : (DataW.weightsEach Tryd.prog (Tryd.f10.params.toList ++ Rows.textKnownSpec.plain.varTypes Tryd.prog) (ds ++ gs)).all (· ≤ reachBytes) = true := hsz0
  have hW' := hW
  obtain ⟨p, q, hA0, hV, rfl, hfz, hnd⟩ := hW
  have hA : DataW.TrodAll enc Tryd.prog W 0 (fun _ => true) true Tryd.f10.params.toList args.toList ds p := hA0
  rw [Tryd.params10] at hA hval hsz
  obtain ⟨rfl, rfl, rfl⟩ := trodAll_none hA
  obtain ⟨rfl, rfl⟩ := trodVars_none hV
  clear hA0 hval0 hsz0 hcond
  refine (textKnown_walk W hT ).mono fun e W' ⟨he, bel⟩ => ?_
  subst he
  exact ⟨_, rfl, _, _, _, [], _, [], hW', trodAll_mk1 (shut_bool Tryd.underlying4 _), trodAll_mk0, rfl, bel.frame _, fun h => by cases h⟩

theorem textKnown_over : Rows.TextKnownSaid :=
  OpenClaim.holds_of_cond 10 Tryd.f10 rfl rfl rfl rfl rfl rfl rfl ⟨rfl, rfl, rfl, rfl, rfl⟩ rfl rfl rfl rfl rfl (by kernel_rfl) Tryd.func10 (by kernel_rfl)
    (of_decide_eq_true (by kernel_rfl)) (by unfold Func.isWrapper; first | (rw [if_pos (by decide +kernel)]; kernel_rfl) | (rw [if_neg (by decide +kernel)]; exact ⟨rfl, rfl⟩))
    (fun os started H enc _ F => by rw [OpenClaim.pre_eq_preRow]; exact textKnown_lifted os started H enc F)
theorem textKnown_plain (f : FuncId) (fn : Func) (hf : Tryd.pinned.checked.prog.funcNamed "warpbeam/warpbeamlaw02.TextKnown" = some f) (hfn : Tryd.pinned.checked.prog.funcs[f]? = some fn) :
    false = Tryd.pinned.checked.prog.looks [] ∧ ∀ (j : Nat) t, fn.params[j]? = some t → Tryd.pinned.checked.prog.wantsStandIn t = false := by
  obtain rfl : f = 10 := Option.some.inj ((show Tryd.prog.funcNamed "warpbeam/warpbeamlaw02.TextKnown" = some 10 by kernel_rfl).symm.trans hf) |>.symm
  obtain rfl : fn = Tryd.f10 := (Option.some.inj (Tryd.func10.symm.trans hfn)).symm
  refine ⟨by kernel_rfl, fun j t ht => ?_⟩
  rw [Tryd.params10] at ht
  simp at ht

/-- The statement. -/
theorem textKnown_proved : Rows.TextKnownCardSaid :=
  Claim7.holds_tied_plain_at .later [] _ _ _ _ textKnown_over (fun _ h => by cases h) (by kernel_rfl) (fun _ h => by cases h) textKnown_row_tie rfl ⟨rfl, rfl⟩ (by kernel_rfl) rfl textKnown_plain (by kernel_rfl)
#print axioms textKnown_proved
end Go.Proofs.YtkjjmdmaffeboaaDoor
