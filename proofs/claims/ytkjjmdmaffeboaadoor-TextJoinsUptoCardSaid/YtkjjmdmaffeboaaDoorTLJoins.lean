/- TextJoins: texts one behind the other have their bytes one behind the other, of each two strings of which the reading's bulk is at most 1048576; the row's two tables are as the library's text lays them. -/
import Derived.Test.YtkjjmdmaffeboaaDoorTFrame
import Derived.Test.YtkjjmdmaffeboaaDoorTextX
import Derived.Test.YtkjjmdmaffeboaaDoorBulk
namespace Go.Proofs.YtkjjmdmaffeboaaDoor
open Go.ChangeShapes Go.WideShapes Go.ChangeAt Go.RowKit
open Go.ChangeMaps (open_string shut_string)
set_option linter.unusedVariables false

theorem app_list (s t : ByteArray) : (s ++ t).data.toList = s.data.toList ++ t.data.toList := by simp
theorem app_size (s t : ByteArray) : (s ++ t).size = s.size + t.size := by simp
set_option maxHeartbeats 4000000 in
theorem textJoins_walk (w : World) (hT : Tabs w) (s : ByteArray) (hs : s.size ≤ 1048576) (t : ByteArray) (ht : t.size ≤ 1048576) : Calls Tryd.prog 7 #[.string s, .string t] w (RetT w true) := by
  have hl1 := enc_fit s hs
  have hl2 := enc_fit t ht
  obtain ⟨b1, hb1⟩ : ∃ b, encZ s.data.toList = b := ⟨_, rfl⟩
  obtain ⟨b2, hb2⟩ : ∃ b, encZ t.data.toList = b := ⟨_, rfl⟩
  have hj : Lib.validD s.data.toList = true → Lib.validD t.data.toList = true → Lib.validD (s ++ t).data.toList = true ∧ encZ (s ++ t).data.toList = b1 ++ b2 := fun a b => by
    obtain ⟨e1, e2⟩ := valid_app a b
    rw [app_list]
    exact ⟨e1, by unfold encZ at hb1 hb2 ⊢; rw [e2, mu_app, hb1, hb2]⟩
  have hsz := app_size s t
  obtain ⟨S, hS⟩ : ∃ S : ByteArray, s ++ t = S := ⟨_, rfl⟩
  rw [hS] at hj hsz
  have hSs : S.size ≤ 2097152 := by omega
  rw [hb1] at hl1
  rw [hb2] at hl2
  have HJ := Lib.hid hj
  have H1 := Lib.hid hb1
  have H2 := Lib.hid hb2
  clear hj hb1 hb2 hsz
  go_enter Tryd.func7, Tryd.ntmps7
  go_wp2_with fail
  refine (works_any _ hT).mono ?_
  rintro e w1 ⟨rfl, he1⟩
  go_wp2_with fail
  refine (Encode_any s _ (hT.ext he1) (by omega) (by rw [H1.out]; omega)).mono ?_
  rintro e w2 ⟨u2, rfl, c2, he2⟩
  have x2 : Ext w w2 := he1.trans he2
  rcases c2 with ⟨hv1, v2, rfl, ho2⟩ | ⟨hv1, rfl⟩
  · rw [H1.out] at ho2
    have HV1 := Lib.hid hv1
    clear hv1
    go_wp2_with fail
    refine (Encode_any t _ (hT.ext x2) (by omega) (by rw [H2.out]; omega)).mono ?_
    rintro e w3 ⟨u3, rfl, c3, he3⟩
    have x3 : Ext w w3 := x2.trans he3
    rcases c3 with ⟨hv2, v3, rfl, ho3⟩ | ⟨hv2, rfl⟩
    · rw [H2.out] at ho3
      obtain ⟨hv, hen⟩ := HJ.out HV1.out hv2
      have HV := Lib.hid hv
      have HE := Lib.hid hen
      clear hv hen hv2
      have hll : (b1 ++ b2).length = b1.length + b2.length := List.length_append
      have HL := Lib.hid hll
      clear hll
      go_wp2_with fail
      refine (Encode_any S _ (hT.ext x3) (by omega) (by rw [HE.out, HL.out]; omega)).mono ?_
      rintro e w4 ⟨u4, rfl, ⟨-, v4, rfl, ho4⟩ | ⟨hv, rfl⟩, he4⟩
      rotate_left
      · rw [HV.out] at hv; cases hv
      rw [HE.out] at ho4
      have x4 : Ext w w4 := x3.trans he4
      go_wp2_with fail
      refine (Len_any S _ (hT.ext x4) (by omega) (by rw [HE.out, HL.out]; omega)).mono ?_
      rintro e w5 ⟨u5, rfl, ⟨-, rfl⟩ | ⟨hv, rfl⟩, he5⟩
      rotate_left
      · rw [HV.out] at hv; cases hv
      rw [HE.out, HL.out]
      have x5 : Ext w w5 := x4.trans he5
      have y5 : Ext w2 w5 := (he3.trans he4).trans he5
      go_wp2_with fail
      refine (copyBytes_any _ b1 _ (by exact ho2.row.ext y5) (by omega)).mono ?_
      rintro e w6 ⟨v6, rfl, ho6, he6⟩
      have x6 : Ext w w6 := x5.trans he6
      go_wp2_with (at_builtin; go_loud (refine wpList_app _ rfl _ _ w5.heap.size 22 5 _ 1 .u8 rfl Tryd.underlying22 info8 rfl (by omega) v6 b1 rfl ho6 v3 b2 rfl (ho3.row.ext ((he4.trans he5).trans he6)) (by omega) he6.size ?_))
      intro v7 w7 ho7 hg7 _
      have y7 : Ext w5 w7 := he6.grown hg7 ho6.low
      have x7 : Ext w w7 := x5.trans y7
      go_wp2_with fail
      refine (eqBytes_any _ _ (b1 ++ b2) (b1 ++ b2) _ (by exact ho4.row.ext (he5.trans y7)) (by exact ho7.row)).mono ?_
      rw [decide_eq_true rfl]
      rintro e w8 ⟨rfl, m8, rfl⟩
      obtain ⟨A2, c2, rfl, -⟩ := ho2.row
      obtain ⟨A3, c3, rfl, -⟩ := ho3.row
      go_wp2
      go_ret
      exact ⟨rfl, x7.drewN m8⟩
    · go_wp2
      go_ret
      exact ⟨rfl, x3⟩
  · go_wp2_with fail
    refine (Encode_any t _ (hT.ext x2) (by omega) (by rw [H2.out]; omega)).mono ?_
    rintro e w3 ⟨u3, rfl, c3, he3⟩
    have x3 : Ext w w3 := x2.trans he3
    rcases c3 with ⟨hv2, v3, rfl, ho3⟩ | ⟨hv2, rfl⟩
    · have HV2 := Lib.hid hv2
      clear hv2
      go_wp2
      go_ret
      exact ⟨rfl, x3⟩
    · go_wp2
      go_ret
      exact ⟨rfl, x3⟩

theorem textJoins_fits (os : Os) {H : Type} (enc : TypeId × Value → H) :
    (Rows.OpenSpec.upto Rows.textJoinsSpec).preRow enc Tryd.prog Tryd.f7 Rows.textJoinsUptoRow.domain false Rows.textJoinsUptoRow.laid ((laidWorld os).forCall (fun _ _ => 0) ⟨#[], #[.string ⟨#[]⟩, .string ⟨#[]⟩], []⟩).memory #[.string ⟨#[]⟩, .string ⟨#[]⟩] := by
  have hw : (DataW.whole enc Tryd.prog ((laidWorld os).forCall (fun _ _ => 0) ⟨#[], #[.string ⟨#[]⟩, .string ⟨#[]⟩], []⟩).memory Tryd.f7.params.toList Rows.textJoinsSpec.vars false (#[.string ⟨#[]⟩, .string ⟨#[]⟩] : Array Value).toList 8).map (fun x => (x.1, x.2.1)) = some ([.lit (.string []), .lit (.string [])], []) := by kernel_rfl
  obtain ⟨⟨x1, x2, x3⟩, hx, hx1⟩ := Option.map_eq_some_iff.1 hw
  simp only [Prod.mk.injEq] at hx1
  obtain ⟨rfl, rfl⟩ := hx1
  exact OpenSpec.preRow_of_cond 8 hx (by kernel_rfl) (fun k hk => by cases hk; kernel_rfl) (by kernel_rfl) (laid_met os _)

set_option maxRecDepth 100000 in
set_option maxHeartbeats 2000000 in
theorem textJoins_lifted (os : Os) (started : os.Started) (H : Type) (enc : TypeId × Value → H) (F : Stop.Interp) :
    ReturnsInHanded {} Tryd.checked os 7 .any ((Rows.OpenSpec.upto Rows.textJoinsSpec).preRow enc Tryd.prog Tryd.f7 Rows.textJoinsUptoRow.domain false Rows.textJoinsUptoRow.laid) (((Rows.OpenSpec.upto Rows.textJoinsSpec).at F).post enc Tryd.prog Tryd.f7 false true false false) := by
  refine returnsInHanded_of_row (C := Tryd.checked) (s := (Rows.OpenSpec.upto Rows.textJoinsSpec)) own started (by kernel_rfl) Tryd.func7
    (witness_row_atRef (enc := enc) (C := Tryd.checked) false (laidWorld os) #[.string ⟨#[]⟩, .string ⟨#[]⟩] rfl (by kernel_rfl) (by kernel_rfl) (by kernel_rfl) (textJoins_fits os enc)) ?_
  intro W base args ds gs before hval0 hW _ hcond hsz0 hL _ _
  have hT : Tabs W := tabs_of hL
  have hval : ∀ (j : Nat) t v, Tryd.f7.params[j]? = some t → args[j]? = some v → Value.okWide Tryd.prog W .any base t v := hval0
  have hsz : (DataW.weightsEach Tryd.prog (Tryd.f7.params.toList ++ Rows.textJoinsSpec.plain.varTypes Tryd.prog) (ds ++ gs)).all (· ≤ reachBytes) = true := hsz0
  have hW' := hW
  obtain ⟨p, q, hA0, hV, rfl, hfz, hnd⟩ := hW
  have hA : DataW.TrodAll enc Tryd.prog W 0 (fun _ => true) true Tryd.f7.params.toList args.toList ds p := hA0
  rw [Tryd.params7] at hA hval hsz
  obtain ⟨v0, vs0, d0, ds0, p0, q0, hargs, rfl, rfl, h0, r0⟩ := trodAll_cons hA
  obtain ⟨v1, vs1, d1, ds1, p1, q1, rfl, rfl, rfl, h1, r1⟩ := trodAll_cons r0
  obtain ⟨rfl, rfl, rfl⟩ := trodAll_nil r1
  obtain rfl : args = #[v0, v1] := by cases args; simp_all
  obtain ⟨rfl, rfl⟩ := trodVars_none hV
  have hbk : Rows.uptoBulkAll ([d0, d1] : List (DataW H)) ≤ 1048576 := bulk_bound (hcond _ rfl)
  obtain ⟨a0, rfl, rfl, rfl, w0⟩ := open_string Tryd.underlying9 (hval 0 9 v0 rfl rfl) h0
  have z0 : a0.size ≤ 1048576 := by
    have hb := Nat.le_trans (bulk_part (show (DataW.lit (.string a0.data.toList) : DataW H) ∈ ([.lit (.string a0.data.toList), d1] : List (DataW H)) by simp)) hbk
    rw [bulk_string] at hb
    rw [Lib.size_eq]
    omega
  obtain ⟨a1, rfl, rfl, rfl, w1⟩ := open_string Tryd.underlying9 (hval 1 9 v1 rfl rfl) h1
  have z1 : a1.size ≤ 1048576 := by
    have hb := Nat.le_trans (bulk_part (show (DataW.lit (.string a1.data.toList) : DataW H) ∈ ([.lit (.string a0.data.toList), .lit (.string a1.data.toList)] : List (DataW H)) by simp)) hbk
    rw [bulk_string] at hb
    rw [Lib.size_eq]
    omega
  clear hA0 hval0 hsz0 hcond
  refine (textJoins_walk W hT a0 z0 a1 z1).mono fun e W' ⟨he, bel⟩ => ?_
  subst he
  exact ⟨_, rfl, _, _, _, [], _, [], hW', trodAll_mk1 (shut_bool Tryd.underlying4 _), (trodAll_cons_mk (shut_string Tryd.underlying9 w0) (trodAll_cons_mk (shut_string Tryd.underlying9 w1) trodAll_mk0)), rfl, bel.frame _, fun h => by cases h⟩

theorem textJoins_over : Rows.TextJoinsUptoSaid :=
  OpenClaim.holds_of_cond 7 Tryd.f7 rfl rfl rfl rfl rfl rfl rfl ⟨rfl, rfl, rfl, rfl, rfl⟩ rfl rfl rfl rfl rfl (by kernel_rfl) Tryd.func7 (by kernel_rfl)
    (of_decide_eq_true (by kernel_rfl)) (by unfold Func.isWrapper; first | (rw [if_pos (by decide +kernel)]; kernel_rfl) | (rw [if_neg (by decide +kernel)]; exact ⟨rfl, rfl⟩))
    (fun os started H enc _ F => by rw [OpenClaim.pre_eq_preRow]; exact textJoins_lifted os started H enc F)
theorem textJoins_plain (f : FuncId) (fn : Func) (hf : Tryd.pinned.checked.prog.funcNamed "warpbeam/warpbeamlaw02.TextJoins" = some f) (hfn : Tryd.pinned.checked.prog.funcs[f]? = some fn) :
    false = Tryd.pinned.checked.prog.looks [] ∧ ∀ (j : Nat) t, fn.params[j]? = some t → Tryd.pinned.checked.prog.wantsStandIn t = false := by
  obtain rfl : f = 7 := Option.some.inj ((show Tryd.prog.funcNamed "warpbeam/warpbeamlaw02.TextJoins" = some 7 by kernel_rfl).symm.trans hf) |>.symm
  obtain rfl : fn = Tryd.f7 := (Option.some.inj (Tryd.func7.symm.trans hfn)).symm
  refine ⟨by kernel_rfl, fun j t ht => ?_⟩
  rw [Tryd.params7] at ht
  have hm := Array.mem_of_getElem? ht
  simp only [List.mem_toArray, List.mem_cons, List.not_mem_nil, or_false, or_self] at hm
  subst hm
  exact (show Tryd.prog.wantsStandIn 9 = false by kernel_rfl)

/-- The statement. -/
theorem textJoins_proved : Rows.TextJoinsUptoCardSaid :=
  Claim7.holds_tied_plain_at .later [] _ _ _ _ textJoins_over (fun _ h => by cases h) (by kernel_rfl) (fun _ h => by cases h) textJoinsUpto_row_tie rfl ⟨rfl, rfl⟩ (by kernel_rfl) rfl textJoins_plain (by kernel_rfl)
#print axioms textJoins_proved
end Go.Proofs.YtkjjmdmaffeboaaDoor
