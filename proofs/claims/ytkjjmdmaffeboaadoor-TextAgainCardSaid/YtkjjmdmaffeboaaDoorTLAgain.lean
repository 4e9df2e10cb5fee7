/- TextAgain: what can be decoded is a text, and encoded so, of any bytes; the row's two tables are as the library's text lays them. -/
import Derived.Test.YtkjjmdmaffeboaaDoorTFrame
import Derived.Test.YtkjjmdmaffeboaaDoorTextX
namespace Go.Proofs.YtkjjmdmaffeboaaDoor
open Go.ChangeShapes Go.WideShapes Go.ChangeAt Go.RowKit
open Go.ChangeMaps (open_string shut_string)
set_option linter.unusedVariables false

set_option maxHeartbeats 4000000 in
theorem textAgain_walk (w : World) (hT : Tabs w) (v : Value) (b : List Int) (h : Row w .u8 v b) (hl : b.length ≤ 140737488351232) : Calls Tryd.prog 6 #[v] w (RetT w true) := by
  have HD := Lib.hid (@dec_back b h.fit)
  have hk := h
  obtain ⟨A, c, rfl, -, -, -⟩ := hk
  go_enter Tryd.func6, Tryd.ntmps6
  go_wp2_with fail
  refine (works_any _ hT).mono ?_
  rintro e w1 ⟨rfl, he1⟩
  go_wp2_with fail
  refine (Decode_any _ b _ (by exact h.ext he1) (by omega)).mono ?_
  rintro e w2 ⟨u2, rfl, ⟨hst, rfl⟩ | ⟨hlt, rfl⟩, he2⟩
  · obtain ⟨S, hS⟩ : ∃ S : ByteArray, (⟨(utf (chs b)).toArray⟩ : ByteArray) = S := ⟨_, rfl⟩
    obtain ⟨hv, hen, hsz⟩ := HD.out hst S hS
    rw [hS]
    have HV := Lib.hid hv
    have HE := Lib.hid hen
    clear hv hen hS hst
    have x2 : Ext w w2 := he1.trans he2
    go_wp2_with fail
    refine (Encode_any S _ (hT.ext x2) (by omega) (by rw [HE.out]; omega)).mono ?_
    rintro e w3 ⟨u3, rfl, ⟨-, v3, rfl, ho3⟩ | ⟨hv, rfl⟩, he3⟩
    rotate_left
    · rw [HV.out] at hv; cases hv
    rw [HE.out] at ho3
    have x3 : Ext w w3 := x2.trans he3
    go_wp2_with fail
    refine (Tryd.utf8_ValidString S _ (by omega) (hT.ext x3)).mono ?_
    rw [HV.out]
    rintro e w4 ⟨rfl, he4⟩
    have x4 : Ext w w4 := x3.trans he4
    go_wp2_with fail
    refine (eqBytes_any _ _ b b _ (by exact h.ext x4) (by exact ho3.row.ext he4)).mono ?_
    rw [decide_eq_true rfl]
    rintro e w5 ⟨rfl, m5, rfl⟩
    go_wp2
    go_ret
    exact ⟨rfl, x4.drewN m5⟩
  · go_wp2
    go_ret
    exact ⟨rfl, he1.trans he2⟩

theorem textAgain_fits (os : Os) {H : Type} (enc : TypeId × Value → H) :
    (OpenSpec.ofChange Rows.textAgainSpec).preRow enc Tryd.prog Tryd.f6 Rows.textAgainRow.domain false Rows.textAgainRow.laid ((laidWorld os).forCall (fun _ _ => 0) ⟨#[], #[.slice none 0 0], []⟩).memory #[.slice none 0 0] := by
  have hw : (DataW.whole enc Tryd.prog ((laidWorld os).forCall (fun _ _ => 0) ⟨#[], #[.slice none 0 0], []⟩).memory Tryd.f6.params.toList Rows.textAgainSpec.vars false (#[.slice none 0 0] : Array Value).toList 8).map (fun x => (x.1, x.2.1)) = some ([.nil], []) := by kernel_rfl
  obtain ⟨⟨x1, x2, x3⟩, hx, hx1⟩ := Option.map_eq_some_iff.1 hw
  simp only [Prod.mk.injEq] at hx1
  obtain ⟨rfl, rfl⟩ := hx1
  exact OpenSpec.preRow_of_cond 8 hx (by kernel_rfl) (fun k hk => by cases hk) (by kernel_rfl) (laid_met os _)

set_option maxRecDepth 100000 in
set_option maxHeartbeats 2000000 in
theorem textAgain_lifted (os : Os) (started : os.Started) (H : Type) (enc : TypeId × Value → H) (F : Stop.Interp) :
    ReturnsInHanded {} Tryd.checked os 6 .any ((OpenSpec.ofChange Rows.textAgainSpec).preRow enc Tryd.prog Tryd.f6 Rows.textAgainRow.domain false Rows.textAgainRow.laid) (((OpenSpec.ofChange Rows.textAgainSpec).at F).post enc Tryd.prog Tryd.f6 false true false false) := by
  refine returnsInHanded_of_row (C := Tryd.checked) (s := (OpenSpec.ofChange Rows.textAgainSpec)) own started (by kernel_rfl) Tryd.func6
    (witness_row_atRef (enc := enc) (C := Tryd.checked) false (laidWorld os) #[.slice none 0 0] rfl (by kernel_rfl) (by kernel_rfl) (by kernel_rfl) (textAgain_fits os enc)) ?_
  intro W base args ds gs before hval0 hW _ hcond hsz0 hL _ _
  have hT : Tabs W := tabs_of hL
  have hval : ∀ (j : Nat) t v, Tryd.f6.params[j]? = some t → args[j]? = some v → Value.okWide Tryd.prog W .any base t v := hval0
  have hsz : (DataW.weightsEach Tryd.prog (Tryd.f6.params.toList ++ Rows.textAgainSpec.plain.varTypes Tryd.prog) (ds ++ gs)).all (· ≤ reachBytes) = true := hsz0
  have hW' := hW
  obtain ⟨p, q, hA0, hV, rfl, hfz, hnd⟩ := hW
  have hA : DataW.TrodAll enc Tryd.prog W 0 (fun _ => true) true Tryd.f6.params.toList args.toList ds p := hA0
  rw [Tryd.params6] at hA hval hsz
  obtain ⟨v0, vs0, d0, ds0, p0, q0, hargs, rfl, rfl, h0, r0⟩ := trodAll_cons hA
  obtain ⟨rfl, rfl, rfl⟩ := trodAll_nil r0
  obtain rfl : args = #[v0] := by cases args; simp_all
  obtain ⟨rfl, rfl⟩ := trodVars_none hV
  obtain ⟨a0, len0, cap0, rfl⟩ := okWide_slice Tryd.underlying22 (hval 0 22 v0 rfl rfl)
  have k0 := h0
  have lt0 : ∀ x ∈ p0, x.block < W.heap.size := by obtain ⟨m, hm⟩ := k0; exact DataW.trod_lt m _ _ _ hm
  obtain ⟨l0, w0, z0⟩ : ∃ l, Row W .u8 (.slice a0 len0 cap0) l ∧ l.length ≤ 140737488351232 := by
    obtain ⟨fuel, hf⟩ := h0
    rcases open_ints Tryd.underlying22 Tryd.underlying5 (by kernel_rfl) hf with ⟨hcs, _⟩ | ⟨x, l, c, zs, hcs, _, hl, hm, hz, hx, hcell, hwz⟩
    · simp [Value.cells] at hcs
      obtain ⟨rfl, rfl, rfl⟩ := hcs
      exact ⟨[], (Own.nil 0 _ 0 _).row, by simp⟩
    · simp [Value.cells] at hcs
      obtain ⟨rfl, rfl, rfl⟩ := hcs
      simp only [if_true] at hz
      refine ⟨_, row_of_open hl hm hz hcell hwz, ?_⟩
      have hd : d0 = _ := congrArg Prod.fst hx
      have hs := sized_slice hsz (j := 0) rfl (by rw [hd]; rfl) Tryd.underlying22
      rw [bytes8] at hs
      simp only [lits, List.length_map, List.length_take, List.length_drop, reachBytes] at hs
      simp only [List.length_take]
      omega
  clear hA0 hval0 hsz0 hcond
  refine (textAgain_walk W hT (.slice a0 len0 cap0) l0 w0 z0).mono fun e W' ⟨he, bel⟩ => ?_
  subst he
  exact ⟨_, rfl, _, _, _, [], _, [], hW', trodAll_mk1 (shut_bool Tryd.underlying4 _), (trodAll_cons_mk (Below.trod laidOut (by kernel_rfl) (of_decide_eq_true (by kernel_rfl)) k0 bel lt0) trodAll_mk0), rfl, bel.frame _, fun h => by cases h⟩

theorem textAgain_over : Rows.TextAgainSaid :=
  OpenClaim.holds_of_cond 6 Tryd.f6 rfl rfl rfl rfl rfl rfl rfl ⟨rfl, rfl, rfl, rfl, rfl⟩ rfl rfl rfl rfl rfl (by kernel_rfl) Tryd.func6 (by kernel_rfl)
    (of_decide_eq_true (by kernel_rfl)) (by unfold Func.isWrapper; first | (rw [if_pos (by decide +kernel)]; kernel_rfl) | (rw [if_neg (by decide +kernel)]; exact ⟨rfl, rfl⟩))
    (fun os started H enc _ F => by rw [OpenClaim.pre_eq_preRow]; exact textAgain_lifted os started H enc F)
theorem textAgain_plain (f : FuncId) (fn : Func) (hf : Tryd.pinned.checked.prog.funcNamed "warpbeam/warpbeamlaw02.TextAgain" = some f) (hfn : Tryd.pinned.checked.prog.funcs[f]? = some fn) :
    false = Tryd.pinned.checked.prog.looks [] ∧ ∀ (j : Nat) t, fn.params[j]? = some t → Tryd.pinned.checked.prog.wantsStandIn t = false := by
  obtain rfl : f = 6 := Option.some.inj ((show Tryd.prog.funcNamed "warpbeam/warpbeamlaw02.TextAgain" = some 6 by kernel_rfl).symm.trans hf) |>.symm
  obtain rfl : fn = Tryd.f6 := (Option.some.inj (Tryd.func6.symm.trans hfn)).symm
  refine ⟨by kernel_rfl, fun j t ht => ?_⟩
  rw [Tryd.params6] at ht
  have hm := Array.mem_of_getElem? ht
  simp only [List.mem_toArray, List.mem_cons, List.not_mem_nil, or_false] at hm
  subst hm
  exact (show Tryd.prog.wantsStandIn 22 = false by kernel_rfl)

/-- The statement. -/
theorem textAgain_proved : Rows.TextAgainCardSaid :=
  Claim7.holds_tied_plain_at .later [] _ _ _ _ textAgain_over (fun _ h => by cases h) (by kernel_rfl) (fun _ h => by cases h) textAgain_row_tie rfl ⟨rfl, rfl⟩ (by kernel_rfl) rfl textAgain_plain (by kernel_rfl)
#print axioms textAgain_proved
end Go.Proofs.YtkjjmdmaffeboaaDoor
