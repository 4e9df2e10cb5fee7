/- TextPlaces: what stands ahead of the place of an error can be decoded, and nothing that goes on from there like that can, of all bytes, and others, of which the reading's bulk is at most 1048576; the row's two tables are as the library's text lays them. -/
import Derived.Test.YtkjjmdmaffeboaaDoorTFrame
import Derived.Test.YtkjjmdmaffeboaaDoorTextX
import Derived.Test.YtkjjmdmaffeboaaDoorBulk
namespace Go.Proofs.YtkjjmdmaffeboaaDoor
open Go.ChangeShapes Go.WideShapes Go.ChangeAt Go.RowKit
open Go.ChangeMaps (open_string shut_string)
set_option linter.unusedVariables false

set_option maxHeartbeats 4000000 in
theorem textPlaces_walk (w : World) (hT : Tabs w) (v : Value) (b : List Int) (h : Row w .u8 v b) (hl : b.length ≤ 1048576) (v0 : Value) (m : List Int) (h0 : Row w .u8 v0 m) (hm : m.length ≤ 1048576) : Calls Tryd.prog 8 #[v, v0] w (RetT w true) := by
  have hf := h.fit
  have HH := Lib.hid (chs_head hf)
  have HM := Lib.hid (fun k => chs_more hf k m)
  have hsl := (chs_sound hf).2.2
  have hlt : (b.take (stop b)).length = stop b := by rw [List.length_take]; omega
  have HLT := Lib.hid hlt
  obtain ⟨v2, hs1, hs2, hh⟩ := head_slice h (stop b) hsl
  have HF := Lib.hid hf
  have hk := h
  obtain ⟨A, c, rfl, -, -, -⟩ := hk
  clear hf hlt
  have hbm : (b ++ m).length = b.length + m.length := List.length_append
  have HBM := Lib.hid hbm
  clear hbm
  go_enter Tryd.func8, Tryd.ntmps8
  go_wp2_with fail
  refine (works_any _ hT).mono ?_
  rintro e w1 ⟨rfl, he1⟩
  go_wp2_with fail
  refine (Decode_any _ b _ (by exact h.ext he1) (by omega)).mono ?_
  rintro e w2 ⟨u2, rfl, ⟨hst, rfl⟩ | ⟨hlt, rfl⟩, he2⟩
  · have HST := Lib.hid hst
    clear hst
    go_wp2
    go_ret
    exact ⟨rfl, he1.trans he2⟩
  · have x2 : Ext w w2 := he1.trans he2
    obtain ⟨k, hk⟩ : ∃ k, stop b = k := ⟨_, rfl⟩
    rw [hk] at hs1 hs2 hh hlt hsl ⊢
    have HK := Lib.hid hk
    clear hk
    go_wp2_with fail
    refine (Decode_any v2 (b.take k) _ (by exact hh.ext x2) (by simp only [List.length_take]; omega)).mono ?_
    rintro e w3 ⟨u3, rfl, ⟨-, rfl⟩ | ⟨hlt3, rfl⟩, he3⟩
    rotate_left
    · exact absurd hlt3 (by rw [← HK.out, HH.out.2]; exact Nat.lt_irrefl _)
    have x3 : Ext w w3 := x2.trans he3
    by_cases h6 : (b.length : Int) - (k : Int) < 6
    · go_wp2
      go_ret
      exact ⟨rfl, x3⟩
    · have hc2 := HM.out (by rw [HK.out]; omega)
      have hst2 : stop (b ++ m) = k := by unfold stop; rw [hc2]; exact HK.out
      have HS2 := Lib.hid hst2
      clear hc2 hst2
      go_wp2_with fail
      refine (copyBytes_any _ b _ (by exact h.ext x3) (by omega)).mono ?_
      rintro e w4 ⟨v4, rfl, ho4, he4⟩
      have x4 : Ext w w4 := x3.trans he4
      go_wp2_with (at_builtin; go_loud (refine wpList_app _ rfl _ _ w3.heap.size 22 5 _ 1 .u8 rfl Tryd.underlying22 info8 rfl (by omega) v4 b rfl ho4 v0 m rfl (h0.ext x4) (by omega) he4.size ?_))
      intro v5 w5 ho5 hg5 _
      have y5 : Ext w3 w5 := he4.grown hg5 ho4.low
      have x5 : Ext w w5 := x3.trans y5
      go_wp2_with fail
      refine (Decode_any v5 (b ++ m) _ (by exact ho5.row) (by rw [HBM.out]; omega)).mono ?_
      rintro e w6 ⟨u6, rfl, ⟨hst6, rfl⟩ | ⟨-, rfl⟩, he6⟩
      · rw [HS2.out, HBM.out] at hst6
        omega
      rw [HS2.out]
      go_wp2
      go_ret
      exact ⟨rfl, x5.trans he6⟩

theorem textPlaces_fits (os : Os) {H : Type} (enc : TypeId × Value → H) :
    (Rows.OpenSpec.upto Rows.textPlacesSpec).preRow enc Tryd.prog Tryd.f8 Rows.textPlacesUptoRow.domain false Rows.textPlacesUptoRow.laid ((laidWorld os).forCall (fun _ _ => 0) ⟨#[], #[.slice none 0 0, .slice none 0 0], []⟩).memory #[.slice none 0 0, .slice none 0 0] := by
  have hw : (DataW.whole enc Tryd.prog ((laidWorld os).forCall (fun _ _ => 0) ⟨#[], #[.slice none 0 0, .slice none 0 0], []⟩).memory Tryd.f8.params.toList Rows.textPlacesSpec.vars false (#[.slice none 0 0, .slice none 0 0] : Array Value).toList 8).map (fun x => (x.1, x.2.1)) = some ([.nil, .nil], []) := by kernel_rfl
  obtain ⟨⟨x1, x2, x3⟩, hx, hx1⟩ := Option.map_eq_some_iff.1 hw
  simp only [Prod.mk.injEq] at hx1
  obtain ⟨rfl, rfl⟩ := hx1
  exact OpenSpec.preRow_of_cond 8 hx (by kernel_rfl) (fun k hk => by cases hk; kernel_rfl) (by kernel_rfl) (laid_met os _)

set_option maxRecDepth 100000 in
set_option maxHeartbeats 2000000 in
theorem textPlaces_lifted (os : Os) (started : os.Started) (H : Type) (enc : TypeId × Value → H) (F : Stop.Interp) :
    ReturnsInHanded {} Tryd.checked os 8 .any ((Rows.OpenSpec.upto Rows.textPlacesSpec).preRow enc Tryd.prog Tryd.f8 Rows.textPlacesUptoRow.domain false Rows.textPlacesUptoRow.laid) (((Rows.OpenSpec.upto Rows.textPlacesSpec).at F).post enc Tryd.prog Tryd.f8 false true false false) := by
  refine returnsInHanded_of_row (C := Tryd.checked) (s := (Rows.OpenSpec.upto Rows.textPlacesSpec)) own started (by kernel_rfl) Tryd.func8
    (witness_row_atRef (enc := enc) (C := Tryd.checked) false (laidWorld os) #[.slice none 0 0, .slice none 0 0] rfl (by kernel_rfl) (by kernel_rfl) (by kernel_rfl) (textPlaces_fits os enc)) ?_
  intro W base args ds gs before hval0 hW _ hcond hsz0 hL _ _
  have hT : Tabs W := tabs_of hL
  have hval : ∀ (j : Nat) t v, Tryd.f8.params[j]? = some t → args[j]? = some v → Value.okWide Tryd.prog W .any base t v := hval0
  have hsz : (DataW.weightsEach Tryd.prog (Tryd.f8.params.toList ++ Rows.textPlacesSpec.plain.varTypes Tryd.prog) (ds ++ gs)).all (· ≤ reachBytes) = true := hsz0
  have hW' := hW
  obtain ⟨p, q, hA0, hV, rfl, hfz, hnd⟩ := hW
  have hA : DataW.TrodAll enc Tryd.prog W 0 (fun _ => true) true Tryd.f8.params.toList args.toList ds p := hA0
  rw [Tryd.params8] at hA hval hsz
  obtain ⟨v0, vs0, d0, ds0, p0, q0, hargs, rfl, rfl, h0, r0⟩ := trodAll_cons hA
  obtain ⟨v1, vs1, d1, ds1, p1, q1, rfl, rfl, rfl, h1, r1⟩ := trodAll_cons r0
  obtain ⟨rfl, rfl, rfl⟩ := trodAll_nil r1
  obtain rfl : args = #[v0, v1] := by cases args; simp_all
  obtain ⟨rfl, rfl⟩ := trodVars_none hV
  have hbk : Rows.uptoBulkAll ([d0, d1] : List (DataW H)) ≤ 1048576 := bulk_bound (hcond _ rfl)
  obtain ⟨a0, len0, cap0, rfl⟩ := okWide_slice Tryd.underlying22 (hval 0 22 v0 rfl rfl)
  have k0 := h0
  have lt0 : ∀ x ∈ p0, x.block < W.heap.size := by obtain ⟨m, hm⟩ := k0; exact DataW.trod_lt m _ _ _ hm
  obtain ⟨l0, w0, z0⟩ : ∃ l, Row W .u8 (.slice a0 len0 cap0) l ∧ l.length ≤ 1048576 := by
    obtain ⟨fuel, hf⟩ := h0
    rcases open_ints Tryd.underlying22 Tryd.underlying5 (by kernel_rfl) hf with ⟨hcs, _⟩ | ⟨x, l, c, zs, hcs, _, hl, hm, hz, hx, hcell, hwz⟩
    · simp [Value.cells] at hcs
      obtain ⟨rfl, rfl, rfl⟩ := hcs
      exact ⟨[], (Own.nil 0 _ 0 _).row, by simp⟩
    · simp [Value.cells] at hcs
      obtain ⟨rfl, rfl, rfl⟩ := hcs
      simp only [if_true] at hz
      refine ⟨_, row_of_open hl hm hz hcell hwz, ?_⟩
      have hd : d0 = _ := congrArg Prod.fst hx
      have hb := Nat.le_trans (bulk_part (show d0 ∈ ([d0, d1] : List (DataW H)) by simp)) hbk
      rw [hd] at hb
      have hb2 := Nat.le_trans (bulk_slice _ _) hb
      simp only [lits, List.length_map, List.length_take, List.length_drop] at hb2
      simp only [List.length_take]
      omega
  obtain ⟨a1, len1, cap1, rfl⟩ := okWide_slice Tryd.underlying22 (hval 1 22 v1 rfl rfl)
  have k1 := h1
  have lt1 : ∀ x ∈ p1, x.block < W.heap.size := by obtain ⟨m, hm⟩ := k1; exact DataW.trod_lt m _ _ _ hm
  obtain ⟨l1, w1, z1⟩ : ∃ l, Row W .u8 (.slice a1 len1 cap1) l ∧ l.length ≤ 1048576 := by
    obtain ⟨fuel, hf⟩ := h1
    rcases open_ints Tryd.underlying22 Tryd.underlying5 (by kernel_rfl) hf with ⟨hcs, _⟩ | ⟨x, l, c, zs, hcs, _, hl, hm, hz, hx, hcell, hwz⟩
    · simp [Value.cells] at hcs
      obtain ⟨rfl, rfl, rfl⟩ := hcs
      exact ⟨[], (Own.nil 0 _ 0 _).row, by simp⟩
    · simp [Value.cells] at hcs
      obtain ⟨rfl, rfl, rfl⟩ := hcs
      simp only [if_true] at hz
      refine ⟨_, row_of_open hl hm hz hcell hwz, ?_⟩
      have hd : d1 = _ := congrArg Prod.fst hx
      have hb := Nat.le_trans (bulk_part (show d1 ∈ ([d0, d1] : List (DataW H)) by simp)) hbk
      rw [hd] at hb
      have hb2 := Nat.le_trans (bulk_slice _ _) hb
      simp only [lits, List.length_map, List.length_take, List.length_drop] at hb2
      simp only [List.length_take]
      omega
  clear hA0 hval0 hsz0 hcond
  refine (textPlaces_walk W hT (.slice a0 len0 cap0) l0 w0 z0 (.slice a1 len1 cap1) l1 w1 z1).mono fun e W' ⟨he, bel⟩ => ?_
  subst he
  exact ⟨_, rfl, _, _, _, [], _, [], hW', trodAll_mk1 (shut_bool Tryd.underlying4 _), (trodAll_cons_mk (Below.trod laidOut (by kernel_rfl) (of_decide_eq_true (by kernel_rfl)) k0 bel lt0) (trodAll_cons_mk (Below.trod laidOut (by kernel_rfl) (of_decide_eq_true (by kernel_rfl)) k1 bel lt1) trodAll_mk0)), rfl, bel.frame _, fun h => by cases h⟩

theorem textPlaces_over : Rows.TextPlacesUptoSaid :=
  OpenClaim.holds_of_cond 8 Tryd.f8 rfl rfl rfl rfl rfl rfl rfl ⟨rfl, rfl, rfl, rfl, rfl⟩ rfl rfl rfl rfl rfl (by kernel_rfl) Tryd.func8 (by kernel_rfl)
    (of_decide_eq_true (by kernel_rfl)) (by unfold Func.isWrapper; first | (rw [if_pos (by decide +kernel)]; kernel_rfl) | (rw [if_neg (by decide +kernel)]; exact ⟨rfl, rfl⟩))
    (fun os started H enc _ F => by rw [OpenClaim.pre_eq_preRow]; exact textPlaces_lifted os started H enc F)
theorem textPlaces_plain (f : FuncId) (fn : Func) (hf : Tryd.pinned.checked.prog.funcNamed "warpbeam/warpbeamlaw02.TextPlaces" = some f) (hfn : Tryd.pinned.checked.prog.funcs[f]? = some fn) :
    false = Tryd.pinned.checked.prog.looks [] ∧ ∀ (j : Nat) t, fn.params[j]? = some t → Tryd.pinned.checked.prog.wantsStandIn t = false := by
  obtain rfl : f = 8 := Option.some.inj ((show Tryd.prog.funcNamed "warpbeam/warpbeamlaw02.TextPlaces" = some 8 by kernel_rfl).symm.trans hf) |>.symm
  obtain rfl : fn = Tryd.f8 := (Option.some.inj (Tryd.func8.symm.trans hfn)).symm
  refine ⟨by kernel_rfl, fun j t ht => ?_⟩
  rw [Tryd.params8] at ht
  have hm := Array.mem_of_getElem? ht
  simp only [List.mem_toArray, List.mem_cons, List.not_mem_nil, or_false, or_self] at hm
  subst hm
  exact (show Tryd.prog.wantsStandIn 22 = false by kernel_rfl)

/-- The statement. -/
theorem textPlaces_proved : Rows.TextPlacesUptoCardSaid :=
  Claim7.holds_tied_plain_at .later [] _ _ _ _ textPlaces_over (fun _ h => by cases h) (by kernel_rfl) (fun _ h => by cases h) textPlacesUpto_row_tie rfl ⟨rfl, rfl⟩ (by kernel_rfl) rfl textPlaces_plain (by kernel_rfl)
#print axioms textPlaces_proved
end Go.Proofs.YtkjjmdmaffeboaaDoor
