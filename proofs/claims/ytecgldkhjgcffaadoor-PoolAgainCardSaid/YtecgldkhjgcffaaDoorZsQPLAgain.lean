/- PoolAgain: what can be read may be, and is written so, of any bytes; the row's two tables are as the library's text lays them. -/
import Derived.Test.YtecgldkhjgcffaaDoorZsL
import Derived.Test.YtecgldkhjgcffaaDoorZsX
namespace Go.Proofs.YtecgldkhjgcffaaDoor
open Go.ChangeShapes Go.WideShapes Go.ChangeAt Go.RowKit
open Go.ChangeMaps (open_string shut_string)
set_option linter.unusedVariables false
set_option maxRecDepth 100000 in
set_option maxHeartbeats 8000000 in
theorem poolAgain_walk (w : World) (hT : Tabs w) (v : Value) (b : List Int) (h : Row w .u8 v b) (hl : b.length ≤ 140737488351232) : Calls Tryd.prog 6 #[v] w (RetB w true) := by
  have HB := Lib.hid (parse_back h.fit)
  have HX := Lib.hid (many_texts h.fit hl)
  go_enter Tryd.func6, Tryd.ntmps6
  go_wp2_with fail
  refine (works_any _ hT).mono ?_
  rintro e w1 ⟨rfl, x1⟩
  go_wp2_with fail
  refine (Parse_any v b _ (by exact h.ext x1) (hT.ext x1) (by omega)).mono ?_
  rintro e w2 ⟨u2, rfl, ⟨he, x, y, rfl, hx, hy⟩ | ⟨he, rfl⟩, x2'⟩
  · obtain ⟨hc, hb, -⟩ := HB.out he
    have x2 := x1.trans x2'
    have HC := Lib.hid hc
    have HBB := Lib.hid hb
    have hlen := congrArg List.length hb
    rw [List.length_append] at hlen
    have HL := Lib.hid hlen
    clear hc hb hlen he
    obtain ⟨A1, k1, hb1, _⟩ := hx.row
    subst hb1
    obtain ⟨A2, k2, hb2, _⟩ := hy.row
    subst hb2
    have HX2 := Lib.hid hx
    have HY2 := Lib.hid hy
    clear hx hy
    go_wp2_with fail
    refine (Bytes_any _ (manyZ b).1 _ (by exact HX2.out.row) (hT.ext x2) HX.out (fun _ => by have := HL.out; omega)).mono ?_
    rintro e w3 ⟨u3, rfl, ⟨-, c, rfl, hco⟩ | ⟨hn, _⟩, x3'⟩
    rotate_left
    · exact absurd HC.out hn
    have x3 := x2.trans x3'
    go_wp2_with fail
    refine (Check_any _ (manyZ b).1 _ (by exact HX2.out.row.ext x3') (hT.ext x3) HX.out).mono ?_
    rw [HC.out]
    rintro e w4 ⟨rfl, x4'⟩
    have x4 := x3.trans x4'
    have y4 := x3'.trans x4'
    go_wp2_with (at_builtin; go_loud (refine wpList_app _ rfl _ _ w2.heap.size 22 5 _ 1 .u8 rfl Tryd.underlying22 info8 rfl (by omega) c (bytesZ (manyZ b).1) rfl (hco.ext x4') _ (manyZ b).2.1 rfl (HY2.out.row.ext y4) (by have := HL.out; omega) (by have := y4.size; omega) ?_); intro v5 w5 ho5 hg5 hb5)
    have x5 : Ext w w5 := x4.grown hg5 (fun g hg => by have := hco.low g hg; have := x2.size; omega)
    rw [HBB.out] at ho5
    go_wp2_with fail
    refine (eqBytes_yes v5 v b _ (by exact ho5.row) (by exact h.ext x5)).mono ?_
    rintro e w6 ⟨rfl, q6⟩
    go_wp2
    go_ret
    exact ⟨rfl, x5.trans q6⟩
  · have HE := Lib.hid (show ((errZ b) != 0) = true by simpa using he)
    have hE := HE.out
    go_wp2
    go_ret
    exact ⟨rfl, x1.trans x2'⟩

theorem poolAgain_fits (os : Os) {H : Type} (enc : TypeId × Value → H) :
    (OpenSpec.ofChange Rows.poolAgainSpec).preRow enc Tryd.prog Tryd.f6 Rows.poolAgainRow.domain false Rows.poolAgainRow.laid ((laidWorld os).forCall (fun _ _ => 0) ⟨#[], #[.slice none 0 0], []⟩).memory #[.slice none 0 0] := by
  have hw : (DataW.whole enc Tryd.prog ((laidWorld os).forCall (fun _ _ => 0) ⟨#[], #[.slice none 0 0], []⟩).memory Tryd.f6.params.toList Rows.poolAgainSpec.vars false (#[.slice none 0 0] : Array Value).toList 8).map (fun x => (x.1, x.2.1)) = some ([.nil], []) := by kernel_rfl
  obtain ⟨⟨x1, x2, x3⟩, hx, hx1⟩ := Option.map_eq_some_iff.1 hw
  simp only [Prod.mk.injEq] at hx1
  obtain ⟨rfl, rfl⟩ := hx1
  exact OpenSpec.preRow_of_cond 8 hx (by kernel_rfl) (fun k hk => by cases hk) (by kernel_rfl) (laid_met os _)

set_option maxRecDepth 100000 in
set_option maxHeartbeats 2000000 in
theorem poolAgain_lifted (os : Os) (started : os.Started) (H : Type) (enc : TypeId × Value → H) (F : Stop.Interp) :
    ReturnsInHanded {} Tryd.checked os 6 .any ((OpenSpec.ofChange Rows.poolAgainSpec).preRow enc Tryd.prog Tryd.f6 Rows.poolAgainRow.domain false Rows.poolAgainRow.laid) (((OpenSpec.ofChange Rows.poolAgainSpec).at F).post enc Tryd.prog Tryd.f6 false true false false) := by
  refine returnsInHanded_of_row (C := Tryd.checked) (s := (OpenSpec.ofChange Rows.poolAgainSpec)) own started (by kernel_rfl) Tryd.func6
    (witness_row_atRef (enc := enc) (C := Tryd.checked) false (laidWorld os) #[.slice none 0 0] rfl (by kernel_rfl) (by kernel_rfl) (by kernel_rfl) (poolAgain_fits os enc)) ?_
  intro W base args ds gs before hval0 hW _ hcond hsz0 hL _ _
  have hT : Tabs W := tabs_of hL
  have hval : ∀ (j : Nat) t v, Tryd.f6.params[j]? = some t → args[j]? = some v → Value.okWide Tryd.prog W .any base t v := hval0
  have hsz : (DataW.weightsEach Tryd.prog (Tryd.f6.params.toList ++ Rows.poolAgainSpec.plain.varTypes Tryd.prog) (ds ++ gs)).all (· ≤ reachBytes) = true := hsz0
  have hW' := hW
  obtain ⟨p, q, hA0, hV, rfl, hfz, hnd⟩ := hW
  have hA : DataW.TrodAll enc Tryd.prog W 0 (fun _ => true) true Tryd.f6.params.toList args.toList ds p := hA0
  rw [Tryd.params6] at hA hval hsz
  obtain ⟨v0, vs0, d0, ds0, p0, q0, hargs, rfl, rfl, h0, r0⟩ := trodAll_cons hA
  obtain ⟨rfl, rfl, rfl⟩ := trodAll_nil r0
  obtain rfl : args = #[v0] := by cases args; simp_all
  obtain ⟨rfl, rfl⟩ := trodVars_none hV
  obtain ⟨a0, len0, cap0, rfl⟩ := okWide_slice Tryd.underlying22 (hval 0 22 v0 rfl rfl)
  have k0 := h0
  have lt0 : ∀ x ∈ p0, x.block < W.heap.size := by obtain ⟨m, hm⟩ := k0; exact DataW.trod_lt m _ _ _ hm
  obtain ⟨l0, w0, z0⟩ : ∃ l, Row W .u8 (.slice a0 len0 cap0) l ∧ l.length ≤ 140737488351232 := by
    obtain ⟨fuel, hf⟩ := h0
    rcases open_ints Tryd.underlying22 Tryd.underlying5 (by kernel_rfl) hf with ⟨hcs, _⟩ | ⟨x, l, c, zs, hcs, _, hl, hm, hz, hx, hcell, hwz⟩
    · simp [Value.cells] at hcs
      obtain ⟨rfl, rfl, rfl⟩ := hcs
      exact ⟨[], (Own.nil 0 _ 0 _).row, by simp⟩
    · simp [Value.cells] at hcs
      obtain ⟨rfl, rfl, rfl⟩ := hcs
      simp only [if_true] at hz
      refine ⟨_, row_of_open hl hm hz hcell hwz, ?_⟩
      have hd : d0 = _ := congrArg Prod.fst hx
      have hs := sized_slice hsz (j := 0) rfl (by rw [hd]; rfl) Tryd.underlying22
      rw [bytes8] at hs
      simp only [lits, List.length_map, List.length_take, List.length_drop, reachBytes] at hs
      simp only [List.length_take]
      omega
  clear hA0 hval0 hsz0 hcond
  refine (poolAgain_walk W hT (.slice a0 len0 cap0) l0 w0 z0).mono fun e W' ⟨he, bel⟩ => ?_
  subst he
  exact ⟨_, rfl, _, _, _, [], _, [], hW', trodAll_mk1 (shut_bool Tryd.underlying4 _), (trodAll_cons_mk (Below.trod laidOut (by kernel_rfl) (of_decide_eq_true (by kernel_rfl)) k0 bel lt0) trodAll_mk0), rfl, bel.frame _, fun h => by cases h⟩

theorem poolAgain_over : Rows.PoolAgainSaid :=
  OpenClaim.holds_of_cond 6 Tryd.f6 rfl rfl rfl rfl rfl rfl rfl ⟨rfl, rfl, rfl, rfl, rfl⟩ rfl rfl rfl rfl rfl (by kernel_rfl) Tryd.func6 (by kernel_rfl)
    (of_decide_eq_true (by kernel_rfl)) (by unfold Func.isWrapper; first | (rw [if_pos (by decide +kernel)]; kernel_rfl) | (rw [if_neg (by decide +kernel)]; exact ⟨rfl, rfl⟩))
    (fun os started H enc _ F => by rw [OpenClaim.pre_eq_preRow]; exact poolAgain_lifted os started H enc F)
theorem poolAgain_plain (f : FuncId) (fn : Func) (hf : Tryd.pinned.checked.prog.funcNamed "warpbeam/warpbeamlaw04.PoolAgain" = some f) (hfn : Tryd.pinned.checked.prog.funcs[f]? = some fn) :
    false = Tryd.pinned.checked.prog.looks [] ∧ ∀ (j : Nat) t, fn.params[j]? = some t → Tryd.pinned.checked.prog.wantsStandIn t = false := by
  obtain rfl : f = 6 := Option.some.inj ((show Tryd.prog.funcNamed "warpbeam/warpbeamlaw04.PoolAgain" = some 6 by kernel_rfl).symm.trans hf) |>.symm
  obtain rfl : fn = Tryd.f6 := (Option.some.inj (Tryd.func6.symm.trans hfn)).symm
  refine ⟨by kernel_rfl, fun j t ht => ?_⟩
  rw [Tryd.params6] at ht
  have hm := Array.mem_of_getElem? ht
  simp only [List.mem_toArray, List.mem_cons, List.not_mem_nil, or_false] at hm
  subst hm
  exact (show Tryd.prog.wantsStandIn 22 = false by kernel_rfl)

/-- The statement. -/
theorem poolAgain_proved : Rows.PoolAgainCardSaid :=
  Claim7.holds_tied_plain_at .later [] _ _ _ _ poolAgain_over (fun _ h => by cases h) (by kernel_rfl) (fun _ h => by cases h) poolAgain_row_tie rfl ⟨rfl, rfl⟩ (by kernel_rfl) rfl poolAgain_plain (by kernel_rfl)
#print axioms poolAgain_proved
end Go.Proofs.YtecgldkhjgcffaaDoor
