/- TextReads: Decode answers as the chapter says, and what is handed in stays, of all bytes; the row's two tables are as the library's text lays them. -/
import Derived.Test.YtkjjmdmaffeboaaDoorTFrame
import Derived.Test.YtkjjmdmaffeboaaDoorTextX
namespace Go.Proofs.YtkjjmdmaffeboaaDoor
open Go.ChangeShapes Go.WideShapes Go.ChangeAt Go.RowKit
open Go.ChangeMaps (open_string shut_string)
set_option linter.unusedVariables false

set_option maxHeartbeats 8000000 in
theorem textReads_walk (w : World) (hT : Tabs w) (v : Value) (b : List Int) (h : Row w .u8 v b) (hl : b.length ≤ 140737488351232) : Calls Tryd.prog 4 #[v] w (RetT w true) := by
  obtain ⟨n, hn⟩ : ∃ n, b.length = n := ⟨_, rfl⟩
  have HN := Lib.hid hn
  rw [hn] at hl
  clear hn
  have key : ∀ (u u' : Value) (w3 : World) , DecAns b u w3 → DecAns b u' w3 → ∃ (S : ByteArray) (p e : Int), u = .tuple #[.string S, .int .i64 p, .int .i64 e] ∧ u' = .tuple #[.string S, .int .i64 p, .int .i64 e] := by
    rintro u u' w3 (⟨h1, rfl⟩ | ⟨h1, rfl⟩) (⟨h2, rfl⟩ | ⟨h2, rfl⟩)
    · exact ⟨_, _, _, rfl, rfl⟩
    · omega
    · omega
    · exact ⟨_, _, _, rfl, rfl⟩
  have HK := Lib.hid key
  clear key
  go_enter Tryd.func4, Tryd.ntmps4
  go_wp2_with fail
  refine (copyBytes_any _ b _ (by exact h) (by rw [HN.out]; omega)).mono ?_
  rintro e w1 ⟨v1, rfl, ho1, he1⟩
  go_wp2_with fail
  refine (Decode_any v1 b _ (by exact ho1.row) (by rw [HN.out]; omega)).mono ?_
  rintro e w2 ⟨u2, rfl, d2, he2⟩
  have x2 : Ext w w2 := he1.trans he2
  have c3 := refDecode_any v b w2 (h.ext x2) (by rw [HN.out]; omega)
  have hku := fun (u : Value) (w3 : World) (d3 : DecAns b u w3) => HK.out u2 u w3 d2 d3
  have HKU := Lib.hid hku
  obtain ⟨S, p, E, hu2⟩ : ∃ (S : ByteArray) (p e : Int), u2 = .tuple #[.string S, .int .i64 p, .int .i64 e] := by
    rcases d2 with ⟨-, rfl⟩ | ⟨-, rfl⟩
    · exact ⟨_, _, _, rfl⟩
    · exact ⟨_, _, _, rfl⟩
  subst hu2
  clear hku d2
  go_wp2_with fail
  refine c3.mono ?_
  rintro e w3 ⟨u3, rfl, d3, he3⟩
  have hu3 : u3 = .tuple #[.string S, .int .i64 p, .int .i64 E] := by
    obtain ⟨S', p', e', h1, h2⟩ := HKU.out u3 w3 d3
    rw [h2, ← h1]
  subst hu3
  have x3 : Ext w w3 := x2.trans he3
  go_wp2_with fail
  refine (eqBytes_any _ _ b b _ (by exact ho1.row.ext (he2.trans he3)) (by exact h.ext x3)).mono ?_
  rw [decide_eq_true rfl]
  rintro e w5 ⟨rfl, m5, rfl⟩
  · have x5 : Ext w (w3.drewN m5) := x3.drewN m5
    have y5 : Ext w1 (w3.drewN m5) := (he2.trans he3).drewN m5
    obtain ⟨A, C, rfl, hC, hCm, -⟩ := ho1.row
    rw [HN.out] at ho1 hC ⊢
    unfold maxLen at hCm
    have hoW := ho1.ext y5
    have HLO := Lib.hid ho1.low
    clear ho1 d3 c3
    obtain ⟨W0, hW0⟩ : ∃ W0, w3.drewN m5 = W0 := ⟨_, rfl⟩
    rw [hW0] at x5 y5 hoW ⊢
    clear hW0
    go_wp2
    go_loopw [10] (fun i wr => ∃ (k : Nat) (m : List Int), i = .int .i64 k ∧ k ≤ n ∧ Hid (m.length = n) ∧ Own w.heap.size wr 5 .u8 (.slice A n C) m ∧ W0.grownBy wr (Value.slice A n C).ownBlock) (fun i _ => n - (intOf i).toNat)
    case atStart => exact ⟨0, b, rfl, by omega, HN.out, hoW, World.grownBy.refl _ _⟩
    case round =>
      obtain ⟨k, m, rfl, hk, HM, hom, hgr⟩ := hrel
      by_cases hlt : k < n
      · obtain ⟨g', c', hv, _, _, _, _, hcell, hfr⟩ := hom.parts (by have := HM.out; omega)
        have hy := hcell k (by have := HM.out; omega)
        have hz := hfr k
        have hA2 : A = some ⟨g', 0, none⟩ := by injection hv
        have HO := Lib.hid hom
        have HG := Lib.hid hgr
        subst hA2
        clear hcell hfr hom hgr hv hoW
        go_wp2
        go_roundw
        case rel =>
          refine ⟨k + 1, m.set k 0, by go_num, by omega, by rw [Hid, List.length_set]; exact HM.out, ?_, only_set HG.out _ _⟩
          exact HO.out.put (j := k) (x := 0) (by have := HM.out; omega) (by decide)
        case measure => simp [intOf]; omega
      · have xr : Ext w wr := x5.grown hgr HLO.out
        clear hgr hom hoW
        go_wp2_with fail
        refine (works_any _ (hT.ext xr)).mono ?_
        rintro e w8 ⟨rfl, he8⟩
        go_wp2
        go_ret
        exact ⟨rfl, xr.trans he8⟩

theorem textReads_fits (os : Os) {H : Type} (enc : TypeId × Value → H) :
    (OpenSpec.ofChange Rows.textReadsSpec).preRow enc Tryd.prog Tryd.f4 Rows.textReadsRow.domain false Rows.textReadsRow.laid ((laidWorld os).forCall (fun _ _ => 0) ⟨#[], #[.slice none 0 0], []⟩).memory #[.slice none 0 0] := by
  have hw : (DataW.whole enc Tryd.prog ((laidWorld os).forCall (fun _ _ => 0) ⟨#[], #[.slice none 0 0], []⟩).memory Tryd.f4.params.toList Rows.textReadsSpec.vars false (#[.slice none 0 0] : Array Value).toList 8).map (fun x => (x.1, x.2.1)) = some ([.nil], []) := by kernel_rfl
  obtain ⟨⟨x1, x2, x3⟩, hx, hx1⟩ := Option.map_eq_some_iff.1 hw
  simp only [Prod.mk.injEq] at hx1
  obtain ⟨rfl, rfl⟩ := hx1
  exact OpenSpec.preRow_of_cond 8 hx (by kernel_rfl) (fun k hk => by cases hk) (by kernel_rfl) (laid_met os _)

set_option maxRecDepth 100000 in
set_option maxHeartbeats 2000000 in
theorem textReads_lifted (os : Os) (started : os.Started) (H : Type) (enc : TypeId × Value → H) (F : Stop.Interp) :
    ReturnsInHanded {} Tryd.checked os 4 .any ((OpenSpec.ofChange Rows.textReadsSpec).preRow enc Tryd.prog Tryd.f4 Rows.textReadsRow.domain false Rows.textReadsRow.laid) (((OpenSpec.ofChange Rows.textReadsSpec).at F).post enc Tryd.prog Tryd.f4 false true false false) := by
  refine returnsInHanded_of_row (C := Tryd.checked) (s := (OpenSpec.ofChange Rows.textReadsSpec)) own started (by kernel_rfl) Tryd.func4
    (witness_row_atRef (enc := enc) (C := Tryd.checked) false (laidWorld os) #[.slice none 0 0] rfl (by kernel_rfl) (by kernel_rfl) (by kernel_rfl) (textReads_fits os enc)) ?_
  intro W base args ds gs before hval0 hW _ hcond hsz0 hL _ _
  have hT : Tabs W := tabs_of hL
  have hval : ∀ (j : Nat) t v, Tryd.f4.params[j]? = some t → args[j]? = some v → Value.okWide Tryd.prog W .any base t v := hval0
  have hsz : (DataW.weightsEach Tryd.prog (Tryd.f4.params.toList ++ Rows.textReadsSpec.plain.varTypes Tryd.prog) (ds ++ gs)).all (· ≤ reachBytes) = true := hsz0
  have hW' := hW
  obtain ⟨p, q, hA0, hV, rfl, hfz, hnd⟩ := hW
  have hA : DataW.TrodAll enc Tryd.prog W 0 (fun _ => true) true Tryd.f4.params.toList args.toList ds p := hA0
  rw [Tryd.params4] at hA hval hsz
  obtain ⟨v0, vs0, d0, ds0, p0, q0, hargs, rfl, rfl, h0, r0⟩ := trodAll_cons hA
  obtain ⟨rfl, rfl, rfl⟩ := trodAll_nil r0
  obtain rfl : args = #[v0] := by cases args; simp_all
  obtain ⟨rfl, rfl⟩ := trodVars_none hV
  obtain ⟨a0, len0, cap0, rfl⟩ := okWide_slice Tryd.underlying22 (hval 0 22 v0 rfl rfl)
  have k0 := h0
  have lt0 : ∀ x ∈ p0, x.block < W.heap.size := by obtain ⟨m, hm⟩ := k0; exact DataW.trod_lt m _ _ _ hm
  obtain ⟨l0, w0, z0⟩ : ∃ l, Row W .u8 (.slice a0 len0 cap0) l ∧ l.length ≤ 140737488351232 := by
    obtain ⟨fuel, hf⟩ := h0
    rcases open_ints Tryd.underlying22 Tryd.underlying5 (by kernel_rfl) hf with ⟨hcs, _⟩ | ⟨x, l, c, zs, hcs, _, hl, hm, hz, hx, hcell, hwz⟩
    · simp [Value.cells] at hcs
      obtain ⟨rfl, rfl, rfl⟩ := hcs
      exact ⟨[], (Own.nil 0 _ 0 _).row, by simp⟩
    · simp [Value.cells] at hcs
      obtain ⟨rfl, rfl, rfl⟩ := hcs
      simp only [if_true] at hz
      refine ⟨_, row_of_open hl hm hz hcell hwz, ?_⟩
      have hd : d0 = _ := congrArg Prod.fst hx
      have hs := sized_slice hsz (j := 0) rfl (by rw [hd]; rfl) Tryd.underlying22
      rw [bytes8] at hs
      simp only [lits, List.length_map, List.length_take, List.length_drop, reachBytes] at hs
      simp only [List.length_take]
      omega
  clear hA0 hval0 hsz0 hcond
  refine (textReads_walk W hT (.slice a0 len0 cap0) l0 w0 z0).mono fun e W' ⟨he, bel⟩ => ?_
  subst he
  exact ⟨_, rfl, _, _, _, [], _, [], hW', trodAll_mk1 (shut_bool Tryd.underlying4 _), (trodAll_cons_mk (Below.trod laidOut (by kernel_rfl) (of_decide_eq_true (by kernel_rfl)) k0 bel lt0) trodAll_mk0), rfl, bel.frame _, fun h => by cases h⟩

theorem textReads_over : Rows.TextReadsSaid :=
  OpenClaim.holds_of_cond 4 Tryd.f4 rfl rfl rfl rfl rfl rfl rfl ⟨rfl, rfl, rfl, rfl, rfl⟩ rfl rfl rfl rfl rfl (by kernel_rfl) Tryd.func4 (by kernel_rfl)
    (of_decide_eq_true (by kernel_rfl)) (by unfold Func.isWrapper; first | (rw [if_pos (by decide +kernel)]; kernel_rfl) | (rw [if_neg (by decide +kernel)]; exact ⟨rfl, rfl⟩))
    (fun os started H enc _ F => by rw [OpenClaim.pre_eq_preRow]; exact textReads_lifted os started H enc F)
theorem textReads_plain (f : FuncId) (fn : Func) (hf : Tryd.pinned.checked.prog.funcNamed "warpbeam/warpbeamlaw02.TextReads" = some f) (hfn : Tryd.pinned.checked.prog.funcs[f]? = some fn) :
    false = Tryd.pinned.checked.prog.looks [] ∧ ∀ (j : Nat) t, fn.params[j]? = some t → Tryd.pinned.checked.prog.wantsStandIn t = false := by
  obtain rfl : f = 4 := Option.some.inj ((show Tryd.prog.funcNamed "warpbeam/warpbeamlaw02.TextReads" = some 4 by kernel_rfl).symm.trans hf) |>.symm
  obtain rfl : fn = Tryd.f4 := (Option.some.inj (Tryd.func4.symm.trans hfn)).symm
  refine ⟨by kernel_rfl, fun j t ht => ?_⟩
  rw [Tryd.params4] at ht
  have hm := Array.mem_of_getElem? ht
  simp only [List.mem_toArray, List.mem_cons, List.not_mem_nil, or_false] at hm
  subst hm
  exact (show Tryd.prog.wantsStandIn 22 = false by kernel_rfl)

/-- The statement. -/
theorem textReads_proved : Rows.TextReadsCardSaid :=
  Claim7.holds_tied_plain_at .later [] _ _ _ _ textReads_over (fun _ h => by cases h) (by kernel_rfl) (fun _ h => by cases h) textReads_row_tie rfl ⟨rfl, rfl⟩ (by kernel_rfl) rfl textReads_plain (by kernel_rfl)
#print axioms textReads_proved
end Go.Proofs.YtkjjmdmaffeboaaDoor
