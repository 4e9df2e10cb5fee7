/- PoolReads: Parse answers as the chapter says, of all bytes; what is handed in stays, what is answered is memory of its own; the row's two tables are as the library's text lays them. -/
import Derived.Test.YtecgldkhjgcffaaDoorZtL
import Derived.Test.YtecgldkhjgcffaaDoorZtX
namespace Go.Proofs.YtecgldkhjgcffaaDoor
open Go.ChangeShapes Go.WideShapes Go.ChangeAt Go.RowKit
open Go.ChangeMaps (open_string shut_string)
set_option linter.unusedVariables false
theorem parse_ans {B : Nat} {w' : World} {b : List Int} {v : Value} (h : ParseAns B b v w') : ∃ x y, v = .tuple #[x, y, .int .i64 (errZ b)] ∧ RowC w' x (@ite _ (errZ b = 0) (Classical.propDecidable _) (manyZ b).1 []) ∧ Own B w' 5 .u8 y (@ite _ (errZ b = 0) (Classical.propDecidable _) (manyZ b).2.1 []) := by
  rcases h with ⟨h0, x, y, rfl, hx, hy⟩ | ⟨h0, rfl⟩
  · exact ⟨x, y, by rw [h0], by rw [@if_pos _ (Classical.propDecidable _) h0]; exact hx.row, by rw [@if_pos _ (Classical.propDecidable _) h0]; exact hy⟩
  · exact ⟨_, _, rfl, by rw [@if_neg _ (Classical.propDecidable _) h0]; exact RowC.nil _, by rw [@if_neg _ (Classical.propDecidable _) h0]; exact Own.nil _ _ _ _⟩

set_option maxRecDepth 100000 in
set_option maxHeartbeats 8000000 in
theorem poolReads_walk (w : World) (hT : Tabs w) (v : Value) (b : List Int) (h : Row w .u8 v b) (hl : b.length ≤ 140737488351232) : Calls Tryd.prog 3 #[v] w (RetB w true) := by
  have b1 := fun (B : Nat) (w' : World) (v : Value) => @parse_ans B w' b v
  obtain ⟨z, hz⟩ : ∃ z, errZ b = z := ⟨_, rfl⟩
  obtain ⟨L, hL⟩ : ∃ L, L = @ite _ (errZ b = 0) (Classical.propDecidable _) (manyZ b).1 [] := ⟨_, rfl⟩
  obtain ⟨R, hR⟩ : ∃ R, R = @ite _ (errZ b = 0) (Classical.propDecidable _) (manyZ b).2.1 [] := ⟨_, rfl⟩
  rw [← hL, ← hR, hz] at b1
  have BA := Lib.hid b1
  clear b1 hz hL hR
  obtain ⟨n, hn⟩ : ∃ n, R.length = n := ⟨_, rfl⟩
  have HN := Lib.hid hn
  clear hn
  go_enter Tryd.func3, Tryd.ntmps3
  go_wp2_with fail
  refine (copyBytes_any v b _ (by exact h) (by omega)).mono ?_
  rintro e w1 ⟨v1, rfl, ho1, x1⟩
  go_wp2_with fail
  refine (Parse_any v1 b _ (by exact ho1.row) (hT.ext x1) (by omega)).mono ?_
  rintro e w2 ⟨u2, rfl, ha2, x2'⟩
  obtain ⟨l2, r2, rfl, hl2, hr2⟩ := BA.out _ _ _ ha2
  have x2 := x1.trans x2'
  clear ha2
  go_wp2_with fail
  refine (refParse_any v b _ (by exact h.ext x2) (hT.ext x2) (by omega)).mono ?_
  rintro e w3 ⟨u3, rfl, ha3, x3'⟩
  obtain ⟨l3, r3, rfl, hl3, hr3⟩ := BA.out _ _ _ ha3
  have x3 := x2.trans x3'
  clear ha3
  go_wp2_with fail
  refine (refSame_yes l2 l3 L _ (by exact hl2.ext x3') (by exact hl3)).mono ?_
  rintro e w4 ⟨rfl, q4⟩
  have x4 := x3.trans q4
  go_wp2_with fail
  refine (eqBytes_yes r2 r3 R _ (by exact hr2.row.ext (x3'.trans q4)) (by exact hr3.row.ext q4)).mono ?_
  rintro e w5 ⟨rfl, q5⟩
  have x5 := x4.trans q5
  have hoW := hr2.ext ((x3'.trans q4).trans q5)
  obtain ⟨A, C, rfl, hC, hCm, -⟩ := hoW.row
  rw [HN.out] at hoW hC ⊢
  unfold maxLen at hCm
  have hoI := ho1.ext (((x2'.trans x3').trans q4).trans q5)
  have HHI := Lib.hid ho1.high
  have HLO := Lib.hid hr2.low
  have HRL := Lib.hid hoW.low
  have HOI := Lib.hid hoI
  have hx12 := x1.size
  clear hr2 hr3 hl2 hl3 ho1 hoI
  go_wp2
  go_loopw [10] (fun i wr => ∃ (k : Nat) (m : List Int), i = .int .i64 k ∧ k ≤ n ∧ Hid (m.length = n) ∧ Own w1.heap.size wr 5 .u8 (.slice A n C) m ∧ w5.grownBy wr (Value.slice A n C).ownBlock) (fun i _ => n - (intOf i).toNat)
  case atStart => exact ⟨0, R, rfl, by omega, HN.out, hoW, World.grownBy.refl _ _⟩
  case round =>
    obtain ⟨k, m, rfl, hk, HM, hom, hgr⟩ := hrel
    by_cases hlt : k < n
    · obtain ⟨g', c', hv, _, _, _, _, hcell, hfr⟩ := hom.parts (by have := HM.out; omega)
      have hy := hcell k (by have := HM.out; omega)
      have hz := hfr k
      have hA2 : A = some ⟨g', 0, none⟩ := by injection hv
      have HO := Lib.hid hom
      have HG := Lib.hid hgr
      subst hA2
      clear hcell hfr hom hgr hv hoW
      go_wp2
      go_roundw
      case rel =>
        refine ⟨k + 1, m.set k 0, by go_num, by omega, by rw [Hid, List.length_set]; exact HM.out, ?_, only_set HG.out _ _⟩
        exact HO.out.put (j := k) (x := 0) (by have := HM.out; omega) (by decide)
      case measure => simp [intOf]; omega
    · have xr : Ext w wr := x5.grown hgr (fun g hg => by have := HRL.out g hg; omega)
      have hyr : Own w.heap.size wr 5 .u8 v1 b := Own.kept HOI.out hgr (fun g hg e => by
        have h1 := HRL.out g e
        have h2 := HHI.out g hg
        omega)
      clear hgr hom hoW
      go_wp2_with fail
      refine (eqBytes_yes v1 v b _ (by exact hyr.row) (by exact h.ext xr)).mono ?_
      rintro e w6 ⟨rfl, q6⟩
      have x6 := xr.trans q6
      go_wp2_with fail
      refine (works_any _ (hT.ext x6)).mono ?_
      rintro e w8 ⟨rfl, x8⟩
      go_wp2
      go_ret
      exact ⟨rfl, x6.trans x8⟩

theorem poolReads_fits (os : Os) {H : Type} (enc : TypeId × Value → H) :
    (OpenSpec.ofChange Rows.poolReadsSpec).preRow enc Tryd.prog Tryd.f3 Rows.poolReadsRow.domain false Rows.poolReadsRow.laid ((laidWorld os).forCall (fun _ _ => 0) ⟨#[], #[.slice none 0 0], []⟩).memory #[.slice none 0 0] := by
  have hw : (DataW.whole enc Tryd.prog ((laidWorld os).forCall (fun _ _ => 0) ⟨#[], #[.slice none 0 0], []⟩).memory Tryd.f3.params.toList Rows.poolReadsSpec.vars false (#[.slice none 0 0] : Array Value).toList 8).map (fun x => (x.1, x.2.1)) = some ([.nil], []) := by kernel_rfl
  obtain ⟨⟨x1, x2, x3⟩, hx, hx1⟩ := Option.map_eq_some_iff.1 hw
  simp only [Prod.mk.injEq] at hx1
  obtain ⟨rfl, rfl⟩ := hx1
  exact OpenSpec.preRow_of_cond 8 hx (by kernel_rfl) (fun k hk => by cases hk) (by kernel_rfl) (laid_met os _)

set_option maxRecDepth 100000 in
set_option maxHeartbeats 2000000 in
theorem poolReads_lifted (os : Os) (started : os.Started) (H : Type) (enc : TypeId × Value → H) (F : Stop.Interp) :
    ReturnsInHanded {} Tryd.checked os 3 .any ((OpenSpec.ofChange Rows.poolReadsSpec).preRow enc Tryd.prog Tryd.f3 Rows.poolReadsRow.domain false Rows.poolReadsRow.laid) (((OpenSpec.ofChange Rows.poolReadsSpec).at F).post enc Tryd.prog Tryd.f3 false true false false) := by
  refine returnsInHanded_of_row (C := Tryd.checked) (s := (OpenSpec.ofChange Rows.poolReadsSpec)) own started (by kernel_rfl) Tryd.func3
    (witness_row_atRef (enc := enc) (C := Tryd.checked) false (laidWorld os) #[.slice none 0 0] rfl (by kernel_rfl) (by kernel_rfl) (by kernel_rfl) (poolReads_fits os enc)) ?_
  intro W base args ds gs before hval0 hW _ hcond hsz0 hL _ _
  have hT : Tabs W := tabs_of hL
  have hval : ∀ (j : Nat) t v, Tryd.f3.params[j]? = some t → args[j]? = some v → Value.okWide Tryd.prog W .any base t v := hval0
  have hsz : (DataW.weightsEach Tryd.prog (Tryd.f3.params.toList ++ Rows.poolReadsSpec.plain.varTypes Tryd.prog) (ds ++ gs)).all (· ≤ reachBytes) = true := hsz0
  have hW' := hW
  obtain ⟨p, q, hA0, hV, rfl, hfz, hnd⟩ := hW
  have hA : DataW.TrodAll enc Tryd.prog W 0 (fun _ => true) true Tryd.f3.params.toList args.toList ds p := hA0
  rw [Tryd.params3] at hA hval hsz
  obtain ⟨v0, vs0, d0, ds0, p0, q0, hargs, rfl, rfl, h0, r0⟩ := trodAll_cons hA
  obtain ⟨rfl, rfl, rfl⟩ := trodAll_nil r0
  obtain rfl : args = #[v0] := by cases args; simp_all
  obtain ⟨rfl, rfl⟩ := trodVars_none hV
  obtain ⟨a0, len0, cap0, rfl⟩ := okWide_slice Tryd.underlying22 (hval 0 22 v0 rfl rfl)
  have k0 := h0
  have lt0 : ∀ x ∈ p0, x.block < W.heap.size := by obtain ⟨m, hm⟩ := k0; exact DataW.trod_lt m _ _ _ hm
  obtain ⟨l0, w0, z0⟩ : ∃ l, Row W .u8 (.slice a0 len0 cap0) l ∧ l.length ≤ 140737488351232 := by
    obtain ⟨fuel, hf⟩ := h0
    rcases open_ints Tryd.underlying22 Tryd.underlying5 (by kernel_rfl) hf with ⟨hcs, _⟩ | ⟨x, l, c, zs, hcs, _, hl, hm, hz, hx, hcell, hwz⟩
    · simp [Value.cells] at hcs
      obtain ⟨rfl, rfl, rfl⟩ := hcs
      exact ⟨[], (Own.nil 0 _ 0 _).row, by simp⟩
    · simp [Value.cells] at hcs
      obtain ⟨rfl, rfl, rfl⟩ := hcs
      simp only [if_true] at hz
      refine ⟨_, row_of_open hl hm hz hcell hwz, ?_⟩
      have hd : d0 = _ := congrArg Prod.fst hx
      have hs := sized_slice hsz (j := 0) rfl (by rw [hd]; rfl) Tryd.underlying22
      rw [bytes8] at hs
      simp only [lits, List.length_map, List.length_take, List.length_drop, reachBytes] at hs
      simp only [List.length_take]
      omega
  clear hA0 hval0 hsz0 hcond
  refine (poolReads_walk W hT (.slice a0 len0 cap0) l0 w0 z0).mono fun e W' ⟨he, bel⟩ => ?_
  subst he
  exact ⟨_, rfl, _, _, _, [], _, [], hW', trodAll_mk1 (shut_bool Tryd.underlying4 _), (trodAll_cons_mk (Below.trod laidOut (by kernel_rfl) (of_decide_eq_true (by kernel_rfl)) k0 bel lt0) trodAll_mk0), rfl, bel.frame _, fun h => by cases h⟩

theorem poolReads_over : Rows.PoolReadsSaid :=
  OpenClaim.holds_of_cond 3 Tryd.f3 rfl rfl rfl rfl rfl rfl rfl ⟨rfl, rfl, rfl, rfl, rfl⟩ rfl rfl rfl rfl rfl (by kernel_rfl) Tryd.func3 (by kernel_rfl)
    (of_decide_eq_true (by kernel_rfl)) (by unfold Func.isWrapper; first | (rw [if_pos (by decide +kernel)]; kernel_rfl) | (rw [if_neg (by decide +kernel)]; exact ⟨rfl, rfl⟩))
    (fun os started H enc _ F => by rw [OpenClaim.pre_eq_preRow]; exact poolReads_lifted os started H enc F)
theorem poolReads_plain (f : FuncId) (fn : Func) (hf : Tryd.pinned.checked.prog.funcNamed "warpbeam/warpbeamlaw04.PoolReads" = some f) (hfn : Tryd.pinned.checked.prog.funcs[f]? = some fn) :
    false = Tryd.pinned.checked.prog.looks [] ∧ ∀ (j : Nat) t, fn.params[j]? = some t → Tryd.pinned.checked.prog.wantsStandIn t = false := by
  obtain rfl : f = 3 := Option.some.inj ((show Tryd.prog.funcNamed "warpbeam/warpbeamlaw04.PoolReads" = some 3 by kernel_rfl).symm.trans hf) |>.symm
  obtain rfl : fn = Tryd.f3 := (Option.some.inj (Tryd.func3.symm.trans hfn)).symm
  refine ⟨by kernel_rfl, fun j t ht => ?_⟩
  rw [Tryd.params3] at ht
  have hm := Array.mem_of_getElem? ht
  simp only [List.mem_toArray, List.mem_cons, List.not_mem_nil, or_false] at hm
  subst hm
  exact (show Tryd.prog.wantsStandIn 22 = false by kernel_rfl)

/-- The statement. -/
theorem poolReads_proved : Rows.PoolReadsCardSaid :=
  Claim7.holds_tied_plain_at .later [] _ _ _ _ poolReads_over (fun _ h => by cases h) (by kernel_rfl) (fun _ h => by cases h) poolReads_row_tie rfl ⟨rfl, rfl⟩ (by kernel_rfl) rfl poolReads_plain (by kernel_rfl)
#print axioms poolReads_proved
end Go.Proofs.YtecgldkhjgcffaaDoor
