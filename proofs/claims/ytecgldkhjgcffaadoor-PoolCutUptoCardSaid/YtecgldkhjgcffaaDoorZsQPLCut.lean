/- PoolCut: each beginning of a list's bytes that is not all of them is told by ErrTrunc, of any list and cut; the row's two tables are as the library's text lays them. -/
import Derived.Test.YtecgldkhjgcffaaDoorZsL
import Derived.Test.YtecgldkhjgcffaaDoorZsX
import Derived.Test.YtecgldkhjgcffaaDoorZsA
import Derived.Test.YtecgldkhjgcffaaDoorZsN
namespace Go.Proofs.YtecgldkhjgcffaaDoor
open Go.ChangeShapes Go.WideShapes Go.ChangeAt Go.RowKit
open Go.ChangeMaps (open_string shut_string)
set_option linter.unusedVariables false
set_option maxRecDepth 100000 in
set_option maxHeartbeats 8000000 in
theorem poolCut_walk (w : World) (hT : Tabs w) (v : Value) (l : List Cst) (h : RowC w v l) (hl : tot l ≤ 1048576) (i : Int) (hi : -9223372036854775808 ≤ i ∧ i ≤ 9223372036854775807) : Calls Tryd.prog 7 #[v, .int .i64 i] w (RetB w true) := by
  have HX := Lib.hid (tot_texts hl)
  have HT := Lib.hid ((tot_texts hl).told h.all)
  have hlen : (bytesZ l).length ≤ 10 + 41 * tot l := bytesZ_len l
  have HL := Lib.hid (show (bytesZ l).length ≤ 50000000 by omega)
  have HP := Lib.hid (bytesZ_pos l)
  clear hlen
  go_enter Tryd.func7, Tryd.ntmps7
  go_wp2_with fail
  refine (works_any _ hT).mono ?_
  rintro e w1 ⟨rfl, x1⟩
  go_wp2_with fail
  refine (Bytes_any v l _ (by exact h.ext x1) (hT.ext x1) HX.out (fun _ => by have := HL.out; omega)).mono ?_
  rintro e w2 ⟨u2, rfl, ⟨hc, c, rfl, hco⟩ | ⟨hn, rfl⟩, x2'⟩
  · have x2 := x1.trans x2'
    obtain ⟨n, hn⟩ : ∃ n, (bytesZ l).length = n := ⟨_, rfl⟩
    have HN := Lib.hid hn
    have hn1 := HL.out
    have hn0 := HP.out
    rw [hn] at hn1 hn0
    obtain ⟨k, hk, hkn⟩ := bring_nat i hn0
    have HK := Lib.hid hk
    have HE := Lib.hid (parse_cut hc HT.out (k := k) (by omega))
    obtain ⟨v3, s3, s3', hh⟩ := head_slice hco.row k (by omega)
    have HH := Lib.hid hh
    obtain ⟨A1, k1, hb1, hk1, _⟩ := hco.row
    rw [hn] at hb1 hk1
    subst hb1
    have hnz : ((n : Int) == 0) = false := by simp; omega
    clear hc hn hk hh hco
    go_wp2_with fail
    refine (bring_any i n _ hi.1 hi.2 (by omega) (by omega)).mono ?_
    rw [HK.out]
    rintro e w3 ⟨rfl, rfl⟩
    go_wp2_with fail
    refine (Parse_any v3 ((bytesZ l).take k) _ (by exact HH.out) (hT.ext x2) (by rw [List.length_take, HN.out]; omega)).mono ?_
    rintro e w4 ⟨u4, rfl, ⟨he, _⟩ | ⟨-, rfl⟩, x4⟩
    · rw [HE.out] at he; exact absurd he (by decide)
    rw [HE.out]
    go_wp2
    go_ret
    exact ⟨rfl, x2.trans x4⟩
  · have hE : (checkC l != 0) = true := by simpa using hn
    obtain ⟨c, hc⟩ : ∃ c, checkC l = c := ⟨_, rfl⟩
    rw [hc] at hE ⊢
    clear hn hc
    go_wp2
    go_ret
    exact ⟨rfl, x1.trans x2'⟩

theorem poolCut_fits (os : Os) {H : Type} (enc : TypeId × Value → H) :
    (Rows.OpenSpec.upto Rows.poolCutSpec).preRow enc Tryd.prog Tryd.f7 Rows.poolCutUptoRow.domain false Rows.poolCutUptoRow.laid ((laidWorld os).forCall (fun _ _ => 0) ⟨#[], #[.slice none 0 0, .int .i64 0], []⟩).memory #[.slice none 0 0, .int .i64 0] := by
  have hw : (DataW.whole enc Tryd.prog ((laidWorld os).forCall (fun _ _ => 0) ⟨#[], #[.slice none 0 0, .int .i64 0], []⟩).memory Tryd.f7.params.toList Rows.poolCutSpec.vars false (#[.slice none 0 0, .int .i64 0] : Array Value).toList 8).map (fun x => (x.1, x.2.1)) = some ([.nil, .lit (.int .i64 0)], []) := by kernel_rfl
  obtain ⟨⟨x1, x2, x3⟩, hx, hx1⟩ := Option.map_eq_some_iff.1 hw
  simp only [Prod.mk.injEq] at hx1
  obtain ⟨rfl, rfl⟩ := hx1
  exact OpenSpec.preRow_of_cond 8 hx (by kernel_rfl) (fun k hk => by cases hk; kernel_rfl) (by kernel_rfl) (laid_met os _)

set_option maxRecDepth 100000 in
set_option maxHeartbeats 2000000 in
theorem poolCut_lifted (os : Os) (started : os.Started) (H : Type) (enc : TypeId × Value → H) (F : Stop.Interp) :
    ReturnsInHanded {} Tryd.checked os 7 .any ((Rows.OpenSpec.upto Rows.poolCutSpec).preRow enc Tryd.prog Tryd.f7 Rows.poolCutUptoRow.domain false Rows.poolCutUptoRow.laid) (((Rows.OpenSpec.upto Rows.poolCutSpec).at F).post enc Tryd.prog Tryd.f7 false true false false) := by
  refine returnsInHanded_of_row (C := Tryd.checked) (s := (Rows.OpenSpec.upto Rows.poolCutSpec)) own started (by kernel_rfl) Tryd.func7
    (witness_row_atRef (enc := enc) (C := Tryd.checked) false (laidWorld os) #[.slice none 0 0, .int .i64 0] rfl (by kernel_rfl) (by kernel_rfl) (by kernel_rfl) (poolCut_fits os enc)) ?_
  intro W base args ds gs before hval0 hW _ hcond hsz0 hL _ _
  have hT : Tabs W := tabs_of hL
  have hval : ∀ (j : Nat) t v, Tryd.f7.params[j]? = some t → args[j]? = some v → Value.okWide Tryd.prog W .any base t v := hval0
  have hsz : (DataW.weightsEach Tryd.prog (Tryd.f7.params.toList ++ Rows.poolCutSpec.plain.varTypes Tryd.prog) (ds ++ gs)).all (· ≤ reachBytes) = true := hsz0
  have hW' := hW
  obtain ⟨p, q, hA0, hV, rfl, hfz, hnd⟩ := hW
  have hA : DataW.TrodAll enc Tryd.prog W 0 (fun _ => true) true Tryd.f7.params.toList args.toList ds p := hA0
  rw [Tryd.params7] at hA hval hsz
  obtain ⟨v0, vs0, d0, ds0, p0, q0, hargs, rfl, rfl, h0, r0⟩ := trodAll_cons hA
  obtain ⟨v1, vs1, d1, ds1, p1, q1, rfl, rfl, rfl, h1, r1⟩ := trodAll_cons r0
  obtain ⟨rfl, rfl, rfl⟩ := trodAll_nil r1
  obtain rfl : args = #[v0, v1] := by cases args; simp_all
  obtain ⟨rfl, rfl⟩ := trodVars_none hV
  have hbk : Rows.uptoBulkAll ([d0, d1] : List (DataW H)) ≤ 1048576 := bulk_bound (hcond _ rfl)
  obtain ⟨a0, len0, cap0, rfl⟩ := okWide_slice Tryd.underlying24 (hval 0 24 v0 rfl rfl)
  have k0 := h0
  have lt0 : ∀ x ∈ p0, x.block < W.heap.size := by obtain ⟨m, hm⟩ := k0; exact DataW.trod_lt m _ _ _ hm
  obtain ⟨l0, w0, z0⟩ : ∃ l, RowC W (.slice a0 len0 cap0) l ∧ tot l ≤ 1048576 := by
    obtain ⟨fuel, hf⟩ := h0
    obtain ⟨A, n, c, l, sp, hcs, hln, hrow, hmx, hd⟩ := open_consts hf
    simp [Value.cells] at hcs
    obtain ⟨rfl, rfl, rfl⟩ := hcs
    refine ⟨l, hrow, ?_⟩
    rcases hd with ⟨rfl, hd⟩ | hd
    · exact Nat.zero_le _
    · have hd : d0 = _ := hd
      have hb := Nat.le_trans (bulk_part (show d0 ∈ ([d0, d1] : List (DataW H)) by simp)) hbk
      rw [hd] at hb
      exact Nat.le_trans (bulk_consts _ _) hb
  obtain ⟨a1, rfl, rfl, rfl, w1⟩ := open_int Tryd.underlying3 (hval 1 3 v1 rfl rfl) h1
  have z1 := bounds_i64 w1
  clear hA0 hval0 hsz0 hcond
  refine (poolCut_walk W hT (.slice a0 len0 cap0) l0 w0 z0 a1 z1).mono fun e W' ⟨he, bel⟩ => ?_
  subst he
  exact ⟨_, rfl, _, _, _, [], _, [], hW', trodAll_mk1 (shut_bool Tryd.underlying4 _), (trodAll_cons_mk (Below.trod laidOut (by kernel_rfl) (of_decide_eq_true (by kernel_rfl)) k0 bel lt0) (trodAll_cons_mk (shut_int Tryd.underlying3 w1) trodAll_mk0)), rfl, bel.frame _, fun h => by cases h⟩

theorem poolCut_over : Rows.PoolCutUptoSaid :=
  OpenClaim.holds_of_cond 7 Tryd.f7 rfl rfl rfl rfl rfl rfl rfl ⟨rfl, rfl, rfl, rfl, rfl⟩ rfl rfl rfl rfl rfl (by kernel_rfl) Tryd.func7 (by kernel_rfl)
    (of_decide_eq_true (by kernel_rfl)) (by unfold Func.isWrapper; first | (rw [if_pos (by decide +kernel)]; kernel_rfl) | (rw [if_neg (by decide +kernel)]; exact ⟨rfl, rfl⟩))
    (fun os started H enc _ F => by rw [OpenClaim.pre_eq_preRow]; exact poolCut_lifted os started H enc F)
theorem poolCut_plain (f : FuncId) (fn : Func) (hf : Tryd.pinned.checked.prog.funcNamed "warpbeam/warpbeamlaw04.PoolCut" = some f) (hfn : Tryd.pinned.checked.prog.funcs[f]? = some fn) :
    false = Tryd.pinned.checked.prog.looks [] ∧ ∀ (j : Nat) t, fn.params[j]? = some t → Tryd.pinned.checked.prog.wantsStandIn t = false := by
  obtain rfl : f = 7 := Option.some.inj ((show Tryd.prog.funcNamed "warpbeam/warpbeamlaw04.PoolCut" = some 7 by kernel_rfl).symm.trans hf) |>.symm
  obtain rfl : fn = Tryd.f7 := (Option.some.inj (Tryd.func7.symm.trans hfn)).symm
  refine ⟨by kernel_rfl, fun j t ht => ?_⟩
  rw [Tryd.params7] at ht
  have hm := Array.mem_of_getElem? ht
  simp only [List.mem_toArray, List.mem_cons, List.not_mem_nil, or_false] at hm
  rcases hm with rfl | rfl
  · exact (show Tryd.prog.wantsStandIn 24 = false by kernel_rfl)
  · exact (show Tryd.prog.wantsStandIn 3 = false by kernel_rfl)

/-- The statement. -/
theorem poolCut_proved : Rows.PoolCutUptoCardSaid :=
  Claim7.holds_tied_plain_at .later [] _ _ _ _ poolCut_over (fun _ h => by cases h) (by kernel_rfl) (fun _ h => by cases h) poolCutUpto_row_tie rfl ⟨rfl, rfl⟩ (by kernel_rfl) rfl poolCut_plain (by kernel_rfl)
#print axioms poolCut_proved
end Go.Proofs.YtecgldkhjgcffaaDoor
