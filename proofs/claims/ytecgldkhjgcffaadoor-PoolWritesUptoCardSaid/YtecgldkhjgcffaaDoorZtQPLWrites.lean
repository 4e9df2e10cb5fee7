/- PoolWrites: Check and Bytes answer as the chapter says, of all lists; the row's two tables are as the library's text lays them. -/
import Derived.Test.YtecgldkhjgcffaaDoorZtL
import Derived.Test.YtecgldkhjgcffaaDoorZtX
import Derived.Test.YtecgldkhjgcffaaDoorZtA
namespace Go.Proofs.YtecgldkhjgcffaaDoor
open Go.ChangeShapes Go.WideShapes Go.ChangeAt Go.RowKit
open Go.ChangeMaps (open_string shut_string)
set_option linter.unusedVariables false
theorem bytes_ans {w w' : World} {l : List Cst} {v : Value} (h : BytesAns w l v w') : ∃ x, v = .tuple #[x, .int .i64 (checkC l)] ∧ Row w' .u8 x (@ite _ (checkC l = 0) (Classical.propDecidable _) (bytesZ l) []) := by
  rcases h with ⟨h0, x, rfl, hx⟩ | ⟨h0, rfl⟩
  · exact ⟨x, by rw [h0], by rw [@if_pos _ (Classical.propDecidable _) h0]; exact hx.row⟩
  · exact ⟨_, rfl, by rw [@if_neg _ (Classical.propDecidable _) h0]; exact (Own.nil 0 _ 5 .u8).row⟩

set_option maxRecDepth 100000 in
set_option maxHeartbeats 8000000 in
theorem poolWrites_walk (w : World) (hT : Tabs w) (v : Value) (l : List Cst) (h : RowC w v l) (hl : tot l ≤ 1048576) : Calls Tryd.prog 4 #[v] w (RetB w true) := by
  have HX := Lib.hid (tot_texts hl)
  have HR := Lib.hid (tot_room hl)
  have hll := tot_len l
  have hlen : (bytesZ l).length ≤ 10 + 41 * tot l := bytesZ_len l
  have HL := Lib.hid (show (bytesZ l).length ≤ 50000000 by omega)
  clear hlen
  have c4 := fun v W h h2 => Check_any v l W h h2 HX.out
  have c5 := fun v W h h2 => refCheck_any v l W h h2 HR.out
  have b1 := fun (w w' : World) (v : Value) => @bytes_ans w w' l v
  obtain ⟨z, hz⟩ : ∃ z, checkC l = z := ⟨_, rfl⟩
  obtain ⟨L, hL⟩ : ∃ L, L = @ite _ (checkC l = 0) (Classical.propDecidable _) (bytesZ l) [] := ⟨_, rfl⟩
  rw [← hL] at b1
  rw [hz] at c4 c5 b1
  have C4 := Lib.hid c4
  have C5 := Lib.hid c5
  have BA := Lib.hid b1
  clear c4 c5 b1 hz hL
  go_enter Tryd.func4, Tryd.ntmps4
  go_wp2_with (at_builtin; go_loud (refine wpList_appC _ rfl _ _ w.heap.size 24 44 _ 56 rfl Tryd.underlying24 infoC rfl (by omega) _ [] rfl (OwnC.nil _ _ _) v l rfl h (by simp; omega) (by simp) ?_); intro v1 w1 ho1 hg1 hb1)
  rw [List.nil_append] at ho1
  have x1 : Ext w w1 := (Ext.refl w).grown hg1 (fun g hg => by cases hg)
  go_wp2_with fail
  refine (Bytes_any v1 l _ (by exact ho1.row) (hT.ext x1) HX.out (fun _ => by have := HL.out; omega)).mono ?_
  rintro e w2 ⟨u2, rfl, ha2, x2'⟩
  obtain ⟨p, rfl, hp⟩ := BA.out _ _ _ ha2
  have x2 := x1.trans x2'
  clear ha2
  go_wp2_with fail
  refine (refBytes_any v l _ (by exact h.ext x2) (hT.ext x2) HR.out (fun _ => by have := HL.out; omega)).mono ?_
  rintro e w3 ⟨u3, rfl, ha3, x3'⟩
  obtain ⟨r, rfl, hr⟩ := BA.out _ _ _ ha3
  have x3 := x2.trans x3'
  have y3 := x2'.trans x3'
  clear ha3
  go_wp2_with fail
  refine (C4.out _ _ (by exact ho1.row.ext y3) (hT.ext x3)).mono ?_
  rintro e w4 ⟨rfl, x4'⟩
  have x4 := x3.trans x4'
  go_wp2_with fail
  refine (C5.out _ _ (by exact h.ext x4) (hT.ext x4)).mono ?_
  rintro e w5 ⟨rfl, x5'⟩
  have x5 := x4.trans x5'
  have y5 := x4'.trans x5'
  go_wp2_with fail
  refine (eqBytes_yes p r L _ (by exact hp.ext (x3'.trans y5)) (by exact hr.ext y5)).mono ?_
  rintro e w6 ⟨rfl, q6⟩
  have x6 := x5.trans q6
  go_wp2_with fail
  refine (refSame_yes v1 v l _ (by exact ho1.row.ext ((y3.trans y5).trans q6)) (by exact h.ext x6)).mono ?_
  rintro e w7 ⟨rfl, q7⟩
  have x7 := x6.trans q7
  go_wp2_with fail
  refine (works_any _ (hT.ext x7)).mono ?_
  rintro e w8 ⟨rfl, x8⟩
  go_wp2
  go_ret
  exact ⟨rfl, x7.trans x8⟩

theorem poolWrites_fits (os : Os) {H : Type} (enc : TypeId × Value → H) :
    (Rows.OpenSpec.upto Rows.poolWritesSpec).preRow enc Tryd.prog Tryd.f4 Rows.poolWritesUptoRow.domain false Rows.poolWritesUptoRow.laid ((laidWorld os).forCall (fun _ _ => 0) ⟨#[], #[.slice none 0 0], []⟩).memory #[.slice none 0 0] := by
  have hw : (DataW.whole enc Tryd.prog ((laidWorld os).forCall (fun _ _ => 0) ⟨#[], #[.slice none 0 0], []⟩).memory Tryd.f4.params.toList Rows.poolWritesSpec.vars false (#[.slice none 0 0] : Array Value).toList 8).map (fun x => (x.1, x.2.1)) = some ([.nil], []) := by kernel_rfl
  obtain ⟨⟨x1, x2, x3⟩, hx, hx1⟩ := Option.map_eq_some_iff.1 hw
  simp only [Prod.mk.injEq] at hx1
  obtain ⟨rfl, rfl⟩ := hx1
  exact OpenSpec.preRow_of_cond 8 hx (by kernel_rfl) (fun k hk => by cases hk; kernel_rfl) (by kernel_rfl) (laid_met os _)

set_option maxRecDepth 100000 in
set_option maxHeartbeats 2000000 in
theorem poolWrites_lifted (os : Os) (started : os.Started) (H : Type) (enc : TypeId × Value → H) (F : Stop.Interp) :
    ReturnsInHanded {} Tryd.checked os 4 .any ((Rows.OpenSpec.upto Rows.poolWritesSpec).preRow enc Tryd.prog Tryd.f4 Rows.poolWritesUptoRow.domain false Rows.poolWritesUptoRow.laid) (((Rows.OpenSpec.upto Rows.poolWritesSpec).at F).post enc Tryd.prog Tryd.f4 false true false false) := by
  refine returnsInHanded_of_row (C := Tryd.checked) (s := (Rows.OpenSpec.upto Rows.poolWritesSpec)) own started (by kernel_rfl) Tryd.func4
    (witness_row_atRef (enc := enc) (C := Tryd.checked) false (laidWorld os) #[.slice none 0 0] rfl (by kernel_rfl) (by kernel_rfl) (by kernel_rfl) (poolWrites_fits os enc)) ?_
  intro W base args ds gs before hval0 hW _ hcond hsz0 hL _ _
  have hT : Tabs W := tabs_of hL
  have hval : ∀ (j : Nat) t v, Tryd.f4.params[j]? = some t → args[j]? = some v → Value.okWide Tryd.prog W .any base t v := hval0
  have hsz : (DataW.weightsEach Tryd.prog (Tryd.f4.params.toList ++ Rows.poolWritesSpec.plain.varTypes Tryd.prog) (ds ++ gs)).all (· ≤ reachBytes) = true := hsz0
  have hW' := hW
  obtain ⟨p, q, hA0, hV, rfl, hfz, hnd⟩ := hW
  have hA : DataW.TrodAll enc Tryd.prog W 0 (fun _ => true) true Tryd.f4.params.toList args.toList ds p := hA0
  rw [Tryd.params4] at hA hval hsz
  obtain ⟨v0, vs0, d0, ds0, p0, q0, hargs, rfl, rfl, h0, r0⟩ := trodAll_cons hA
  obtain ⟨rfl, rfl, rfl⟩ := trodAll_nil r0
  obtain rfl : args = #[v0] := by cases args; simp_all
  obtain ⟨rfl, rfl⟩ := trodVars_none hV
  have hbk : Rows.uptoBulkAll ([d0] : List (DataW H)) ≤ 1048576 := bulk_bound (hcond _ rfl)
  obtain ⟨a0, len0, cap0, rfl⟩ := okWide_slice Tryd.underlying24 (hval 0 24 v0 rfl rfl)
  have k0 := h0
  have lt0 : ∀ x ∈ p0, x.block < W.heap.size := by obtain ⟨m, hm⟩ := k0; exact DataW.trod_lt m _ _ _ hm
  obtain ⟨l0, w0, z0⟩ : ∃ l, RowC W (.slice a0 len0 cap0) l ∧ tot l ≤ 1048576 := by
    obtain ⟨fuel, hf⟩ := h0
    obtain ⟨A, n, c, l, sp, hcs, hln, hrow, hmx, hd⟩ := open_consts hf
    simp [Value.cells] at hcs
    obtain ⟨rfl, rfl, rfl⟩ := hcs
    refine ⟨l, hrow, ?_⟩
    rcases hd with ⟨rfl, hd⟩ | hd
    · exact Nat.zero_le _
    · have hd : d0 = _ := hd
      have hb := Nat.le_trans (bulk_part (show d0 ∈ ([d0] : List (DataW H)) by simp)) hbk
      rw [hd] at hb
      exact Nat.le_trans (bulk_consts _ _) hb
  clear hA0 hval0 hsz0 hcond
  refine (poolWrites_walk W hT (.slice a0 len0 cap0) l0 w0 z0).mono fun e W' ⟨he, bel⟩ => ?_
  subst he
  exact ⟨_, rfl, _, _, _, [], _, [], hW', trodAll_mk1 (shut_bool Tryd.underlying4 _), (trodAll_cons_mk (Below.trod laidOut (by kernel_rfl) (of_decide_eq_true (by kernel_rfl)) k0 bel lt0) trodAll_mk0), rfl, bel.frame _, fun h => by cases h⟩

theorem poolWrites_over : Rows.PoolWritesUptoSaid :=
  OpenClaim.holds_of_cond 4 Tryd.f4 rfl rfl rfl rfl rfl rfl rfl ⟨rfl, rfl, rfl, rfl, rfl⟩ rfl rfl rfl rfl rfl (by kernel_rfl) Tryd.func4 (by kernel_rfl)
    (of_decide_eq_true (by kernel_rfl)) (by unfold Func.isWrapper; first | (rw [if_pos (by decide +kernel)]; kernel_rfl) | (rw [if_neg (by decide +kernel)]; exact ⟨rfl, rfl⟩))
    (fun os started H enc _ F => by rw [OpenClaim.pre_eq_preRow]; exact poolWrites_lifted os started H enc F)
theorem poolWrites_plain (f : FuncId) (fn : Func) (hf : Tryd.pinned.checked.prog.funcNamed "warpbeam/warpbeamlaw04.PoolWrites" = some f) (hfn : Tryd.pinned.checked.prog.funcs[f]? = some fn) :
    false = Tryd.pinned.checked.prog.looks [] ∧ ∀ (j : Nat) t, fn.params[j]? = some t → Tryd.pinned.checked.prog.wantsStandIn t = false := by
  obtain rfl : f = 4 := Option.some.inj ((show Tryd.prog.funcNamed "warpbeam/warpbeamlaw04.PoolWrites" = some 4 by kernel_rfl).symm.trans hf) |>.symm
  obtain rfl : fn = Tryd.f4 := (Option.some.inj (Tryd.func4.symm.trans hfn)).symm
  refine ⟨by kernel_rfl, fun j t ht => ?_⟩
  rw [Tryd.params4] at ht
  have hm := Array.mem_of_getElem? ht
  simp only [List.mem_toArray, List.mem_cons, List.not_mem_nil, or_false] at hm
  subst hm
  exact (show Tryd.prog.wantsStandIn 24 = false by kernel_rfl)

/-- The statement. -/
theorem poolWrites_proved : Rows.PoolWritesUptoCardSaid :=
  Claim7.holds_tied_plain_at .later [] _ _ _ _ poolWrites_over (fun _ h => by cases h) (by kernel_rfl) (fun _ h => by cases h) poolWritesUpto_row_tie rfl ⟨rfl, rfl⟩ (by kernel_rfl) rfl poolWrites_plain (by kernel_rfl)
#print axioms poolWrites_proved
end Go.Proofs.YtecgldkhjgcffaaDoor
