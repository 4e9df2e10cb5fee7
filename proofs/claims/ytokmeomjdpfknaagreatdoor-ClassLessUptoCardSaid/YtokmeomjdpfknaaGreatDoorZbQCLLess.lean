/- ClassLess: a class that may be may be without one of its fields, its methods, its interfaces, and as an interface or not, of any class and three numbers; the row's three tables (utf8's two, and how many of each thing a class may have) are as the texts lay them. Narrowed: arguments of at most 1048576 values and letters. -/
import Derived.Test.YtokmeomjdpfknaaGreatDoorZbAQ
import Derived.Test.YtokmeomjdpfknaaGreatDoorZbAP
import Derived.Test.YtokmeomjdpfknaaGreatDoorZbQClOpen3
import Derived.Test.YtokmeomjdpfknaaGreatDoorZbQCLLessW
import Derived.Test.YtokmeomjdpfknaaGreatDoorCLLessJ
namespace Go.Proofs.YtokmeomjdpfknaaGreatDoor
open Go.ChangeShapes Go.WideShapes Go.ChangeAt Go.RowKit
open Go.ChangeMaps (open_string shut_string)
set_option linter.unusedVariables false
theorem classLess_walk (w : World) (hT : Tabs w) (hM : Most w) (c : Cl) (vp vi vf vm : Value) (h : ClAt w c vp vi vf vm) (hr : ClRoom c) (hs : ClSize c) (hy : tot c.pool ≤ 1048576) (a b g : Int) (hz : B64 a ∧ B64 b ∧ B64 g) :
    Calls Tryz.prog 9 #[.agg (c.vals vp vi vf vm), .agg #[.int .i64 a, .int .i64 b, .int .i64 g]] w fun e w' => e = .returned (.bool true) ∧ Ext w w' := classLess_any w hT hM c vp vi vf vm h hr hs (by have := bytesZ_len c.pool; omega) a b g hz.1 hz.2.1 hz.2.2
theorem classLess_fits (os : Os) {H : Type} (enc : TypeId × Value → H) :
    (Rows.OpenSpec.upto Rows.classLessSpec).preRow enc Tryz.prog Tryz.f9 Rows.classLessUptoRow.domain false Rows.classLessUptoRow.laid ((laidWorld os).forCall (fun _ _ => 0) ⟨#[], #[.agg #[.slice none 0 0, .string ⟨#[]⟩, .string ⟨#[]⟩, .bool false, .slice none 0 0, .slice none 0 0, .slice none 0 0], .agg #[.int .i64 0, .int .i64 0, .int .i64 0]], []⟩).memory #[.agg #[.slice none 0 0, .string ⟨#[]⟩, .string ⟨#[]⟩, .bool false, .slice none 0 0, .slice none 0 0, .slice none 0 0], .agg #[.int .i64 0, .int .i64 0, .int .i64 0]] := by
  have hw : (DataW.whole enc Tryz.prog ((laidWorld os).forCall (fun _ _ => 0) ⟨#[], #[.agg #[.slice none 0 0, .string ⟨#[]⟩, .string ⟨#[]⟩, .bool false, .slice none 0 0, .slice none 0 0, .slice none 0 0], .agg #[.int .i64 0, .int .i64 0, .int .i64 0]], []⟩).memory Tryz.f9.params.toList Rows.classLessSpec.vars false (#[.agg #[.slice none 0 0, .string ⟨#[]⟩, .string ⟨#[]⟩, .bool false, .slice none 0 0, .slice none 0 0, .slice none 0 0], .agg #[.int .i64 0, .int .i64 0, .int .i64 0]] : Array Value).toList 8).map (fun x => (x.1, x.2.1)) = some ([.agg [.nil, .lit (.string []), .lit (.string []), .lit (.bool false), .nil, .nil, .nil], .agg [.lit (.int .i64 0), .lit (.int .i64 0), .lit (.int .i64 0)]], []) := by kernel_rfl
  obtain ⟨⟨x1, x2, x3⟩, hx, hx1⟩ := Option.map_eq_some_iff.1 hw
  simp only [Prod.mk.injEq] at hx1
  obtain ⟨rfl, rfl⟩ := hx1
  exact OpenSpec.preRow_of_cond 8 hx (by kernel_rfl) (fun k hk => by cases hk; kernel_rfl) (by kernel_rfl) (laid_met os _)

set_option maxRecDepth 100000 in
set_option maxHeartbeats 2000000 in
theorem classLess_lifted (os : Os) (started : os.Started) (H : Type) (enc : TypeId × Value → H) (F : Stop.Interp) :
    ReturnsInHanded {} Tryz.checked os 9 .any ((Rows.OpenSpec.upto Rows.classLessSpec).preRow enc Tryz.prog Tryz.f9 Rows.classLessUptoRow.domain false Rows.classLessUptoRow.laid) (((Rows.OpenSpec.upto Rows.classLessSpec).at F).post enc Tryz.prog Tryz.f9 false true false false) := by
  refine returnsInHanded_of_row (C := Tryz.checked) (s := (Rows.OpenSpec.upto Rows.classLessSpec)) own started (by kernel_rfl) Tryz.func9
    (witness_row_atRef (enc := enc) (C := Tryz.checked) false (laidWorld os) #[.agg #[.slice none 0 0, .string ⟨#[]⟩, .string ⟨#[]⟩, .bool false, .slice none 0 0, .slice none 0 0, .slice none 0 0], .agg #[.int .i64 0, .int .i64 0, .int .i64 0]] rfl (by kernel_rfl) (by kernel_rfl) (by kernel_rfl) (classLess_fits os enc)) ?_
  intro W base args ds gs before hval0 hW _ hcond hsz0 hL _ _
  obtain ⟨hT, hM⟩ : Tabs W ∧ Most W := tabs_of hL
  have hval : ∀ (j : Nat) t v, Tryz.f9.params[j]? = some t → args[j]? = some v → Value.okWide Tryz.prog W .any base t v := hval0
  have hsz : (DataW.weightsEach Tryz.prog (Tryz.f9.params.toList ++ Rows.classLessSpec.plain.varTypes Tryz.prog) (ds ++ gs)).all (· ≤ reachBytes) = true := hsz0
  have hW' := hW
  obtain ⟨p, q, hA0, hV, rfl, hfz, hnd⟩ := hW
  have hA : DataW.TrodAll enc Tryz.prog W 0 (fun _ => true) true Tryz.f9.params.toList args.toList ds p := hA0
  rw [Tryz.params9] at hA hval hsz
  obtain ⟨v0, vs0, d0, ds0, p0, q0, hargs, rfl, rfl, h0, r0⟩ := trodAll_cons hA
  obtain ⟨v1, vs1, d1, ds1, p1, q1, rfl, rfl, rfl, h1, r1⟩ := trodAll_cons r0
  obtain ⟨rfl, rfl, rfl⟩ := trodAll_nil r1
  obtain rfl : args = #[v0, v1] := by cases args; simp_all
  obtain ⟨rfl, rfl⟩ := trodVars_none hV
  have hbk : Rows.uptoBulkAll ([d0, d1] : List (DataW H)) ≤ 1048576 := bulk_bound (hcond _ rfl)
  obtain ⟨cs0, rfl, -⟩ := okWide_struct Tryz.underlying27 (hval 0 27 v0 rfl rfl)
  have k0 := h0
  have lt0 : ∀ x ∈ p0, x.block < W.heap.size := by obtain ⟨m, hm⟩ := k0; exact DataW.trod_lt m _ _ _ hm
  obtain ⟨c0, vp0, vi0, vf0, vm0, e0, w0, z0, s0, t0⟩ : ∃ (c : Cl) (vp vi vf vm : Value), cs0 = c.vals vp vi vf vm ∧ ClAt W c vp vi vf vm ∧ ClRoom c ∧ ClSize c ∧ tot c.pool ≤ Rows.uptoBulk d0 := by
    obtain ⟨fuel, hf⟩ := h0
    obtain ⟨c, vp, vi, vf, vm, hcs, h1, h2, h3, h4⟩ := open_classG _ _ _ hf (light_of hsz (j := 0) rfl rfl)
    have hcs : cs0.toList = (c.vals vp vi vf vm).toList := by simpa [Value.cells] using hcs
    exact ⟨c, vp, vi, vf, vm, Array.toList_inj.1 hcs, h1, h2, h3, h4⟩
  subst e0
  have y0 : tot c0.pool ≤ 1048576 := Nat.le_trans t0 (Nat.le_trans (bulk_part (show d0 ∈ ([d0, d1] : List (DataW H)) by simp)) hbk)
  have k1 := h1
  have lt1 : ∀ x ∈ p1, x.block < W.heap.size := by obtain ⟨m, hm⟩ := k1; exact DataW.trod_lt m _ _ _ hm
  obtain ⟨a1, b1, g1, e1, z1⟩ : ∃ a b c : Int, v1 = .agg #[.int .i64 a, .int .i64 b, .int .i64 c] ∧ B64 a ∧ B64 b ∧ B64 c := open_ints3 (hval 1 54 v1 rfl rfl) h1
  subst e1
  clear hA0 hval0 hsz0 hcond
  refine (classLess_walk W hT hM c0 vp0 vi0 vf0 vm0 w0 z0 s0 y0 a1 b1 g1 z1).mono fun e W' ⟨he, bel⟩ => ?_
  subst he
  exact ⟨_, rfl, _, _, _, [], _, [], hW', trodAll_mk1 (shut_bool Tryz.underlying4 _), (trodAll_cons_mk (Below.trod laidOut (by kernel_rfl) (of_decide_eq_true (by kernel_rfl)) k0 bel lt0) (trodAll_cons_mk (Below.trod laidOut (by kernel_rfl) (of_decide_eq_true (by kernel_rfl)) k1 bel lt1) trodAll_mk0)), rfl, bel.frame _, fun h => by cases h⟩

theorem classLess_over : Rows.ClassLessUptoSaid :=
  OpenClaim.holds_of_cond 9 Tryz.f9 rfl rfl rfl rfl rfl rfl rfl ⟨rfl, rfl, rfl, rfl, rfl⟩ rfl rfl rfl rfl rfl (by kernel_rfl) Tryz.func9 classLess_joined
    (of_decide_eq_true (by kernel_rfl)) (by unfold Func.isWrapper; first | (rw [if_pos (by decide +kernel)]; kernel_rfl) | (rw [if_neg (by decide +kernel)]; exact ⟨rfl, rfl⟩))
    (fun os started H enc _ F => by rw [OpenClaim.pre_eq_preRow]; exact classLess_lifted os started H enc F)
theorem classLess_plain (f : FuncId) (fn : Func) (hf : Tryz.pinned.checked.prog.funcNamed "warpbeam/warpbeamlaw08.ClassLess" = some f) (hfn : Tryz.pinned.checked.prog.funcs[f]? = some fn) :
    false = Tryz.pinned.checked.prog.looks [] ∧ ∀ (j : Nat) t, fn.params[j]? = some t → Tryz.pinned.checked.prog.wantsStandIn t = false := by
  obtain rfl : f = 9 := Option.some.inj ((show Tryz.prog.funcNamed "warpbeam/warpbeamlaw08.ClassLess" = some 9 by kernel_rfl).symm.trans hf) |>.symm
  obtain rfl : fn = Tryz.f9 := (Option.some.inj (Tryz.func9.symm.trans hfn)).symm
  refine ⟨by kernel_rfl, fun j t ht => ?_⟩
  rw [Tryz.params9] at ht
  have hm := Array.mem_of_getElem? ht
  simp only [List.mem_toArray, List.mem_cons, List.not_mem_nil, or_false] at hm
  rcases hm with rfl | rfl
  · exact (show Tryz.prog.wantsStandIn 27 = false by kernel_rfl)
  · exact (show Tryz.prog.wantsStandIn 54 = false by kernel_rfl)

theorem classLess_proved : Rows.ClassLessUptoCardSaid :=
  Claim7.holds_tied_plain_at .later [] _ _ _ _ classLess_over (fun _ h => by cases h) (by kernel_rfl) (fun _ h => by cases h) classLessUpto_row_tie rfl ⟨rfl, rfl⟩ (by kernel_rfl) rfl classLess_plain (by kernel_rfl)
#print axioms classLess_proved
end Go.Proofs.YtokmeomjdpfknaaGreatDoor
