/- CodeCuts: the instructions of code, or what is wrong, and where, is the document's. Of all bytes. -/
import Derived.Test.YtcgajgileehbbaaZf
import Derived.Test.YtcgajgileehbbaaZd
import Derived.Test.YtcgajgileehbbaaZb
import Derived.Test.YtcgajgileehbbaaEq0
namespace Go.Proofs.Ytcgajgileehbbaa
open Go.ChangeShapes Go.WideShapes Go.ChangeAt Go.RowKit
open Go.ChangeMaps (open_string shut_string)
set_option linter.unusedVariables false
set_option maxRecDepth 100000 in
set_option maxHeartbeats 8000000 in
theorem codeCuts_walk (w : World) (v : Value) (l : List Int) (h : Row w .u8 v l) (hl : l.length ≤ 140737488351232) : Calls Try.prog 3 #[v] w fun e w' => e = .returned (.bool true) ∧ Ext w w' := by
  have H0 := Lib.hid h
  have HC := Lib.hid (copyBytes_any v l w h (by omega))
  have HD := Lib.hid (fun W u (o : Row W .u8 u l) => Cut_any u l W o)
  have HR := Lib.hid (fun W (e : Ext w W) => refCut_any v l W (H0.out.ext e) (by omega))
  obtain ⟨R, hR⟩ : ∃ R, cutZ l = R := ⟨_, rfl⟩
  rw [hR] at HD HR
  obtain ⟨m, at', er⟩ := R
  have HS := Lib.hid (fun W u1 u2 (o1 : RowI W u1 m) (o2 : RowI W u2 m) => refSameL_any u1 u2 m m W o1 o2)
  rw [decide_eq_true (rfl : m = m)] at HS
  have HQ := Lib.hid (fun W u (o : Row W .u8 u l) (e : Ext w W) => eqBytes_any u v l l W o (H0.out.ext e))
  rw [show decide (l = l) = true by simp] at HQ
  obtain ⟨A, c, rfl, -⟩ := h
  clear hR hl
  go_enter Try.func3, Try.ntmps3
  go_wp2_with fail
  refine HC.out.mono ?_
  rintro e w1 ⟨v', rfl, o, x1⟩
  have O := Lib.hid o.row
  have X1 := Lib.hid x1
  clear o x1
  go_wp2_with fail
  refine (HD.out _ _ O.out).mono ?_
  rintro e w2 ⟨v2, rfl, ⟨u, rfl, ho⟩, x2⟩
  have P1 := Lib.hid ho.row
  have X2 := Lib.hid (X1.out.trans x2)
  have O2 := Lib.hid (O.out.ext x2)
  clear ho x2
  go_wp2_with fail
  refine (HR.out _ X2.out).mono ?_
  rintro e w3 ⟨v3, rfl, ⟨u3, rfl, ho⟩, x3⟩
  have P3 := Lib.hid ho.row
  have P13 := Lib.hid (P1.out.ext x3)
  have X3 := Lib.hid (X2.out.trans x3)
  have O3 := Lib.hid (O2.out.ext x3)
  clear ho x3
  go_wp2_with fail
  refine (HS.out _ _ _ P13.out P3.out).mono ?_
  rintro e w4 ⟨rfl, x4⟩
  have X4 := Lib.hid (X3.out.trans x4)
  have O4 := Lib.hid (O3.out.ext x4)
  clear x4
  go_wp2_with fail
  refine (HQ.out _ _ O4.out X4.out).mono ?_
  rintro e w5 ⟨rfl, n5, rfl⟩
  go_wp2_with fail
  refine (awake_any _).mono ?_
  rintro e w6 ⟨rfl, x6⟩
  go_wp2
  go_ret
  exact ⟨rfl, (X4.out.drewN _).trans x6⟩

set_option maxRecDepth 100000 in
theorem codeCuts_lifted (os : Os) (started : os.Started) (H : Type) (enc : TypeId × Value → H) :
    ReturnsInHanded {} Try.checked os 3 .any (Rows.codeCutsSpec.pre6 enc Try.prog Try.f3 Rows.codeCutsRow.domain false) (Rows.codeCutsSpec.post enc Try.prog Try.f3 false true false false) := by
  refine returnsInHanded_of_change_sized (C := Try.checked) own started (by kernel_rfl) Try.func3
    (ChangeSpec.witness6 (enc := enc) (C := Try.checked) false ⟨#[], #[.slice none 0 0], []⟩ 8 (by kernel_rfl) (by kernel_rfl) (by kernel_rfl) (by kernel_rfl)) ?_
  intro W base args ds gs before hval0 hW hcnd hsz0 _
  have hval : ∀ (j : Nat) t v, Try.f3.params[j]? = some t → args[j]? = some v → Value.okWide Try.prog W .any base t v := hval0
  have hsz : (DataW.weightsEach Try.prog (Try.f3.params.toList ++ Rows.codeCutsSpec.plain.varTypes Try.prog) (ds ++ gs)).all (· ≤ reachBytes) = true := hsz0
  have hW' := hW
  obtain ⟨p, q, hA0, hV, rfl, hfz, hnd⟩ := hW
  have hA : DataW.TrodAll enc Try.prog W 0 (fun _ => true) true Try.f3.params.toList args.toList ds p := hA0
  rw [Try.params3] at hA hval hsz
  obtain ⟨v0, vs0, d0, ds0, p0, q0, hargs, rfl, rfl, h0, r0⟩ := trodAll_cons hA
  obtain ⟨rfl, rfl, rfl⟩ := trodAll_nil r0
  obtain rfl : args = #[v0] := by cases args; simp_all
  obtain ⟨rfl, rfl⟩ := trodVars_none hV
  obtain ⟨a0, len0, cap0, rfl⟩ := okWide_slice Try.underlying22 (hval 0 22 v0 rfl rfl)
  have k0 := h0
  have lt0 : ∀ x ∈ p0, x.block < W.heap.size := by obtain ⟨m, hm⟩ := k0; exact DataW.trod_lt m _ _ _ hm
  obtain ⟨l0, w0, z0⟩ : ∃ l, Row W .u8 (.slice a0 len0 cap0) l ∧ l.length ≤ 140737488351232 := by
    obtain ⟨fuel, hf⟩ := h0
    obtain ⟨A, n, c, l, hcs, hln, hrow, hb⟩ := open_listI (bytes := 1) Try.underlying22 Try.underlying5 (by kernel_rfl) (by kernel_rfl) hf (light_of hsz (j := 0) rfl rfl)
    simp [Value.cells] at hcs
    obtain ⟨rfl, rfl, rfl⟩ := hcs
    have e : reachBytes = 140737488351232 := rfl
    exact ⟨l, hrow, by omega⟩
  clear hA0 hval0 hsz0
  refine (codeCuts_walk W (.slice a0 len0 cap0) l0 w0 z0).mono fun e W' ⟨he, bel⟩ => ?_
  subst he
  exact ⟨_, rfl, _, _, _, [], _, [], hW', trodAll_mk1 (shut_bool Try.underlying4 _), (trodAll_cons_mk (Below.trod laidOut (by kernel_rfl) (of_decide_eq_true (by kernel_rfl)) k0 bel lt0) trodAll_mk0), rfl, bel.frame _, fun h => by cases h⟩

theorem codeCuts_over : Rows.codeCutsRow.holds Try.pinned (OpenSpec.ofChange Rows.codeCutsSpec) :=
  OpenClaim.holds_of_wide 3 Try.f3 rfl rfl rfl rfl rfl rfl rfl ⟨rfl, rfl, rfl, rfl, rfl⟩ rfl rfl rfl rfl rfl (by kernel_rfl) Try.func3 (by kernel_rfl)
    (of_decide_eq_true (by kernel_rfl)) (by unfold Func.isWrapper; first | (rw [if_pos (by decide +kernel)]; kernel_rfl) | (rw [if_neg (by decide +kernel)]; exact ⟨rfl, rfl⟩))
    (fun os started H enc _ => codeCuts_lifted os started H enc)

/-- The statement. -/
theorem codeCuts_proved : Rows.CodeCutsSaid := codeCuts_over
#print axioms codeCuts_proved

end Go.Proofs.Ytcgajgileehbbaa
