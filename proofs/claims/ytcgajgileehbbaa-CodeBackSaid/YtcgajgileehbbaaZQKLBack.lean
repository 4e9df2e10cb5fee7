/- CodeBack: what was cut is joined as it was, and cut so again. Of all bytes. -/
import Derived.Test.YtcgajgileehbbaaZf
import Derived.Test.YtcgajgileehbbaaZd
import Derived.Test.YtcgajgileehbbaaZb
import Derived.Test.YtcgajgileehbbaaEq0
namespace Go.Proofs.Ytcgajgileehbbaa
open Go.ChangeShapes Go.WideShapes Go.ChangeAt Go.RowKit
open Go.ChangeMaps (open_string shut_string)
set_option linter.unusedVariables false
set_option maxRecDepth 100000 in
set_option maxHeartbeats 8000000 in
theorem codeBack_walk (w : World) (v : Value) (l : List Int) (h : Row w .u8 v l) (hl : l.length ≤ 140737488351232) : Calls Try.prog 6 #[v] w fun e w' => e = .returned (.bool true) ∧ Ext w w' := by
  have H0 := Lib.hid h
  have HB := Lib.hid (bytes_row h)
  have HD := Lib.hid (fun W u (o : Row W .u8 u l) => Cut_any u l W o)
  obtain ⟨R, hR⟩ : ∃ R, cutZ l = R := ⟨_, rfl⟩
  have HN : Hid (R.2.2 ≠ 0 → R.1 = []) := Lib.hid (fun e => by rw [← hR] at e ⊢; exact cutZ_none e)
  have HA : Hid (R.2.2 = 0 → R.2.1 = 0) := Lib.hid (fun e => by rw [← hR] at e ⊢; exact cutZ_at e)
  have HJZ : Hid (R.2.2 = 0 → joinZ R.1 = (l, 0)) := Lib.hid (fun e => by rw [← hR] at e ⊢; exact cut_joinZ HB.out e)
  rw [hR] at HD
  obtain ⟨m, at', er⟩ := R
  simp only at HN HA HJZ
  have HJ := Lib.hid (fun W u (o : RowI W u m) => Join_any u m W o)
  have HS := Lib.hid (fun W u1 u2 (o1 : RowI W u1 m) (o2 : RowI W u2 m) => refSameL_any u1 u2 m m W o1 o2)
  rw [decide_eq_true (rfl : m = m)] at HS
  have HQ := Lib.hid (fun W u (o : Row W .u8 u l) (e : Ext w W) => eqBytes_any v u l l W (H0.out.ext e) o)
  rw [show decide (l = l) = true by simp] at HQ
  obtain ⟨A, c, rfl, -⟩ := h
  clear hR hl
  go_enter Try.func6, Try.ntmps6
  go_wp2_with fail
  refine (HD.out _ _ H0.out).mono ?_
  rintro e w1 ⟨v2, rfl, ⟨u, rfl, ho⟩, x1⟩
  have P1 := Lib.hid ho.row
  have X1 := Lib.hid x1
  clear ho x1
  by_cases he : er = 0
  · subst he
    have hz := HJZ.out rfl
    rw [hz] at HJ
    clear hz
    go_wp2_with fail
    refine (HJ.out _ _ P1.out).mono ?_
    rintro e w2 ⟨v2, rfl, ⟨u2, rfl, o2⟩, x2⟩
    have O2 := Lib.hid o2.row
    have X2 := Lib.hid (X1.out.trans x2)
    have P2 := Lib.hid (P1.out.ext x2)
    clear o2 x2
    go_wp2_with fail
    refine (HD.out _ _ O2.out).mono ?_
    rintro e w3 ⟨v3, rfl, ⟨u3, rfl, ho⟩, x3⟩
    have P3 := Lib.hid ho.row
    have O3 := Lib.hid (O2.out.ext x3)
    have P23 := Lib.hid (P2.out.ext x3)
    have X3 := Lib.hid (X2.out.trans x3)
    clear ho x3
    go_wp2_with fail
    refine (HQ.out _ _ O3.out X3.out).mono ?_
    rintro e w4 ⟨rfl, n4, rfl⟩
    go_wp2_with fail
    refine (HS.out _ _ _ (P23.out.ext ((Ext.refl _).drewN _)) (P3.out.ext ((Ext.refl _).drewN _))).mono ?_
    rintro e w5 ⟨rfl, x5⟩
    go_wp2_with fail
    refine (awake_any _).mono ?_
    rintro e w6 ⟨rfl, x6⟩
    go_wp2
    go_ret
    exact ⟨rfl, ((X3.out.drewN _).trans x5).trans x6⟩
  · have hb : (er != 0) = true := by simpa using he
    obtain rfl : m = [] := HN.out he
    obtain ⟨A1, c1, rfl, -⟩ := P1.out.cut
    simp only [List.length_nil]
    clear he
    go_wp2_with fail
    refine (awake_any _).mono ?_
    rintro e w6 ⟨rfl, x6⟩
    go_wp2
    go_ret
    exact ⟨rfl, X1.out.trans x6⟩

set_option maxRecDepth 100000 in
theorem codeBack_lifted (os : Os) (started : os.Started) (H : Type) (enc : TypeId × Value → H) :
    ReturnsInHanded {} Try.checked os 6 .any (Rows.codeBackSpec.pre6 enc Try.prog Try.f6 Rows.codeBackRow.domain false) (Rows.codeBackSpec.post enc Try.prog Try.f6 false true false false) := by
  refine returnsInHanded_of_change_sized (C := Try.checked) own started (by kernel_rfl) Try.func6
    (ChangeSpec.witness6 (enc := enc) (C := Try.checked) false ⟨#[], #[.slice none 0 0], []⟩ 8 (by kernel_rfl) (by kernel_rfl) (by kernel_rfl) (by kernel_rfl)) ?_
  intro W base args ds gs before hval0 hW hcnd hsz0 _
  have hval : ∀ (j : Nat) t v, Try.f6.params[j]? = some t → args[j]? = some v → Value.okWide Try.prog W .any base t v := hval0
  have hsz : (DataW.weightsEach Try.prog (Try.f6.params.toList ++ Rows.codeBackSpec.plain.varTypes Try.prog) (ds ++ gs)).all (· ≤ reachBytes) = true := hsz0
  have hW' := hW
  obtain ⟨p, q, hA0, hV, rfl, hfz, hnd⟩ := hW
  have hA : DataW.TrodAll enc Try.prog W 0 (fun _ => true) true Try.f6.params.toList args.toList ds p := hA0
  rw [Try.params6] at hA hval hsz
  obtain ⟨v0, vs0, d0, ds0, p0, q0, hargs, rfl, rfl, h0, r0⟩ := trodAll_cons hA
  obtain ⟨rfl, rfl, rfl⟩ := trodAll_nil r0
  obtain rfl : args = #[v0] := by cases args; simp_all
  obtain ⟨rfl, rfl⟩ := trodVars_none hV
  obtain ⟨a0, len0, cap0, rfl⟩ := okWide_slice Try.underlying22 (hval 0 22 v0 rfl rfl)
  have k0 := h0
  have lt0 : ∀ x ∈ p0, x.block < W.heap.size := by obtain ⟨m, hm⟩ := k0; exact DataW.trod_lt m _ _ _ hm
  obtain ⟨l0, w0, z0⟩ : ∃ l, Row W .u8 (.slice a0 len0 cap0) l ∧ l.length ≤ 140737488351232 := by
    obtain ⟨fuel, hf⟩ := h0
    obtain ⟨A, n, c, l, hcs, hln, hrow, hb⟩ := open_listI (bytes := 1) Try.underlying22 Try.underlying5 (by kernel_rfl) (by kernel_rfl) hf (light_of hsz (j := 0) rfl rfl)
    simp [Value.cells] at hcs
    obtain ⟨rfl, rfl, rfl⟩ := hcs
    have e : reachBytes = 140737488351232 := rfl
    exact ⟨l, hrow, by omega⟩
  clear hA0 hval0 hsz0
  refine (codeBack_walk W (.slice a0 len0 cap0) l0 w0 z0).mono fun e W' ⟨he, bel⟩ => ?_
  subst he
  exact ⟨_, rfl, _, _, _, [], _, [], hW', trodAll_mk1 (shut_bool Try.underlying4 _), (trodAll_cons_mk (Below.trod laidOut (by kernel_rfl) (of_decide_eq_true (by kernel_rfl)) k0 bel lt0) trodAll_mk0), rfl, bel.frame _, fun h => by cases h⟩

theorem codeBack_over : Rows.codeBackRow.holds Try.pinned (OpenSpec.ofChange Rows.codeBackSpec) :=
  OpenClaim.holds_of_wide 6 Try.f6 rfl rfl rfl rfl rfl rfl rfl ⟨rfl, rfl, rfl, rfl, rfl⟩ rfl rfl rfl rfl rfl (by kernel_rfl) Try.func6 (by kernel_rfl)
    (of_decide_eq_true (by kernel_rfl)) (by unfold Func.isWrapper; first | (rw [if_pos (by decide +kernel)]; kernel_rfl) | (rw [if_neg (by decide +kernel)]; exact ⟨rfl, rfl⟩))
    (fun os started H enc _ => codeBack_lifted os started H enc)

/-- The statement. -/
theorem codeBack_proved : Rows.CodeBackSaid := codeBack_over
#print axioms codeBack_proved

end Go.Proofs.Ytcgajgileehbbaa
