/- CodeRow: instructions stand without a gap; all to which one goes are among them; the last one ends. Of all bytes. -/
import Derived.Test.YtcgajgileehbbaaZf
import Derived.Test.YtcgajgileehbbaaZb
import Derived.Test.YtcgajgileehbbaaOpsG
import Derived.BigQuiet
namespace Go.Proofs.Ytcgajgileehbbaa
open Go.ChangeShapes Go.WideShapes Go.ChangeAt Go.RowKit
open Go.ChangeMaps (open_string shut_string)
set_option linter.unusedVariables false
set_option maxRecDepth 100000 in
set_option maxHeartbeats 8000000 in
theorem codeRow_walk (w : World) (v : Value) (b : List Int) (h : Row w .u8 v b) (hl : b.length ≤ 140737488351232) : Calls Try.prog 7 #[v] w fun e w' => e = .returned (.bool true) ∧ Ext w w' := by
  have H0 := Lib.hid h
  have HB := Lib.hid (bytes_row h)
  have HC := Lib.hid (Cut_any v b w h)
  have HD := Lib.hid (fun k W (e : Ext w W) => Decode_any v b k W (H0.out.ext e))
  obtain ⟨A, c, rfl, hc, hm, -⟩ := h
  unfold maxLen at hm
  obtain ⟨R, hR⟩ : ∃ R, cutZ b = R := ⟨_, rfl⟩
  have HS : Hid (R.2.2 = 0 → RowAt b R.1 0 0 ∧ 0 < R.1.length ∧ (∀ x ∈ R.1, good R.1 x = true) ∧ endsZ (R.1.getD (R.1.length - 1) i0).o = true) := Lib.hid (fun e => by
    rw [← hR] at e ⊢
    obtain ⟨p1, p2, p3, p4, p5⟩ := cutZ_parts e
    have p6 := cutF_one HB.out p2 (by rw [p3]; exact e)
    rw [p3] at p6
    exact ⟨RowAt.start e, p6, p4, p5⟩)
  rw [hR] at HC
  obtain ⟨l, a, er⟩ := R
  simp only at HS
  obtain ⟨nb, hnb⟩ : ∃ n, b.length = n := ⟨_, rfl⟩
  have Hnb := Lib.hid hnb
  rw [hnb] at HC HD hc ⊢
  clear hR hl hnb H0
  go_enter Try.func7, Try.ntmps7
  go_wp2_with fail
  refine HC.out.mono ?_
  rintro e w1 ⟨v', rfl, ⟨u, rfl, ho⟩, x1⟩
  have P1 := Lib.hid ho.row
  have X1 := Lib.hid x1
  clear ho x1
  by_cases he : er = 0
  · subst he
    obtain ⟨hr0, hl0, hgood, hends⟩ := HS.out rfl
    obtain ⟨q, hq⟩ : ∃ q, l.length = q + 1 := ⟨l.length - 1, by omega⟩
    rw [hq] at hends
    obtain ⟨A1, c1, rfl, hc1, hm1, -⟩ := P1.out.cut
    unfold maxLen at hm1
    have Hq := Lib.hid hq
    have HG := Lib.hid hgood
    have HE := Lib.hid (show endsZ (gn l q).o = true from hends)
    have HR0 := Lib.hid hr0
    rw [hq] at P1 hc1 ⊢
    clear hr0 hl0 hgood hends hq
    go_wp2_with fail
    go_loopw [6, 7] (fun t i wr => ∃ (i' k : Nat), i = .int .i64 i' ∧ t = .int .i64 k ∧ i' ≤ q + 1 ∧ Hid (RowAt b l i' k) ∧ Hid (Ext w1 wr)) (fun _ i _ => q + 1 - (intOf i).toNat)
    case atStart => exact ⟨0, 0, rfl, rfl, by omega, HR0, Lib.hid (Ext.refl _)⟩
    case round =>
      obtain ⟨i', k, rfl, rfl, hi, HA, HX⟩ := hrel
      by_cases hlt : i' < q + 1
      · have hil : i' < l.length := by have := Hq.out; omega
        obtain ⟨hkb, n, hdn, hax, hnx⟩ := HA.out.step HB.out hil
        obtain ⟨b1, o1, rfl, hat⟩ := P1.out.at (by omega)
        obtain ⟨v1, v2, hat⟩ := hat i' hil
        obtain ⟨A3, c3, rfl, hc3, hm3, -⟩ := (hat _ (Ext.refl w1)).2.1
        unfold maxLen at hm3
        have hpl := HA.out.place hil hax
        have hgx := HG.out _ (gn_mem hil)
        have hd := HD.out k wr (X1.out.trans HX.out)
        rw [hdn] at hd
        obtain ⟨x, hx⟩ : ∃ x, gn l i' = x := ⟨_, rfl⟩
        rw [hx] at hat hax hgx hd hc3
        have HAT := Lib.hid hat
        have HDD := Lib.hid hd
        have HGX := Lib.hid hgx
        have HNX := Lib.hid hnx
        have Hax := Lib.hid hax
        have HPL := Lib.hid (fun W (e : Ext w1 W) => Place_any (.slice (some ⟨b1, o1, none⟩) (q + 1) c1) l k W (P1.out.ext e))
        rw [hpl] at HPL
        have HPT := Lib.hid (fun t W (e : Ext w1 W) => Place_any (.slice (some ⟨b1, o1, none⟩) (q + 1) c1) l t W (P1.out.ext e))
        obtain ⟨m, hmm⟩ : ∃ m, x.to.length = m := ⟨_, rfl⟩
        have Hm := Lib.hid hmm
        rw [hmm] at HAT hc3
        clear hdn hat hpl hgx hd hx hnx hax hil hkb hmm
        go_wp2_with fail
        refine HDD.out.mono ?_
        rintro e w2 ⟨v', rfl, ⟨u1, u2, rfl, p1, p2⟩, x2⟩
        obtain ⟨B1, n1, d1, rfl⟩ := p1.slice
        obtain ⟨B2, n2, d2, rfl⟩ := p2.slice
        unfold In.vals
        have X2 := Lib.hid (HX.out.trans x2)
        obtain ⟨y0, y1, -⟩ := (HAT.out _ (X2.out.alloc (.cells #[.int .i64 x.a, .int .i64 x.o, .int .i64 x.n, .int .i64 x.m, .slice B1 n1 d1, .slice B2 n2 d2] 34))).1
        have hb0 : (x.a != (k : Int)) = false := by rw [Hax.out]; simp
        have hb1 : (x.o != x.o) = false := by simp
        clear p1 p2 x2
        go_wp2_with fail
        go_quiet (fail)
        go_wp2_with fail
        clear y0 y1 hb0 hb1
        refine (HPL.out _ ((X2.out.alloc _).drewN _)).mono ?_
        rintro e w3 ⟨rfl, x3⟩
        have X3 := Lib.hid (((X2.out.alloc (.cells #[.int .i64 x.a, .int .i64 x.o, .int .i64 x.n, .int .i64 x.m, .slice B1 n1 d1, .slice B2 n2 d2] 34)).drewN _).trans x3)
        clear x3
        go_wp2_with fail
        go_loopw [13] (fun i ws => ∃ (j : Nat), i = .int .i64 j ∧ j ≤ m ∧ Hid (Ext w1 ws)) (fun i _ => m - (intOf i).toNat)
        case atStart => exact ⟨0, rfl, by omega, X3⟩
        case round =>
          obtain ⟨j, rfl, hj, HY⟩ := hrel
          obtain ⟨-, -, -, -, y4, -⟩ := (HAT.out _ HY.out).1
          by_cases hjm : j < m
          · obtain ⟨A2, c2, hq, -, -, -, -, hg2⟩ := (HAT.out _ HY.out).2.1
            injection hq with hq1 hq2 hq3
            subst hq1
            clear hq2 hq3
            obtain ⟨b3, o3, rfl, hb3, hx3⟩ := hg2 (by have := Hm.out; omega)
            have z0 := hx3 j (by have := Hm.out; omega)
            have hyes : (placeZ l (gi x.to j)).2 = true := by
              rw [show (placeZ l (gi x.to j)).2 = hasAt l (gi x.to j) from placeF_has]
              exact List.all_eq_true.1 HGX.out _ (gi_mem (by have := Hm.out; omega))
            have hpt := HPT.out (gi x.to j) wr HY.out
            rw [hyes] at hpt
            have HPJ := Lib.hid hpt
            clear hx3 hg2 hyes hpt
            go_wp2_with fail
            refine HPJ.out.mono ?_
            rintro e w4 ⟨rfl, x4⟩
            go_wp2_with fail
            go_roundw
            case rel => exact ⟨j + 1, by go_num, by omega, Lib.hid (HY.out.trans x4)⟩
            case measure => simp [intOf]; omega
          · clear X3
            go_wp2_with fail
            go_roundw
            case rel => exact ⟨i' + 1, n, by go_num, rfl, by omega, HNX, HY⟩
            case measure => simp [intOf]; omega
      · obtain rfl : i' = q + 1 := by omega
        have hend := HA.out
        rw [← Hq.out] at hend
        have hkk := hend.end_ HB.out
        rw [Hnb.out] at hkk
        subst hkk
        obtain ⟨b1, o1, rfl, hat⟩ := P1.out.at (by have := Hq.out; omega)
        obtain ⟨v1, v2, hat⟩ := hat q (by have := Hq.out; omega)
        obtain ⟨-, y1, -⟩ := (hat _ HX.out).1
        obtain ⟨x, hx⟩ : ∃ x, gn l q = x := ⟨_, rfl⟩
        rw [hx] at y1 HE
        have hwq : IntKind.i64.wrap (((q + 1 : Nat) : Int) - 1) = q := by rw [IntKind.wrap_i64]; omega
        have HN := Lib.hid (fun W => Ends_any x.o W)
        rw [HE.out] at HN
        clear hat hx hend HA
        go_wp2_with fail
        refine (HN.out _).mono ?_
        rintro e w3 ⟨rfl, x3⟩
        go_wp2_with fail
        refine (awake_any _).mono ?_
        rintro e w4 ⟨rfl, x4⟩
        go_wp2
        go_ret
        exact ⟨rfl, ((X1.out.trans HX.out).trans x3).trans x4⟩
  · have hb : (er != 0) = true := by simpa using he
    clear he
    go_wp2_with fail
    refine (awake_any _).mono ?_
    rintro e w6 ⟨rfl, x6⟩
    go_wp2
    go_ret
    exact ⟨rfl, X1.out.trans x6⟩

set_option maxRecDepth 100000 in
theorem codeRow_lifted (os : Os) (started : os.Started) (H : Type) (enc : TypeId × Value → H) :
    ReturnsInHanded {} Try.checked os 7 .any (Rows.codeRowSpec.pre6 enc Try.prog Try.f7 Rows.codeRowRow.domain false) (Rows.codeRowSpec.post enc Try.prog Try.f7 false true false false) := by
  refine returnsInHanded_of_change_sized (C := Try.checked) own started (by kernel_rfl) Try.func7
    (ChangeSpec.witness6 (enc := enc) (C := Try.checked) false ⟨#[], #[.slice none 0 0], []⟩ 8 (by kernel_rfl) (by kernel_rfl) (by kernel_rfl) (by kernel_rfl)) ?_
  intro W base args ds gs before hval0 hW hcnd hsz0 _
  have hval : ∀ (j : Nat) t v, Try.f7.params[j]? = some t → args[j]? = some v → Value.okWide Try.prog W .any base t v := hval0
  have hsz : (DataW.weightsEach Try.prog (Try.f7.params.toList ++ Rows.codeRowSpec.plain.varTypes Try.prog) (ds ++ gs)).all (· ≤ reachBytes) = true := hsz0
  have hW' := hW
  obtain ⟨p, q, hA0, hV, rfl, hfz, hnd⟩ := hW
  have hA : DataW.TrodAll enc Try.prog W 0 (fun _ => true) true Try.f7.params.toList args.toList ds p := hA0
  rw [Try.params7] at hA hval hsz
  obtain ⟨v0, vs0, d0, ds0, p0, q0, hargs, rfl, rfl, h0, r0⟩ := trodAll_cons hA
  obtain ⟨rfl, rfl, rfl⟩ := trodAll_nil r0
  obtain rfl : args = #[v0] := by cases args; simp_all
  obtain ⟨rfl, rfl⟩ := trodVars_none hV
  obtain ⟨a0, len0, cap0, rfl⟩ := okWide_slice Try.underlying22 (hval 0 22 v0 rfl rfl)
  have k0 := h0
  have lt0 : ∀ x ∈ p0, x.block < W.heap.size := by obtain ⟨m, hm⟩ := k0; exact DataW.trod_lt m _ _ _ hm
  obtain ⟨l0, w0, z0⟩ : ∃ l, Row W .u8 (.slice a0 len0 cap0) l ∧ l.length ≤ 140737488351232 := by
    obtain ⟨fuel, hf⟩ := h0
    obtain ⟨A, n, c, l, hcs, hln, hrow, hb⟩ := open_listI (bytes := 1) Try.underlying22 Try.underlying5 (by kernel_rfl) (by kernel_rfl) hf (light_of hsz (j := 0) rfl rfl)
    simp [Value.cells] at hcs
    obtain ⟨rfl, rfl, rfl⟩ := hcs
    have e : reachBytes = 140737488351232 := rfl
    exact ⟨l, hrow, by omega⟩
  clear hA0 hval0 hsz0
  refine (codeRow_walk W (.slice a0 len0 cap0) l0 w0 z0).mono fun e W' ⟨he, bel⟩ => ?_
  subst he
  exact ⟨_, rfl, _, _, _, [], _, [], hW', trodAll_mk1 (shut_bool Try.underlying4 _), (trodAll_cons_mk (Below.trod laidOut (by kernel_rfl) (of_decide_eq_true (by kernel_rfl)) k0 bel lt0) trodAll_mk0), rfl, bel.frame _, fun h => by cases h⟩

theorem codeRow_over : Rows.codeRowRow.holds Try.pinned (OpenSpec.ofChange Rows.codeRowSpec) :=
  OpenClaim.holds_of_wide 7 Try.f7 rfl rfl rfl rfl rfl rfl rfl ⟨rfl, rfl, rfl, rfl, rfl⟩ rfl rfl rfl rfl rfl (by kernel_rfl) Try.func7 (by kernel_rfl)
    (of_decide_eq_true (by kernel_rfl)) (by unfold Func.isWrapper; first | (rw [if_pos (by decide +kernel)]; kernel_rfl) | (rw [if_neg (by decide +kernel)]; exact ⟨rfl, rfl⟩))
    (fun os started H enc _ => codeRow_lifted os started H enc)

/-- The statement. -/
theorem codeRow_proved : Rows.CodeRowSaid := codeRow_over
#print axioms codeRow_proved

end Go.Proofs.Ytcgajgileehbbaa
