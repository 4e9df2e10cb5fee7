/- AdlerHalves: the lower half is 1 and all bytes, the upper half their number and each byte as often as there are bytes from it on, of any bytes (the statement looks at the first 50000); no conditions. -/
import Derived.Test.YtokegociipcccaaRows
import Derived.ProofKit
import Derived.OpenShut
import Derived.ShutString
import Derived.ChangeOld
import Derived.SizedLaws
import Derived.Test.YtokegociipcccaaFrame
import Derived.Test.YtokegociipcccaaAdX
import Derived.Test.YtokegociipcccaaAdMath
namespace Go.Proofs.Ytokegociipcccaa
open Go.ChangeShapes Go.WideShapes Go.ChangeAt Go.RowKit
open Go.ChangeMaps (open_string shut_string)
set_option linter.unusedVariables false

theorem ret_b {b : Bool} (h : b = true) : Ending.returned (.bool b) = .returned (.bool true) := by rw [h]

set_option maxHeartbeats 2000000 in
theorem adlerHalves_walk (W : World) (v : Value) (l : List Int) (h : Row W .u8 v l) (hl : l.length ≤ 140737488351232) :
    Calls Try.prog 7 #[v] W (RetB W true) := by
  have h' := h
  obtain ⟨A, c, rfl, hlc, hcm, _, hf, _⟩ := h'
  unfold maxLen at hcm
  obtain ⟨n, hn⟩ : ∃ n, n = l.length := ⟨_, rfl⟩
  rw [← hn] at h hlc hl ⊢
  have HN := Lib.hid hn
  clear hn
  by_cases hmn : n ≤ 50000
  · obtain ⟨v3, r3, r3', hh⟩ := head_slice h n (by rw [← HN.out]; exact Nat.le_refl n)
    obtain ⟨m, hm0⟩ : ∃ m, m = l.take n := ⟨_, rfl⟩
    obtain ⟨q, hq0⟩ : ∃ q, q = n := ⟨_, rfl⟩
    have HQ : Hid (m.length = q) := by rw [hm0, Hid, List.length_take, ← HN.out, hq0]; omega
    rw [← hm0] at hh
    have hq5 : q ≤ 50000 := by omega
    have hh' := hh
    obtain ⟨B, d, rfl, hqd, hdm, _, _, _⟩ := hh'
    unfold maxLen at hdm
    rw [HQ.out] at r3 r3' hh hqd
    have hrow := hh
    clear hm0 hq0 hh h
    go_enter Try.func7, Try.ntmps7
    go_wp2_with fail
    refine (works_any _).mono ?_
    rintro e w0 ⟨rfl, x0⟩
    go_wp2_with fail
    have hm := (hrow.ext x0).fit
    go_loop [3, 4, 5] (fun x y i => ∃ k : Nat, k ≤ q ∧ i = .int .i64 k ∧ x = .int .i64 (1 + sm (m.take k)) ∧ y = .int .i64 ((q : Int) + wt q (m.take k))) (fun _ _ i => q - (intOf i).toNat)
    case atStart => exact ⟨0, by omega, rfl, by simp [sm], by simp [wt]⟩
    case round =>
      obtain ⟨k, hk, rfl, rfl, rfl⟩ := hrel
      have d3 : (m.take k).length = k := by rw [List.length_take, HQ.out]; omega
      have d1 := sm_bd (hm.take k)
      have d2 := wt_bd (hm.take k) (n := q) (by rw [d3]; omega) (by omega)
      rw [d3] at d1 d2
      clear d3
      by_cases hlt : k < q
      · have hlm : k < m.length := by rw [HQ.out]; exact hlt
        obtain ⟨A', c', hv, _, _, _, _, h6⟩ := hrow.ext x0
        obtain ⟨bl, o, rfl, _, hc⟩ := h6 (by omega)
        injection hv with hv1 hv2 hv3
        subst hv1
        clear hv2 hv3
        have hy := hc k hlm
        have hx := hm.u8 (gi_mem hlm)
        have hp := prod_u8 (x := gi m k) (n := (q : Int) - k) (by omega) (by omega) (by omega)
        have E1 := Lib.hid (sm_take hlm)
        have E2 := Lib.hid (wt_take q hlm)
        have X0 := Lib.hid x0
        clear hc h6 hrow x0
        go_wp2
        go_round
        case rel => exact ⟨k + 1, by omega, by go_num, by rw [E1.out]; go_num, by rw [E2.out]; go_num⟩
        case measure => simp [intOf]; omega
      · have hkq : k = q := by omega
        subst hkq
        rw [show m.take k = m from List.take_of_length_le (Nat.le_of_eq HQ.out)] at d1 d2 ⊢
        have e1 := adL_bd 1 m
        have e2 := adH_bd 1 m
        have e3 := adl_bd 1 m
        have HB : Hid (((adl 1 m / 65536) == (((k : Int) + wt k m) % 65521)) = true) := by rw [Hid, adl_hi, adH_one, HQ.out]; simp
        have hb : ((adl 1 m % 65536) == ((1 + sm m) % 65521)) = true := by rw [adl_lo, adL_one]; simp
        go_wp2_with (go_at_call 10; refine (Of_any _ m _ (by exact hrow.ext x0) (by rw [HQ.out]; omega)).mono ?_; rintro e w3 ⟨rfl, rfl⟩)
        go_ret
        exact ⟨ret_b HB.out, x0⟩
  · have hmn' : (50000 : Int) < n := by omega
    obtain ⟨v3, r3, r3', hh⟩ := head_slice h 50000 (by rw [← HN.out]; omega)
    simp only [show ((50000 : Nat) : Int) = 50000 from rfl] at r3 r3'
    obtain ⟨m, hm0⟩ : ∃ m, m = l.take 50000 := ⟨_, rfl⟩
    obtain ⟨q, hq0⟩ : ∃ q : Nat, q = 50000 := ⟨_, rfl⟩
    have HQ : Hid (m.length = q) := by rw [hm0, Hid, List.length_take, ← HN.out, hq0]; omega
    rw [← hm0] at hh
    have hq5 : q ≤ 50000 := by omega
    have hh' := hh
    obtain ⟨B, d, rfl, hqd, hdm, _, _, _⟩ := hh'
    unfold maxLen at hdm
    rw [HQ.out] at r3 r3' hh hqd
    have hrow := hh
    clear hm0 hq0 hh h
    go_enter Try.func7, Try.ntmps7
    go_wp2_with fail
    refine (works_any _).mono ?_
    rintro e w0 ⟨rfl, x0⟩
    go_wp2_with fail
    have hm := (hrow.ext x0).fit
    go_loop [3, 4, 5] (fun x y i => ∃ k : Nat, k ≤ q ∧ i = .int .i64 k ∧ x = .int .i64 (1 + sm (m.take k)) ∧ y = .int .i64 ((q : Int) + wt q (m.take k))) (fun _ _ i => q - (intOf i).toNat)
    case atStart => exact ⟨0, by omega, rfl, by simp [sm], by simp [wt]⟩
    case round =>
      obtain ⟨k, hk, rfl, rfl, rfl⟩ := hrel
      have d3 : (m.take k).length = k := by rw [List.length_take, HQ.out]; omega
      have d1 := sm_bd (hm.take k)
      have d2 := wt_bd (hm.take k) (n := q) (by rw [d3]; omega) (by omega)
      rw [d3] at d1 d2
      clear d3
      by_cases hlt : k < q
      · have hlm : k < m.length := by rw [HQ.out]; exact hlt
        obtain ⟨A', c', hv, _, _, _, _, h6⟩ := hrow.ext x0
        obtain ⟨bl, o, rfl, _, hc⟩ := h6 (by omega)
        injection hv with hv1 hv2 hv3
        subst hv1
        clear hv2 hv3
        have hy := hc k hlm
        have hx := hm.u8 (gi_mem hlm)
        have hp := prod_u8 (x := gi m k) (n := (q : Int) - k) (by omega) (by omega) (by omega)
        have E1 := Lib.hid (sm_take hlm)
        have E2 := Lib.hid (wt_take q hlm)
        have X0 := Lib.hid x0
        clear hc h6 hrow x0
        go_wp2
        go_round
        case rel => exact ⟨k + 1, by omega, by go_num, by rw [E1.out]; go_num, by rw [E2.out]; go_num⟩
        case measure => simp [intOf]; omega
      · have hkq : k = q := by omega
        subst hkq
        rw [show m.take k = m from List.take_of_length_le (Nat.le_of_eq HQ.out)] at d1 d2 ⊢
        have e1 := adL_bd 1 m
        have e2 := adH_bd 1 m
        have e3 := adl_bd 1 m
        have HB : Hid (((adl 1 m / 65536) == (((k : Int) + wt k m) % 65521)) = true) := by rw [Hid, adl_hi, adH_one, HQ.out]; simp
        have hb : ((adl 1 m % 65536) == ((1 + sm m) % 65521)) = true := by rw [adl_lo, adL_one]; simp
        go_wp2_with (go_at_call 10; refine (Of_any _ m _ (by exact hrow.ext x0) (by rw [HQ.out]; omega)).mono ?_; rintro e w3 ⟨rfl, rfl⟩)
        go_ret
        exact ⟨ret_b HB.out, x0⟩

set_option maxRecDepth 100000 in
theorem adlerHalves_lifted (os : Os) (started : os.Started) (H : Type) (enc : TypeId × Value → H) :
    ReturnsInHanded {} Try.checked os 7 .any (Rows.adlerHalvesSpec.pre6 enc Try.prog Try.f7 Rows.adlerHalvesRow.domain false) (Rows.adlerHalvesSpec.post enc Try.prog Try.f7 false true false false) := by
  refine returnsInHanded_of_change_sized (C := Try.checked) own started (by kernel_rfl) Try.func7
    (ChangeSpec.witness6 (enc := enc) (C := Try.checked) false ⟨#[], #[.slice none 0 0], []⟩ 8 (by kernel_rfl) (by kernel_rfl) (by kernel_rfl) (by kernel_rfl)) ?_
  intro W base args ds gs before hval0 hW hcnd hsz0 _
  have hval : ∀ (j : Nat) t v, Try.f7.params[j]? = some t → args[j]? = some v → Value.okWide Try.prog W .any base t v := hval0
  have hsz : (DataW.weightsEach Try.prog (Try.f7.params.toList ++ Rows.adlerHalvesSpec.plain.varTypes Try.prog) (ds ++ gs)).all (· ≤ reachBytes) = true := hsz0
  have hW' := hW
  obtain ⟨p, q, hA0, hV, rfl, hfz, hnd⟩ := hW
  have hA : DataW.TrodAll enc Try.prog W 0 (fun _ => true) true Try.f7.params.toList args.toList ds p := hA0
  rw [Try.params7] at hA hval hsz
  obtain ⟨v0, vs0, d0, ds0, p0, q0, hargs, rfl, rfl, h0, r0⟩ := trodAll_cons hA
  obtain ⟨rfl, rfl, rfl⟩ := trodAll_nil r0
  obtain rfl : args = #[v0] := by cases args; simp_all
  obtain ⟨rfl, rfl⟩ := trodVars_none hV
  obtain ⟨a0, len0, cap0, rfl⟩ := okWide_slice Try.underlying23 (hval 0 23 v0 rfl rfl)
  have k0 := h0
  have lt0 : ∀ x ∈ p0, x.block < W.heap.size := by obtain ⟨m, hm⟩ := k0; exact DataW.trod_lt m _ _ _ hm
  obtain ⟨l0, w0, z0⟩ : ∃ l, Row W .u8 (.slice a0 len0 cap0) l ∧ l.length ≤ 140737488351232 := by
    obtain ⟨fuel, hf⟩ := h0
    rcases open_ints Try.underlying23 Try.underlying5 (by kernel_rfl) hf with ⟨hcs, _⟩ | ⟨x, l, c, zs, hcs, _, hl, hm, hz, hx, hcell, hwz⟩
    · simp [Value.cells] at hcs
      obtain ⟨rfl, rfl, rfl⟩ := hcs
      exact ⟨[], (Own.nil 0 _ 0 _).row, by simp⟩
    · simp [Value.cells] at hcs
      obtain ⟨rfl, rfl, rfl⟩ := hcs
      simp only [if_true] at hz
      refine ⟨_, row_of_open hl hm hz hcell hwz, ?_⟩
      have hd : d0 = _ := congrArg Prod.fst hx
      have hs := sized_slice hsz (j := 0) rfl (by rw [hd]; rfl) Try.underlying23
      rw [bytes8] at hs
      simp only [lits, List.length_map, List.length_take, List.length_drop, reachBytes] at hs
      simp only [List.length_take]
      omega
  clear hA0 hval0 hsz0
  refine (adlerHalves_walk W (.slice a0 len0 cap0) l0 w0 z0).mono fun e W' ⟨he, bel⟩ => ?_
  subst he
  exact ⟨_, rfl, _, _, _, [], _, [], hW', trodAll_mk1 (shut_bool Try.underlying4 _), (trodAll_cons_mk (Below.trod laidOut (by kernel_rfl) (of_decide_eq_true (by kernel_rfl)) k0 bel lt0) trodAll_mk0), rfl, bel.frame _, fun h => by cases h⟩

theorem adlerHalves_over : Rows.adlerHalvesRow.holds Try.pinned (OpenSpec.ofChange Rows.adlerHalvesSpec) :=
  OpenClaim.holds_of_wide 7 Try.f7 rfl rfl rfl rfl rfl rfl rfl ⟨rfl, rfl, rfl, rfl, rfl⟩ rfl rfl rfl rfl rfl (by kernel_rfl) Try.func7 (by kernel_rfl)
    (of_decide_eq_true (by kernel_rfl)) (by unfold Func.isWrapper; first | (rw [if_pos (by decide +kernel)]; kernel_rfl) | (rw [if_neg (by decide +kernel)]; exact ⟨rfl, rfl⟩))
    (fun os started H enc _ => adlerHalves_lifted os started H enc)

/-- The statement. -/
theorem adlerHalves_proved : Rows.AdlerHalvesSaid := adlerHalves_over
#print axioms adlerHalves_proved
end Go.Proofs.Ytokegociipcccaa
