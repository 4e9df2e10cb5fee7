/- LebApart: no short number's bytes are the beginning of another one's of the same way, of any two numbers; no conditions. -/
import Derived.Test.YtdjfdigaokokbaaRows
import Derived.ProofKit
import Derived.OpenShut
import Derived.ShutString
import Derived.ChangeOld
import Derived.SizedLaws
import Derived.Test.YtdjfdigaokokbaaFrame
import Derived.Test.YtdjfdigaokokbaaLebX
import Derived.Test.YtdjfdigaokokbaaLebMath
namespace Go.Proofs.Ytdjfdigaokokbaa
open Go.ChangeShapes Go.WideShapes Go.ChangeAt Go.RowKit
open Go.ChangeMaps (open_string shut_string)
set_option linter.unusedVariables false

set_option maxHeartbeats 1000000 in
theorem lebApart_walk (W : World) (n : Int) (hn : -9223372036854775808 ≤ n ∧ n ≤ 9223372036854775807) (m : Int) (hm : -9223372036854775808 ≤ m ∧ m ≤ 9223372036854775807) :
    Calls Try.prog 7 #[.int .i64 n, .int .i64 m] W (RetB W true) := by
  obtain ⟨u, hu⟩ : ∃ u, u = bring n 9007199254740992 := ⟨_, rfl⟩
  have hu0 : 0 ≤ u ∧ u ≤ 9007199254740991 := by rw [hu, bring_pos n (by omega)]; omega
  obtain ⟨t, ht⟩ : ∃ t, t = bring m 9007199254740992 := ⟨_, rfl⟩
  have ht0 : 0 ≤ t ∧ t ≤ 9007199254740991 := by rw [ht, bring_pos m (by omega)]; omega
  have HU := Lib.hid hu
  have HT := Lib.hid ht
  have d1 : decide (dg 1 10 t <+: dg 1 10 u) = (u == t) := by
    rw [Bool.eq_iff_iff, decide_eq_true_iff, beq_iff_eq]
    exact ⟨fun h => dg_apart (InB.start (by omega) (by omega) (.inr ⟨rfl, hu0.1⟩)) (InB.start (by omega) (by omega) (.inr ⟨rfl, ht0.1⟩)) h, fun h => by rw [h]; exact List.prefix_refl _⟩
  have d2 : decide (dg 2 10 m <+: dg 2 10 n) = (n == m) := by
    rw [Bool.eq_iff_iff, decide_eq_true_iff, beq_iff_eq]
    exact ⟨fun h => dg_apart (InB.start hn.1 hn.2 (.inl rfl)) (InB.start hm.1 hm.2 (.inl rfl)) h, fun h => by rw [h]; exact List.prefix_refl _⟩
  clear hu ht
  by_cases hnm : n = m
  · have hut : u = t := by rw [HU.out, HT.out, hnm]
    subst hnm
    subst hut
    have hb2 : (n == n) = true := by simp
    have hb1 : (u == u) = true := by simp
    rw [hb1] at d1
    rw [hb2] at d2
    have HP1 := Lib.hid d1
    have HP2 := Lib.hid d2
    clear d1 d2
    go_enter Try.func7, Try.ntmps7
    go_wp2_with fail
    refine (works_any _).mono ?_
    rintro e w0 ⟨rfl, x0⟩
    go_wp2_with fail
    refine (bring_any _ _ _ hn.1 hn.2 (by omega) (by omega)).mono ?_
    rw [← HU.out]
    rintro e w1 ⟨rfl, rfl⟩
    go_wp2_with fail
    refine (U_any _ _ (by omega) (by omega)).mono ?_
    rw [uS_ok hu0.1 hu0.2]
    rintro e w2 ⟨v2, rfl, ⟨b2, rfl, ho2⟩, he2⟩
    go_wp2_with fail
    refine (bring_any _ _ _ hn.1 hn.2 (by omega) (by omega)).mono ?_
    rw [← HU.out]
    rintro e w1 ⟨rfl, rfl⟩
    go_wp2_with fail
    refine (U_any _ _ (by omega) (by omega)).mono ?_
    rw [uS_ok hu0.1 hu0.2]
    rintro e w3 ⟨v3, rfl, ⟨b3, rfl, ho3⟩, he3⟩
    go_wp2_with fail
    refine (hasPrefix_any _ _ (dg 1 10 u) (dg 1 10 u) _ (by exact ho2.row.ext he3) (by exact ho3.row)).mono ?_
    rw [HP1.out]
    rintro e w6 ⟨rfl, rfl⟩
    go_wp2_with fail
    refine (bring_any _ _ _ hn.1 hn.2 (by omega) (by omega)).mono ?_
    rw [← HU.out]
    rintro e w1 ⟨rfl, rfl⟩
    go_wp2_with fail
    refine (bring_any _ _ _ hn.1 hn.2 (by omega) (by omega)).mono ?_
    rw [← HU.out]
    rintro e w1 ⟨rfl, rfl⟩
    go_wp2_with fail
    refine (S_any _ _ hn.1 hn.2).mono ?_
    rintro e w4 ⟨v4, rfl, ho4, he4⟩
    go_wp2_with fail
    refine (S_any _ _ hn.1 hn.2).mono ?_
    rintro e w5 ⟨v5, rfl, ho5, he5⟩
    go_wp2_with fail
    refine (hasPrefix_any _ _ (dg 2 10 n) (dg 2 10 n) _ (by exact ho4.row.ext he5) (by exact ho5.row)).mono ?_
    rw [HP2.out]
    rintro e w7 ⟨rfl, rfl⟩
    go_wp2_with fail
    go_ret
    exact ⟨rfl, (((x0.trans he2).trans he3).trans he4).trans he5⟩
  · have hb2 : (n == m) = false := by simp [hnm]
    rw [hb2] at d2
    have HP2 := Lib.hid d2
    clear d2 hnm
    by_cases hut : u = t
    · subst hut
      have hb1 : (u == u) = true := by simp
      rw [hb1] at d1
      have HP1 := Lib.hid d1
      clear d1
      go_enter Try.func7, Try.ntmps7
      go_wp2_with fail
      refine (works_any _).mono ?_
      rintro e w0 ⟨rfl, x0⟩
      go_wp2_with fail
      refine (bring_any _ _ _ hn.1 hn.2 (by omega) (by omega)).mono ?_
      rw [← HU.out]
      rintro e w1 ⟨rfl, rfl⟩
      go_wp2_with fail
      refine (U_any _ _ (by omega) (by omega)).mono ?_
      rw [uS_ok hu0.1 hu0.2]
      rintro e w2 ⟨v2, rfl, ⟨b2, rfl, ho2⟩, he2⟩
      go_wp2_with fail
      refine (bring_any _ _ _ hm.1 hm.2 (by omega) (by omega)).mono ?_
      rw [← HT.out]
      rintro e w1 ⟨rfl, rfl⟩
      go_wp2_with fail
      refine (U_any _ _ (by omega) (by omega)).mono ?_
      rw [uS_ok hu0.1 hu0.2]
      rintro e w3 ⟨v3, rfl, ⟨b3, rfl, ho3⟩, he3⟩
      go_wp2_with fail
      refine (hasPrefix_any _ _ (dg 1 10 u) (dg 1 10 u) _ (by exact ho2.row.ext he3) (by exact ho3.row)).mono ?_
      rw [HP1.out]
      rintro e w6 ⟨rfl, rfl⟩
      go_wp2_with fail
      refine (bring_any _ _ _ hn.1 hn.2 (by omega) (by omega)).mono ?_
      rw [← HU.out]
      rintro e w1 ⟨rfl, rfl⟩
      go_wp2_with fail
      refine (bring_any _ _ _ hm.1 hm.2 (by omega) (by omega)).mono ?_
      rw [← HT.out]
      rintro e w1 ⟨rfl, rfl⟩
      go_wp2_with fail
      refine (S_any _ _ hn.1 hn.2).mono ?_
      rintro e w4 ⟨v4, rfl, ho4, he4⟩
      go_wp2_with fail
      refine (S_any _ _ hm.1 hm.2).mono ?_
      rintro e w5 ⟨v5, rfl, ho5, he5⟩
      go_wp2_with fail
      refine (hasPrefix_any _ _ (dg 2 10 n) (dg 2 10 m) _ (by exact ho4.row.ext he5) (by exact ho5.row)).mono ?_
      rw [HP2.out]
      rintro e w7 ⟨rfl, rfl⟩
      go_wp2_with fail
      go_ret
      exact ⟨rfl, (((x0.trans he2).trans he3).trans he4).trans he5⟩
    · have hb1 : (u == t) = false := by simp [hut]
      rw [hb1] at d1
      have HP1 := Lib.hid d1
      clear d1 hut
      go_enter Try.func7, Try.ntmps7
      go_wp2_with fail
      refine (works_any _).mono ?_
      rintro e w0 ⟨rfl, x0⟩
      go_wp2_with fail
      refine (bring_any _ _ _ hn.1 hn.2 (by omega) (by omega)).mono ?_
      rw [← HU.out]
      rintro e w1 ⟨rfl, rfl⟩
      go_wp2_with fail
      refine (U_any _ _ (by omega) (by omega)).mono ?_
      rw [uS_ok hu0.1 hu0.2]
      rintro e w2 ⟨v2, rfl, ⟨b2, rfl, ho2⟩, he2⟩
      go_wp2_with fail
      refine (bring_any _ _ _ hm.1 hm.2 (by omega) (by omega)).mono ?_
      rw [← HT.out]
      rintro e w1 ⟨rfl, rfl⟩
      go_wp2_with fail
      refine (U_any _ _ (by omega) (by omega)).mono ?_
      rw [uS_ok ht0.1 ht0.2]
      rintro e w3 ⟨v3, rfl, ⟨b3, rfl, ho3⟩, he3⟩
      go_wp2_with fail
      refine (hasPrefix_any _ _ (dg 1 10 u) (dg 1 10 t) _ (by exact ho2.row.ext he3) (by exact ho3.row)).mono ?_
      rw [HP1.out]
      rintro e w6 ⟨rfl, rfl⟩
      go_wp2_with fail
      refine (bring_any _ _ _ hn.1 hn.2 (by omega) (by omega)).mono ?_
      rw [← HU.out]
      rintro e w1 ⟨rfl, rfl⟩
      go_wp2_with fail
      refine (bring_any _ _ _ hm.1 hm.2 (by omega) (by omega)).mono ?_
      rw [← HT.out]
      rintro e w1 ⟨rfl, rfl⟩
      go_wp2_with fail
      refine (S_any _ _ hn.1 hn.2).mono ?_
      rintro e w4 ⟨v4, rfl, ho4, he4⟩
      go_wp2_with fail
      refine (S_any _ _ hm.1 hm.2).mono ?_
      rintro e w5 ⟨v5, rfl, ho5, he5⟩
      go_wp2_with fail
      refine (hasPrefix_any _ _ (dg 2 10 n) (dg 2 10 m) _ (by exact ho4.row.ext he5) (by exact ho5.row)).mono ?_
      rw [HP2.out]
      rintro e w7 ⟨rfl, rfl⟩
      go_wp2_with fail
      go_ret
      exact ⟨rfl, (((x0.trans he2).trans he3).trans he4).trans he5⟩

set_option maxRecDepth 100000 in
theorem lebApart_lifted (os : Os) (started : os.Started) (H : Type) (enc : TypeId × Value → H) :
    ReturnsInHanded {} Try.checked os 7 .any (Rows.lebApartSpec.pre6 enc Try.prog Try.f7 Rows.lebApartRow.domain false) (Rows.lebApartSpec.post enc Try.prog Try.f7 false true false false) := by
  refine returnsInHanded_of_change_sized (C := Try.checked) own started (by kernel_rfl) Try.func7
    (ChangeSpec.witness6 (enc := enc) (C := Try.checked) false ⟨#[], #[.int .i64 0, .int .i64 0], []⟩ 8 (by kernel_rfl) (by kernel_rfl) (by kernel_rfl) (by kernel_rfl)) ?_
  intro W base args ds gs before hval0 hW hcnd hsz0 _
  have hval : ∀ (j : Nat) t v, Try.f7.params[j]? = some t → args[j]? = some v → Value.okWide Try.prog W .any base t v := hval0
  have hsz : (DataW.weightsEach Try.prog (Try.f7.params.toList ++ Rows.lebApartSpec.plain.varTypes Try.prog) (ds ++ gs)).all (· ≤ reachBytes) = true := hsz0
  have hW' := hW
  obtain ⟨p, q, hA0, hV, rfl, hfz, hnd⟩ := hW
  have hA : DataW.TrodAll enc Try.prog W 0 (fun _ => true) true Try.f7.params.toList args.toList ds p := hA0
  rw [Try.params7] at hA hval hsz
  obtain ⟨v0, vs0, d0, ds0, p0, q0, hargs, rfl, rfl, h0, r0⟩ := trodAll_cons hA
  obtain ⟨v1, vs1, d1, ds1, p1, q1, rfl, rfl, rfl, h1, r1⟩ := trodAll_cons r0
  obtain ⟨rfl, rfl, rfl⟩ := trodAll_nil r1
  obtain rfl : args = #[v0, v1] := by cases args; simp_all
  obtain ⟨rfl, rfl⟩ := trodVars_none hV
  obtain ⟨a0, rfl, rfl, rfl, w0⟩ := open_int Try.underlying3 (hval 0 3 v0 rfl rfl) h0
  have z0 := bounds_i64 w0
  obtain ⟨a1, rfl, rfl, rfl, w1⟩ := open_int Try.underlying3 (hval 1 3 v1 rfl rfl) h1
  have z1 := bounds_i64 w1
  clear hA0 hval0 hsz0
  refine (lebApart_walk W a0 z0 a1 z1).mono fun e W' ⟨he, bel⟩ => ?_
  subst he
  exact ⟨_, rfl, _, _, _, [], _, [], hW', trodAll_mk1 (shut_bool Try.underlying4 _), (trodAll_cons_mk (shut_int Try.underlying3 w0) (trodAll_cons_mk (shut_int Try.underlying3 w1) trodAll_mk0)), rfl, bel.frame _, fun h => by cases h⟩

theorem lebApart_over : Rows.lebApartRow.holds Try.pinned (OpenSpec.ofChange Rows.lebApartSpec) :=
  OpenClaim.holds_of_wide 7 Try.f7 rfl rfl rfl rfl rfl rfl rfl ⟨rfl, rfl, rfl, rfl, rfl⟩ rfl rfl rfl rfl rfl (by kernel_rfl) Try.func7 (by kernel_rfl)
    (of_decide_eq_true (by kernel_rfl)) (by unfold Func.isWrapper; first | (rw [if_pos (by decide +kernel)]; kernel_rfl) | (rw [if_neg (by decide +kernel)]; exact ⟨rfl, rfl⟩))
    (fun os started H enc _ => lebApart_lifted os started H enc)

/-- The statement. -/
theorem lebApart_proved : Rows.LebApartSaid := lebApart_over
#print axioms lebApart_proved
end Go.Proofs.Ytdjfdigaokokbaa
