/- OpsNamed: each instruction is called otherwise; who is called so is it. Of all two numbers. -/
import Derived.Test.YtdjenhgngjmkjaaOOpen
import Derived.Test.YtdjenhgngjmkjaaOpsAw
import Derived.Test.YtdjenhgngjmkjaaOpsH
import Derived.Test.YtdjenhgngjmkjaaBring
namespace Go.Proofs.Ytdjenhgngjmkjaa
open Go.ChangeShapes Go.WideShapes Go.ChangeAt Go.RowKit
open Go.ChangeMaps (open_string shut_string)
set_option linter.unusedVariables false
theorem op_names : ((List.range 90).all fun k => decide (opZ (nm k) = ((k : Int), true)) && !(nm k).toList.isEmpty) = true := by decide +kernel
theorem op_name {k : Nat} (h : k < 90) : opZ (nm k) = ((k : Int), true) ∧ (nm k).toList.isEmpty = false := by
  have := List.all_eq_true.1 op_names k (by simp [h])
  rw [Bool.and_eq_true, decide_eq_true_eq] at this
  exact ⟨this.1, by simpa using this.2⟩
theorem nm_inj {j k : Nat} (hj : j < 90) (hk : k < 90) (h : nm j = nm k) : j = k := by
  have h1 := (op_name hj).1
  rw [h, (op_name hk).1] at h1
  injection h1 with h1
  omega
set_option maxRecDepth 100000 in
set_option maxHeartbeats 4000000 in
theorem opsNamed_walk (w : World) (a : Int) (ha : -9223372036854775808 ≤ a ∧ a ≤ 9223372036854775807) (b : Int) (hb : -9223372036854775808 ≤ b ∧ b ≤ 9223372036854775807) : Calls Try.prog 9 #[.int .i64 a, .int .i64 b] w fun e w' => e = .returned (.bool true) ∧ Ext w w' := by
  obtain ⟨j, hj, hj90⟩ := bring_nat a (n := 90) (by omega)
  obtain ⟨k, hk, hk90⟩ := bring_nat b (n := 90) (by omega)
  have B1 := Lib.hid (fun W => bring_any a 90 W ha.1 ha.2 (by omega) (by omega))
  have B2 := Lib.hid (fun W => bring_any b 90 W hb.1 hb.2 (by omega) (by omega))
  rw [show (((90 : Nat) : Int)) = 90 from rfl] at hj hk
  rw [hj] at B1
  rw [hk] at B2
  have N1 := Lib.hid (fun W => Name_any (j : Int) W)
  have N2 := Lib.hid (fun W => Name_any (k : Int) W)
  rw [nameZ_nm hj90] at N1
  rw [nameZ_nm hk90] at N2
  have O1 := Lib.hid (fun W => Op_any (nm j) W)
  rw [(op_name hj90).1] at O1
  have hne := (op_name hj90).2
  have hne' : ¬ (nm j).toList = [] := by
    intro e
    rw [e] at hne
    cases hne
  have HJ := Lib.hid hj90
  have HK := Lib.hid hk90
  clear hj hk hj90 hk90
  have hcase : ((j : Int) == (k : Int)) = ((nm j).toList == (nm k).toList) := by
    by_cases h : j = k
    · subst h
      rw [(Lib.bytes_beq_iff _ _).2 rfl]
      simp
    · rw [(Lib.bytes_beq_false_iff _ _).2 (fun e => h (nm_inj HJ.out HK.out e))]
      simp
      omega
  obtain ⟨eb, heb⟩ : ∃ c, ((nm j).toList == (nm k).toList) = c := ⟨_, rfl⟩
  rw [heb] at hcase
  have hbb : (eb == eb) = true := by cases eb <;> rfl
  go_enter Try.func9, Try.ntmps9
  go_wp2_with fail
  refine (B1.out _).mono ?_
  rintro e w1 ⟨rfl, rfl⟩
  go_wp2_with fail
  refine (B2.out _).mono ?_
  rintro e w1 ⟨rfl, rfl⟩
  go_wp2_with fail
  refine (N1.out _).mono ?_
  rintro e w3 ⟨rfl, x3⟩
  go_wp2_with fail
  refine (O1.out _).mono ?_
  rintro e w4 ⟨rfl, x4⟩
  go_wp2_with fail
  refine (N1.out _).mono ?_
  rintro e w5 ⟨rfl, x5⟩
  go_wp2_with fail
  refine (N2.out _).mono ?_
  rintro e w6 ⟨rfl, x6⟩
  go_wp2_with fail
  refine (N1.out _).mono ?_
  rintro e w7 ⟨rfl, x7⟩
  go_wp2_with fail
  refine (awake_any _).mono ?_
  rintro e w8 ⟨rfl, x8⟩
  go_wp2
  go_ret
  exact ⟨rfl, x3.trans (x4.trans (x5.trans (x6.trans (x7.trans x8))))⟩

set_option maxRecDepth 100000 in
theorem opsNamed_lifted (os : Os) (started : os.Started) (H : Type) (enc : TypeId × Value → H) :
    ReturnsInHanded {} Try.checked os 9 .any (Rows.opsNamedSpec.pre6 enc Try.prog Try.f9 Rows.opsNamedRow.domain false) (Rows.opsNamedSpec.post enc Try.prog Try.f9 false true false false) := by
  refine returnsInHanded_of_change_sized (C := Try.checked) own started (by kernel_rfl) Try.func9
    (ChangeSpec.witness6 (enc := enc) (C := Try.checked) false ⟨#[], #[.int .i64 0, .int .i64 0], []⟩ 8 (by kernel_rfl) (by kernel_rfl) (by kernel_rfl) (by kernel_rfl)) ?_
  intro W base args ds gs before hval0 hW hcnd hsz0 _
  have hval : ∀ (j : Nat) t v, Try.f9.params[j]? = some t → args[j]? = some v → Value.okWide Try.prog W .any base t v := hval0
  have hsz : (DataW.weightsEach Try.prog (Try.f9.params.toList ++ Rows.opsNamedSpec.plain.varTypes Try.prog) (ds ++ gs)).all (· ≤ reachBytes) = true := hsz0
  have hW' := hW
  obtain ⟨p, q, hA0, hV, rfl, hfz, hnd⟩ := hW
  have hA : DataW.TrodAll enc Try.prog W 0 (fun _ => true) true Try.f9.params.toList args.toList ds p := hA0
  rw [Try.params9] at hA hval hsz
  obtain ⟨v0, vs0, d0, ds0, p0, q0, hargs, rfl, rfl, h0, r0⟩ := trodAll_cons hA
  obtain ⟨v1, vs1, d1, ds1, p1, q1, rfl, rfl, rfl, h1, r1⟩ := trodAll_cons r0
  obtain ⟨rfl, rfl, rfl⟩ := trodAll_nil r1
  obtain rfl : args = #[v0, v1] := by cases args; simp_all
  obtain ⟨rfl, rfl⟩ := trodVars_none hV
  obtain ⟨a0, rfl, rfl, rfl, w0⟩ := open_int Try.underlying3 (hval 0 3 v0 rfl rfl) h0
  have z0 := bounds_i64 w0
  obtain ⟨a1, rfl, rfl, rfl, w1⟩ := open_int Try.underlying3 (hval 1 3 v1 rfl rfl) h1
  have z1 := bounds_i64 w1
  clear hA0 hval0 hsz0
  refine (opsNamed_walk W a0 z0 a1 z1).mono fun e W' ⟨he, bel⟩ => ?_
  subst he
  exact ⟨_, rfl, _, _, _, [], _, [], hW', trodAll_mk1 (shut_bool Try.underlying4 _), (trodAll_cons_mk (shut_int Try.underlying3 w0) (trodAll_cons_mk (shut_int Try.underlying3 w1) trodAll_mk0)), rfl, bel.frame _, fun h => by cases h⟩

theorem opsNamed_over : Rows.opsNamedRow.holds Try.pinned (OpenSpec.ofChange Rows.opsNamedSpec) :=
  OpenClaim.holds_of_wide 9 Try.f9 rfl rfl rfl rfl rfl rfl rfl ⟨rfl, rfl, rfl, rfl, rfl⟩ rfl rfl rfl rfl rfl (by kernel_rfl) Try.func9 (by kernel_rfl)
    (of_decide_eq_true (by kernel_rfl)) (by unfold Func.isWrapper; first | (rw [if_pos (by decide +kernel)]; kernel_rfl) | (rw [if_neg (by decide +kernel)]; exact ⟨rfl, rfl⟩))
    (fun os started H enc _ => opsNamed_lifted os started H enc)

/-- The statement. -/
theorem opsNamed_proved : Rows.OpsNamedSaid := opsNamed_over
#print axioms opsNamed_proved

end Go.Proofs.Ytdjenhgngjmkjaa
