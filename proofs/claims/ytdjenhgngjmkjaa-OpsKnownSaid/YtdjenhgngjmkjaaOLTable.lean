/- OpsTable: how instructions are called, their shapes, and whether they end, is the document's. Of all numbers and texts. -/
import Derived.Test.YtdjenhgngjmkjaaOOpen
import Derived.Test.YtdjenhgngjmkjaaOpsAw
import Derived.Test.YtdjenhgngjmkjaaOpsH
import Derived.Test.YtdjenhgngjmkjaaOpsA
namespace Go.Proofs.Ytdjenhgngjmkjaa
open Go.ChangeShapes Go.WideShapes Go.ChangeAt Go.RowKit
open Go.ChangeMaps (open_string shut_string)
set_option linter.unusedVariables false
theorem eqb (b : Bool) : (b == b) = true := by cases b <;> rfl
set_option maxRecDepth 100000 in
set_option maxHeartbeats 4000000 in
theorem opsTable_walk (w : World) (o : Int) (ho : -9223372036854775808 ≤ o ∧ o ≤ 9223372036854775807) (s : ByteArray) (hs : s.data.toList.length ≤ 140737488351232) : Calls Try.prog 5 #[.int .i64 o, .string s] w fun e w' => e = .returned (.bool true) ∧ Ext w w' := by
  have hnn : ((nameZ o).toList == (nameZ o).toList) = true := (Lib.bytes_beq_iff _ _).2 rfl
  obtain ⟨en, hen⟩ : ∃ b, endsZ o = b := ⟨_, rfl⟩
  obtain ⟨is, his⟩ : ∃ b, (opZ s).2 = b := ⟨_, rfl⟩
  have he1 := eqb en
  have he2 := eqb is
  have HE := Lib.hid hen
  have HI := Lib.hid his
  clear hen his hs
  go_enter Try.func5, Try.ntmps5
  go_wp2_with fail
  refine (Op_any s _).mono ?_
  rintro e w1 ⟨rfl, x1⟩
  rw [HI.out]
  go_wp2_with fail
  refine (refOp_any s _).mono ?_
  rintro e w2 ⟨rfl, x2⟩
  rw [HI.out]
  go_wp2_with fail
  refine (Name_any o _).mono ?_
  rintro e w3 ⟨rfl, x3⟩
  go_wp2_with fail
  refine (refName_any o _).mono ?_
  rintro e w4 ⟨rfl, x4⟩
  go_wp2_with fail
  refine (Shape_any o _).mono ?_
  rintro e w5 ⟨rfl, x5⟩
  go_wp2_with fail
  refine (refShape_any o _).mono ?_
  rintro e w6 ⟨rfl, rfl⟩
  go_wp2_with fail
  refine (Ends_any o _).mono ?_
  rintro e w7 ⟨rfl, x7⟩
  rw [HE.out]
  go_wp2_with fail
  refine (refEnds_any o _).mono ?_
  rintro e w8 ⟨rfl, rfl⟩
  rw [HE.out]
  go_wp2_with fail
  refine (awake_any _).mono ?_
  rintro e w9 ⟨rfl, x9⟩
  go_wp2
  go_ret
  exact ⟨rfl, x1.trans (x2.trans (x3.trans (x4.trans (x5.trans (x7.trans x9)))))⟩

set_option maxRecDepth 100000 in
theorem opsTable_lifted (os : Os) (started : os.Started) (H : Type) (enc : TypeId × Value → H) :
    ReturnsInHanded {} Try.checked os 5 .any (Rows.opsTableSpec.pre6 enc Try.prog Try.f5 Rows.opsTableRow.domain false) (Rows.opsTableSpec.post enc Try.prog Try.f5 false true false false) := by
  refine returnsInHanded_of_change_sized (C := Try.checked) own started (by kernel_rfl) Try.func5
    (ChangeSpec.witness6 (enc := enc) (C := Try.checked) false ⟨#[], #[.int .i64 0, .string ⟨#[]⟩], []⟩ 8 (by kernel_rfl) (by kernel_rfl) (by kernel_rfl) (by kernel_rfl)) ?_
  intro W base args ds gs before hval0 hW hcnd hsz0 _
  have hval : ∀ (j : Nat) t v, Try.f5.params[j]? = some t → args[j]? = some v → Value.okWide Try.prog W .any base t v := hval0
  have hsz : (DataW.weightsEach Try.prog (Try.f5.params.toList ++ Rows.opsTableSpec.plain.varTypes Try.prog) (ds ++ gs)).all (· ≤ reachBytes) = true := hsz0
  have hW' := hW
  obtain ⟨p, q, hA0, hV, rfl, hfz, hnd⟩ := hW
  have hA : DataW.TrodAll enc Try.prog W 0 (fun _ => true) true Try.f5.params.toList args.toList ds p := hA0
  rw [Try.params5] at hA hval hsz
  obtain ⟨v0, vs0, d0, ds0, p0, q0, hargs, rfl, rfl, h0, r0⟩ := trodAll_cons hA
  obtain ⟨v1, vs1, d1, ds1, p1, q1, rfl, rfl, rfl, h1, r1⟩ := trodAll_cons r0
  obtain ⟨rfl, rfl, rfl⟩ := trodAll_nil r1
  obtain rfl : args = #[v0, v1] := by cases args; simp_all
  obtain ⟨rfl, rfl⟩ := trodVars_none hV
  obtain ⟨a0, rfl, rfl, rfl, w0⟩ := open_int Try.underlying3 (hval 0 3 v0 rfl rfl) h0
  have z0 := bounds_i64 w0
  obtain ⟨a1, rfl, rfl, rfl, w1⟩ := open_string Try.underlying9 (hval 1 9 v1 rfl rfl) h1
  have z1 : a1.data.toList.length ≤ 140737488351232 := sized_string hsz (j := 1) rfl rfl
  clear hA0 hval0 hsz0
  refine (opsTable_walk W a0 z0 a1 z1).mono fun e W' ⟨he, bel⟩ => ?_
  subst he
  exact ⟨_, rfl, _, _, _, [], _, [], hW', trodAll_mk1 (shut_bool Try.underlying4 _), (trodAll_cons_mk (shut_int Try.underlying3 w0) (trodAll_cons_mk (shut_string Try.underlying9 w1) trodAll_mk0)), rfl, bel.frame _, fun h => by cases h⟩

theorem opsTable_over : Rows.opsTableRow.holds Try.pinned (OpenSpec.ofChange Rows.opsTableSpec) :=
  OpenClaim.holds_of_wide 5 Try.f5 rfl rfl rfl rfl rfl rfl rfl ⟨rfl, rfl, rfl, rfl, rfl⟩ rfl rfl rfl rfl rfl (by kernel_rfl) Try.func5 (by kernel_rfl)
    (of_decide_eq_true (by kernel_rfl)) (by unfold Func.isWrapper; first | (rw [if_pos (by decide +kernel)]; kernel_rfl) | (rw [if_neg (by decide +kernel)]; exact ⟨rfl, rfl⟩))
    (fun os started H enc _ => opsTable_lifted os started H enc)

/-- The statement. -/
theorem opsTable_proved : Rows.OpsTableSaid := opsTable_over
#print axioms opsTable_proved

end Go.Proofs.Ytdjenhgngjmkjaa
