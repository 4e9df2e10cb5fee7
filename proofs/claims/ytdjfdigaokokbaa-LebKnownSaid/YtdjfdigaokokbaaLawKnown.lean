/- LebKnown: both ends of each way come out as the chapter says; closed, no conditions. -/
import Derived.Test.YtdjfdigaokokbaaRows
import Derived.ProofKit
import Derived.OpenShut
import Derived.ShutString
import Derived.ChangeOld
import Derived.SizedLaws
import Derived.Test.YtdjfdigaokokbaaFrame
import Derived.Test.YtdjfdigaokokbaaLebX
import Derived.Test.YtdjfdigaokokbaaLebMath
namespace Go.Proofs.Ytdjfdigaokokbaa
open Go.ChangeShapes Go.WideShapes Go.ChangeAt Go.RowKit
open Go.ChangeMaps (open_string shut_string)
set_option linter.unusedVariables false

set_option maxRecDepth 1000000 in
set_option maxHeartbeats 8000000 in
theorem lebKnown_walk (W : World) : Calls Try.prog 11 #[] W (RetB W true) := by
  go_enter Try.func11, Try.ntmps11
  have x0 := Ext.refl W
  go_wp2_with fail
  refine (short_true (9223372036854775807) _ [255, 255, 255, 255, 255, 255, 255, 255, 255, 0] _ (by exact Row.lit _ _ [255, 255, 255, 255, 255, 255, 255, 255, 255, 0] (by decide) (by decide) (by simp)) (by decide) (by omega) (by decide +kernel) (by decide +kernel)).mono ?_
  rintro e w1 ⟨rfl, he1⟩
  have t0 := (Ext.alloc x0 (.cells ([255, 255, 255, 255, 255, 255, 255, 255, 255, 0].map (Value.int .u8)).toArray 5)).trans he1
  go_wp2_with fail
  refine (short_true (-9223372036854775808) _ [128, 128, 128, 128, 128, 128, 128, 128, 128, 127] _ (by exact Row.lit _ _ [128, 128, 128, 128, 128, 128, 128, 128, 128, 127] (by decide) (by decide) (by simp)) (by decide) (by omega) (by decide +kernel) (by decide +kernel)).mono ?_
  rintro e w2 ⟨rfl, he2⟩
  have t1 := (Ext.alloc t0 (.cells ([128, 128, 128, 128, 128, 128, 128, 128, 128, 127].map (Value.int .u8)).toArray 5)).trans he2
  go_wp2_with fail
  refine (plain_true (9007199254740991) _ [255, 255, 255, 255, 255, 255, 255, 15] _ (by exact Row.lit _ _ [255, 255, 255, 255, 255, 255, 255, 15] (by decide) (by decide) (by simp)) (by decide) (by omega) (by decide +kernel) (by decide +kernel)).mono ?_
  rintro e w3 ⟨rfl, he3⟩
  have t2 := (Ext.alloc t1 (.cells ([255, 255, 255, 255, 255, 255, 255, 15].map (Value.int .u8)).toArray 5)).trans he3
  go_wp2_with fail
  refine (plain_true (16384) _ [128, 128, 1] _ (by exact Row.lit _ _ [128, 128, 1] (by decide) (by decide) (by simp)) (by decide) (by omega) (by decide +kernel) (by decide +kernel)).mono ?_
  rintro e w4 ⟨rfl, he4⟩
  have t3 := (Ext.alloc t2 (.cells ([128, 128, 1].map (Value.int .u8)).toArray 5)).trans he4
  go_wp2_with fail
  refine (short_true (8191) _ [255, 63] _ (by exact Row.lit _ _ [255, 63] (by decide) (by decide) (by simp)) (by decide) (by omega) (by decide +kernel) (by decide +kernel)).mono ?_
  rintro e w5 ⟨rfl, he5⟩
  have t4 := (Ext.alloc t3 (.cells ([255, 63].map (Value.int .u8)).toArray 5)).trans he5
  go_wp2_with fail
  refine (short_true (8192) _ [128, 192, 0] _ (by exact Row.lit _ _ [128, 192, 0] (by decide) (by decide) (by simp)) (by decide) (by omega) (by decide +kernel) (by decide +kernel)).mono ?_
  rintro e w6 ⟨rfl, he6⟩
  have t5 := (Ext.alloc t4 (.cells ([128, 192, 0].map (Value.int .u8)).toArray 5)).trans he6
  go_wp2_with fail
  refine (short_true (-8192) _ [128, 64] _ (by exact Row.lit _ _ [128, 64] (by decide) (by decide) (by simp)) (by decide) (by omega) (by decide +kernel) (by decide +kernel)).mono ?_
  rintro e w7 ⟨rfl, he7⟩
  have t6 := (Ext.alloc t5 (.cells ([128, 64].map (Value.int .u8)).toArray 5)).trans he7
  go_wp2_with fail
  refine (fails_true 3 3 _ [] _ (Own.nil 0 _ 0 _).row (by decide) (by decide +kernel) (by decide +kernel)).mono ?_
  rintro e w8 ⟨rfl, he8⟩
  have t7 := t6.trans he8
  go_wp2_with fail
  refine (fails_true 4 3 _ [255, 255, 255, 255, 255, 255, 255, 255] _ (by exact Row.lit _ _ [255, 255, 255, 255, 255, 255, 255, 255] (by decide) (by decide) (by simp)) (by decide) (by decide +kernel) (by decide +kernel)).mono ?_
  rintro e w9 ⟨rfl, he9⟩
  have t8 := (Ext.alloc t7 (.cells ([255, 255, 255, 255, 255, 255, 255, 255].map (Value.int .u8)).toArray 5)).trans he9
  go_wp2_with fail
  refine (fails_true 4 4 _ [255, 255, 255, 255, 255, 255, 255, 255, 255, 1] _ (by exact Row.lit _ _ [255, 255, 255, 255, 255, 255, 255, 255, 255, 1] (by decide) (by decide) (by simp)) (by decide) (by decide +kernel) (by decide +kernel)).mono ?_
  rintro e w10 ⟨rfl, he10⟩
  have t9 := (Ext.alloc t8 (.cells ([255, 255, 255, 255, 255, 255, 255, 255, 255, 1].map (Value.int .u8)).toArray 5)).trans he10
  go_wp2_with fail
  refine (fails_true 4 4 _ [255, 255, 255, 255, 255, 255, 255, 255, 255, 255] _ (by exact Row.lit _ _ [255, 255, 255, 255, 255, 255, 255, 255, 255, 255] (by decide) (by decide) (by simp)) (by decide) (by decide +kernel) (by decide +kernel)).mono ?_
  rintro e w11 ⟨rfl, he11⟩
  have t10 := (Ext.alloc t9 (.cells ([255, 255, 255, 255, 255, 255, 255, 255, 255, 255].map (Value.int .u8)).toArray 5)).trans he11
  go_wp2_with fail
  refine (fails_true 4 4 _ [255, 255, 255, 255, 255, 255, 255, 255, 255, 127] _ (by exact Row.lit _ _ [255, 255, 255, 255, 255, 255, 255, 255, 255, 127] (by decide) (by decide) (by simp)) (by decide) (by decide +kernel) (by decide +kernel)).mono ?_
  rintro e w12 ⟨rfl, he12⟩
  have t11 := (Ext.alloc t10 (.cells ([255, 255, 255, 255, 255, 255, 255, 255, 255, 127].map (Value.int .u8)).toArray 5)).trans he12
  go_wp2_with fail
  refine (fails_true 0 4 _ [255, 127] _ (by exact Row.lit _ _ [255, 127] (by decide) (by decide) (by simp)) (by decide) (by decide +kernel) (by decide +kernel)).mono ?_
  rintro e w13 ⟨rfl, he13⟩
  have t12 := (Ext.alloc t11 (.cells ([255, 127].map (Value.int .u8)).toArray 5)).trans he13
  go_wp2_with fail
  refine (fails_true 4 4 _ [129, 0] _ (by exact Row.lit _ _ [129, 0] (by decide) (by decide) (by simp)) (by decide) (by decide +kernel) (by decide +kernel)).mono ?_
  rintro e w14 ⟨rfl, he14⟩
  have t13 := (Ext.alloc t12 (.cells ([129, 0].map (Value.int .u8)).toArray 5)).trans he14
  go_wp2_with fail
  refine (U_any (-1) _ (by omega) (by omega)).mono ?_
  rw [show uS (-1) = ([], 9) from by decide +kernel]
  rintro e w15 ⟨v15, rfl, ⟨b15, rfl, ho15⟩, he15⟩
  have t14 := t13.trans he15
  go_wp2_with fail
  refine (U_any (9007199254740992) _ (by omega) (by omega)).mono ?_
  rw [show uS (9007199254740992) = ([], 9) from by decide +kernel]
  rintro e w16 ⟨v16, rfl, ⟨b16, rfl, ho16⟩, he16⟩
  have t15 := t14.trans he16
  go_wp2_with fail
  refine (Big_any (-1) 8 _ (by omega) (by omega) (by omega) (by omega)).mono ?_
  rw [show bS (-1) 8 = ([255, 255, 255, 255, 255, 255, 255, 255], 0) from by decide +kernel]
  rintro e w17 ⟨v17, rfl, ⟨b17, rfl, ho17⟩, he17⟩
  have t16 := t15.trans he17
  have y17 := Ext.refl w17
  obtain ⟨A17, c17, hb17, _⟩ := ho17.row
  change b17 = Value.slice A17 8 c17 at hb17
  subst hb17
  go_wp2_with fail
  refine (Big_any (9223372036854775807) 8 _ (by omega) (by omega) (by omega) (by omega)).mono ?_
  rw [show bS (9223372036854775807) 8 = ([127, 255, 255, 255, 255, 255, 255, 255], 0) from by decide +kernel]
  rintro e w18 ⟨v18, rfl, ⟨b18, rfl, ho18⟩, he18⟩
  have t17 := t16.trans he18
  have t18 := y17.trans he18
  have y18 := Ext.refl w18
  obtain ⟨A18, c18, hb18, _⟩ := ho18.row
  change b18 = Value.slice A18 8 c18 at hb18
  subst hb18
  go_wp2_with fail
  refine (Big_any (-129) 1 _ (by omega) (by omega) (by omega) (by omega)).mono ?_
  rw [show bS (-129) 1 = ([], 9) from by decide +kernel]
  rintro e w19 ⟨v19, rfl, ⟨b19, rfl, ho19⟩, he19⟩
  have t19 := t17.trans he19
  have t20 := t18.trans he19
  have t21 := y18.trans he19
  go_wp2_with fail
  refine (Big_any (-128) 1 _ (by omega) (by omega) (by omega) (by omega)).mono ?_
  rw [show bS (-128) 1 = ([128], 0) from by decide +kernel]
  rintro e w20 ⟨v20, rfl, ⟨b20, rfl, ho20⟩, he20⟩
  have t22 := t19.trans he20
  have t23 := t20.trans he20
  have t24 := t21.trans he20
  have y20 := Ext.refl w20
  obtain ⟨A20, c20, hb20, _⟩ := ho20.row
  change b20 = Value.slice A20 1 c20 at hb20
  subst hb20
  go_wp2_with fail
  refine (Big_any (255) 1 _ (by omega) (by omega) (by omega) (by omega)).mono ?_
  rw [show bS (255) 1 = ([255], 0) from by decide +kernel]
  rintro e w21 ⟨v21, rfl, ⟨b21, rfl, ho21⟩, he21⟩
  have t25 := t22.trans he21
  have t26 := t23.trans he21
  have t27 := t24.trans he21
  have t28 := y20.trans he21
  have y21 := Ext.refl w21
  obtain ⟨A21, c21, hb21, _⟩ := ho21.row
  change b21 = Value.slice A21 1 c21 at hb21
  subst hb21
  go_wp2_with fail
  refine (Big_any (0) 0 _ (by omega) (by omega) (by omega) (by omega)).mono ?_
  rw [show bS (0) 0 = ([], 2) from by decide +kernel]
  rintro e w22 ⟨v22, rfl, ⟨b22, rfl, ho22⟩, he22⟩
  have t29 := t25.trans he22
  have t30 := t26.trans he22
  have t31 := t27.trans he22
  have t32 := t28.trans he22
  have t33 := y21.trans he22
  go_wp2_with fail
  refine (Big_any (0) 9 _ (by omega) (by omega) (by omega) (by omega)).mono ?_
  rw [show bS (0) 9 = ([], 2) from by decide +kernel]
  rintro e w23 ⟨v23, rfl, ⟨b23, rfl, ho23⟩, he23⟩
  have t34 := t29.trans he23
  have t35 := t30.trans he23
  have t36 := t31.trans he23
  have t37 := t32.trans he23
  have t38 := t33.trans he23
  go_wp2_with fail
  refine (TakeBigS_any _ [255, 255, 255, 255, 255, 255, 255, 255] 8 _ (by exact ho17.row.ext t35) (by decide) (by omega) (by omega)).mono ?_
  rw [show tB 8 4 [255, 255, 255, 255, 255, 255, 255, 255] 8 = (-1, [], 0) from by decide +kernel]
  rintro e w24 ⟨v24, rfl, ⟨b24, rfl, ho24⟩, he24⟩
  have t39 := t34.trans he24
  have t40 := t35.trans he24
  have t41 := t36.trans he24
  have t42 := t37.trans he24
  have t43 := t38.trans he24
  go_wp2_with fail
  refine (TakeBig_any _ [255, 255, 255, 255, 255, 255, 255, 255] 8 _ (by exact ho17.row.ext t40) (by decide) (by omega) (by omega)).mono ?_
  rw [show tB 7 3 [255, 255, 255, 255, 255, 255, 255, 255] 8 = (0, [], 2) from by decide +kernel]
  rintro e w25 ⟨v25, rfl, ⟨b25, rfl, ho25⟩, he25⟩
  have t44 := t39.trans he25
  have t45 := t40.trans he25
  have t46 := t41.trans he25
  have t47 := t42.trans he25
  have t48 := t43.trans he25
  go_wp2_with fail
  refine (TakeBig_any _ [255, 255, 255, 255, 255, 255, 255, 255] 7 _ (by exact ho17.row.ext t45) (by decide) (by omega) (by omega)).mono ?_
  rw [show tB 7 3 [255, 255, 255, 255, 255, 255, 255, 255] 7 = (72057594037927935, [255], 0) from by decide +kernel]
  rintro e w26 ⟨v26, rfl, ⟨b26, rfl, ho26⟩, he26⟩
  have t49 := t44.trans he26
  have t50 := t45.trans he26
  have t51 := t46.trans he26
  have t52 := t47.trans he26
  have t53 := t48.trans he26
  go_wp2_with fail
  refine (TakeBigS_any _ [] 0 _ (by exact (Own.nil 0 _ 0 _).row) (by decide) (by omega) (by omega)).mono ?_
  rw [show tB 8 4 [] 0 = (0, [], 2) from by decide +kernel]
  rintro e w27 ⟨v27, rfl, ⟨b27, rfl, ho27⟩, he27⟩
  have t54 := t49.trans he27
  have t55 := t50.trans he27
  have t56 := t51.trans he27
  have t57 := t52.trans he27
  have t58 := t53.trans he27
  go_wp2_with fail
  refine (TakeBigS_any _ [] 9 _ (by exact (Own.nil 0 _ 0 _).row) (by decide) (by omega) (by omega)).mono ?_
  rw [show tB 8 4 [] 9 = (0, [], 2) from by decide +kernel]
  rintro e w28 ⟨v28, rfl, ⟨b28, rfl, ho28⟩, he28⟩
  have t59 := t54.trans he28
  have t60 := t55.trans he28
  have t61 := t56.trans he28
  have t62 := t57.trans he28
  have t63 := t58.trans he28
  go_wp2_with fail
  refine (TakeBig_any _ [] 0 _ (by exact (Own.nil 0 _ 0 _).row) (by decide) (by omega) (by omega)).mono ?_
  rw [show tB 7 3 [] 0 = (0, [], 2) from by decide +kernel]
  rintro e w29 ⟨v29, rfl, ⟨b29, rfl, ho29⟩, he29⟩
  have t64 := t59.trans he29
  have t65 := t60.trans he29
  have t66 := t61.trans he29
  have t67 := t62.trans he29
  have t68 := t63.trans he29
  obtain ⟨Ae, ce, hbe, _, _, _, _, he6⟩ := ho18.row.ext t66
  obtain ⟨be, oe, hAe, _, hce⟩ := he6 (by decide)
  have hc0 := hce 0 (by decide)
  injection hbe with hbe1 _ _
  subst hbe1
  subst hAe
  change World.cell? w29 ⟨be, oe + 0, none⟩ = some (.int .u8 127) at hc0
  clear he6 hce
  rw [Nat.add_zero] at hc0
  go_wp2_with fail
  refine (eqBytes_any _ _ [128] [128] _ (by exact ho20.row.ext (Ext.alloc t67 _)) (by exact Row.lit _ _ [128] (by decide) (by decide) (by simp))).mono ?_
  rw [decide_eq_true rfl]
  rintro e w30 ⟨rfl, m30, rfl⟩
  have t69 := (Ext.alloc t64 (.cells ([128].map (Value.int .u8)).toArray 5)).drewN m30
  have t70 := (Ext.alloc t65 (.cells ([128].map (Value.int .u8)).toArray 5)).drewN m30
  have t71 := (Ext.alloc t66 (.cells ([128].map (Value.int .u8)).toArray 5)).drewN m30
  have t72 := (Ext.alloc t67 (.cells ([128].map (Value.int .u8)).toArray 5)).drewN m30
  have t73 := (Ext.alloc t68 (.cells ([128].map (Value.int .u8)).toArray 5)).drewN m30
  go_wp2_with fail
  refine (eqBytes_any _ _ [255] [255] _ (by exact ho21.row.ext (Ext.alloc t73 _)) (by exact Row.lit _ _ [255] (by decide) (by decide) (by simp))).mono ?_
  rw [decide_eq_true rfl]
  rintro e w31 ⟨rfl, m31, rfl⟩
  have t74 := (Ext.alloc t69 (.cells ([255].map (Value.int .u8)).toArray 5)).drewN m31
  have t75 := (Ext.alloc t70 (.cells ([255].map (Value.int .u8)).toArray 5)).drewN m31
  have t76 := (Ext.alloc t71 (.cells ([255].map (Value.int .u8)).toArray 5)).drewN m31
  have t77 := (Ext.alloc t72 (.cells ([255].map (Value.int .u8)).toArray 5)).drewN m31
  have t78 := (Ext.alloc t73 (.cells ([255].map (Value.int .u8)).toArray 5)).drewN m31
  go_wp2_with fail
  refine (works_any _).mono ?_
  rintro e w32 ⟨rfl, he32⟩
  have t79 := t74.trans he32
  have t80 := t75.trans he32
  have t81 := t76.trans he32
  have t82 := t77.trans he32
  have t83 := t78.trans he32
  go_wp2_with fail
  go_ret
  exact ⟨rfl, t79⟩

set_option maxRecDepth 100000 in
theorem lebKnown_lifted (os : Os) (started : os.Started) (H : Type) (enc : TypeId × Value → H) :
    ReturnsInHanded {} Try.checked os 11 .any (Rows.lebKnownSpec.pre6 enc Try.prog Try.f11 Rows.lebKnownRow.domain false) (Rows.lebKnownSpec.post enc Try.prog Try.f11 false true false false) := by
  refine returnsInHanded_of_change_sized (C := Try.checked) own started (by kernel_rfl) Try.func11
    (ChangeSpec.witness6 (enc := enc) (C := Try.checked) false ⟨#[], #[], []⟩ 8 (by kernel_rfl) (by kernel_rfl) (by kernel_rfl) (by kernel_rfl)) ?_
  intro W base args ds gs before hval0 hW hcnd hsz0 _
  have hval : ∀ (j : Nat) t v, Try.f11.params[j]? = some t → args[j]? = some v → Value.okWide Try.prog W .any base t v := hval0
  have hsz : (DataW.weightsEach Try.prog (Try.f11.params.toList ++ Rows.lebKnownSpec.plain.varTypes Try.prog) (ds ++ gs)).all (· ≤ reachBytes) = true := hsz0
  have hW' := hW
  obtain ⟨p, q, hA0, hV, rfl, hfz, hnd⟩ := hW
  have hA : DataW.TrodAll enc Try.prog W 0 (fun _ => true) true Try.f11.params.toList args.toList ds p := hA0
  rw [Try.params11] at hA hval hsz
  obtain ⟨rfl, rfl, rfl⟩ := trodAll_none hA
  obtain ⟨rfl, rfl⟩ := trodVars_none hV
  clear hA0 hval0 hsz0
  refine (lebKnown_walk W ).mono fun e W' ⟨he, bel⟩ => ?_
  subst he
  exact ⟨_, rfl, _, _, _, [], _, [], hW', trodAll_mk1 (shut_bool Try.underlying4 _), trodAll_mk0, rfl, bel.frame _, fun h => by cases h⟩

theorem lebKnown_over : Rows.lebKnownRow.holds Try.pinned (OpenSpec.ofChange Rows.lebKnownSpec) :=
  OpenClaim.holds_of_wide 11 Try.f11 rfl rfl rfl rfl rfl rfl rfl ⟨rfl, rfl, rfl, rfl, rfl⟩ rfl rfl rfl rfl rfl (by kernel_rfl) Try.func11 (by kernel_rfl)
    (of_decide_eq_true (by kernel_rfl)) (by unfold Func.isWrapper; first | (rw [if_pos (by decide +kernel)]; kernel_rfl) | (rw [if_neg (by decide +kernel)]; exact ⟨rfl, rfl⟩))
    (fun os started H enc _ => lebKnown_lifted os started H enc)

/-- The statement. -/
theorem lebKnown_proved : Rows.LebKnownSaid := lebKnown_over
#print axioms lebKnown_proved
end Go.Proofs.Ytdjfdigaokokbaa
