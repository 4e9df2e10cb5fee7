/- LebShort: U, TakeU, S and TakeS answer as the chapter says, of all numbers and bytes; what is handed in stays, what is answered is memory of its own; no conditions. -/
import Derived.Test.YtdjfdigaokokbaaRows
import Derived.ProofKit
import Derived.OpenShut
import Derived.ShutString
import Derived.ChangeOld
import Derived.SizedLaws
import Derived.Test.YtdjfdigaokokbaaFrame
import Derived.Test.YtdjfdigaokokbaaLebX
import Derived.Test.YtdjfdigaokokbaaLebMath
import Derived.Test.YtdjfdigaokokbaaLebTU
import Derived.Test.YtdjfdigaokokbaaLebTW
import Derived.Test.YtdjfdigaokokbaaLebRC
namespace Go.Proofs.Ytdjfdigaokokbaa
open Go.ChangeShapes Go.WideShapes Go.ChangeAt Go.RowKit
open Go.ChangeMaps (open_string shut_string)
set_option linter.unusedVariables false

set_option maxRecDepth 1000000 in
set_option maxHeartbeats 8000000 in
theorem lebShort_walk (W : World) (n : Int) (hn : -9223372036854775808 ≤ n ∧ n ≤ 9223372036854775807) (v : Value) (l : List Int) (h : Row W .u8 v l) (hl : l.length ≤ 140737488351232) :
    Calls Try.prog 3 #[.int .i64 n, v] W (RetB W true) := by
  obtain ⟨ul, ue, hu⟩ : ∃ ul ue, (ul, ue) = uS n := ⟨_, _, rfl⟩
  obtain ⟨tn, tr, te, ht⟩ : ∃ tn tr te, (tn, tr, te) = tU l := ⟨_, _, _, rfl⟩
  obtain ⟨sn, sr, se, hsx⟩ : ∃ sn sr se, (sn, sr, se) = tS 10 2 l := ⟨_, _, _, rfl⟩
  have HU := Lib.hid hu
  have HT := Lib.hid ht
  have HS := Lib.hid hsx
  have n1 : (ue != ue) = false := by simp
  have n2 : (tn != tn) = false := by simp
  have n3 : (te != te) = false := by simp
  have n4 : (sn != sn) = false := by simp
  have n5 : (se != se) = false := by simp
  clear hu ht hsx
  go_enter Try.func3, Try.ntmps3
  have x0 := Ext.refl W
  go_wp2_with fail
  refine (copyBytes_any _ l _ (by exact h) (by omega)).mono ?_
  rintro e w1 ⟨v1, rfl, ho1, he1⟩
  have t0 := x0.trans he1
  have y1 := Ext.refl w1
  go_wp2_with fail
  refine (U_any _ _ hn.1 hn.2).mono ?_
  rw [← HU.out]
  rintro e w2 ⟨v2, rfl, ⟨b2, rfl, ho2⟩, he2⟩
  have t1 := t0.trans he2
  have t2 := y1.trans he2
  have y2 := Ext.refl w2
  go_wp2_with fail
  refine (refU_any _ _ hn.1 hn.2).mono ?_
  rw [← HU.out]
  rintro e w3 ⟨v3, rfl, ⟨b3, rfl, ho3⟩, he3⟩
  have t3 := t1.trans he3
  have t4 := t2.trans he3
  have t5 := y2.trans he3
  have y3 := Ext.refl w3
  go_wp2_with fail
  refine (S_any _ _ hn.1 hn.2).mono ?_
  rintro e w4 ⟨v4, rfl, ho4, he4⟩
  have t6 := t3.trans he4
  have t7 := t4.trans he4
  have t8 := t5.trans he4
  have t9 := y3.trans he4
  have y4 := Ext.refl w4
  go_wp2_with fail
  refine (TakeU_any _ l _ (by exact ho1.row.ext t7) (by omega)).mono ?_
  rw [← HT.out]
  rintro e w5 ⟨v5, rfl, ⟨b5, rfl, ho5⟩, he5⟩
  have t10 := t6.trans he5
  have t11 := t7.trans he5
  have t12 := t8.trans he5
  have t13 := t9.trans he5
  have t14 := y4.trans he5
  have y5 := Ext.refl w5
  go_wp2_with fail
  refine (refTakeU_any _ l _ (by exact h.ext t10) (by omega)).mono ?_
  rw [← HT.out]
  rintro e w6 ⟨v6, rfl, ⟨b6, rfl, ho6⟩, he6⟩
  have t15 := t10.trans he6
  have t16 := t11.trans he6
  have t17 := t12.trans he6
  have t18 := t13.trans he6
  have t19 := t14.trans he6
  have t20 := y5.trans he6
  have y6 := Ext.refl w6
  go_wp2_with fail
  refine (TakeS_any _ l _ (by exact ho1.row.ext t16) (by omega)).mono ?_
  rw [← HS.out]
  rintro e w7 ⟨v7, rfl, ⟨b7, rfl, ho7⟩, he7⟩
  have t21 := t15.trans he7
  have t22 := t16.trans he7
  have t23 := t17.trans he7
  have t24 := t18.trans he7
  have t25 := t19.trans he7
  have t26 := t20.trans he7
  have t27 := y6.trans he7
  have y7 := Ext.refl w7
  go_wp2_with fail
  refine (refTakeS_any _ l _ (by exact h.ext t21) (by omega)).mono ?_
  rw [← HS.out]
  rintro e w8 ⟨v8, rfl, ⟨b8, rfl, ho8⟩, he8⟩
  have t28 := t21.trans he8
  have t29 := t22.trans he8
  have t30 := t23.trans he8
  have t31 := t24.trans he8
  have t32 := t25.trans he8
  have t33 := t26.trans he8
  have t34 := t27.trans he8
  have t35 := y7.trans he8
  have y8 := Ext.refl w8
  go_wp2_with fail
  refine (eqBytes_any _ _ ul ul _ (by exact ho2.row.ext t30) (by exact ho3.row.ext t31)).mono ?_
  rw [decide_eq_true rfl]
  rintro e w9 ⟨rfl, m9, rfl⟩
  have t36 := t28.drewN (m9)
  have t37 := t29.drewN (m9)
  have t38 := t30.drewN (m9)
  have t39 := t31.drewN (m9)
  have t40 := t32.drewN (m9)
  have t41 := t33.drewN (m9)
  have t42 := t34.drewN (m9)
  have t43 := t35.drewN (m9)
  have t44 := y8.drewN (m9)
  go_wp2_with fail
  refine (refS_any _ _ hn.1 hn.2).mono ?_
  rintro e w10 ⟨v10, rfl, ho10, he10⟩
  have t45 := t36.trans he10
  have t46 := t37.trans he10
  have t47 := t38.trans he10
  have t48 := t39.trans he10
  have t49 := t40.trans he10
  have t50 := t41.trans he10
  have t51 := t42.trans he10
  have t52 := t43.trans he10
  have t53 := t44.trans he10
  have y10 := Ext.refl w10
  go_wp2_with fail
  refine (eqBytes_any _ _ (dg 2 10 n) (dg 2 10 n) _ (by exact ho4.row.ext t49) (by exact ho10.row.ext y10)).mono ?_
  rw [decide_eq_true rfl]
  rintro e w11 ⟨rfl, m11, rfl⟩
  have t54 := t45.drewN (m11)
  have t55 := t46.drewN (m11)
  have t56 := t47.drewN (m11)
  have t57 := t48.drewN (m11)
  have t58 := t49.drewN (m11)
  have t59 := t50.drewN (m11)
  have t60 := t51.drewN (m11)
  have t61 := t52.drewN (m11)
  have t62 := t53.drewN (m11)
  have t63 := y10.drewN (m11)
  go_wp2_with fail
  refine (eqBytes_any _ _ tr tr _ (by exact ho5.row.ext t59) (by exact ho6.row.ext t60)).mono ?_
  rw [decide_eq_true rfl]
  rintro e w12 ⟨rfl, m12, rfl⟩
  have t64 := t45.drewN (m11 + m12)
  have t65 := t46.drewN (m11 + m12)
  have t66 := t47.drewN (m11 + m12)
  have t67 := t48.drewN (m11 + m12)
  have t68 := t49.drewN (m11 + m12)
  have t69 := t50.drewN (m11 + m12)
  have t70 := t51.drewN (m11 + m12)
  have t71 := t52.drewN (m11 + m12)
  have t72 := t53.drewN (m11 + m12)
  go_wp2_with fail
  refine (eqBytes_any _ _ sr sr _ (by exact ho7.row.ext t71) (by exact ho8.row.ext t72)).mono ?_
  rw [decide_eq_true rfl]
  rintro e w13 ⟨rfl, m13, rfl⟩
  have t73 := t45.drewN (m11 + m12 + m13)
  have t74 := t46.drewN (m11 + m12 + m13)
  have t75 := t47.drewN (m11 + m12 + m13)
  have t76 := t48.drewN (m11 + m12 + m13)
  have t77 := t49.drewN (m11 + m12 + m13)
  have t78 := t50.drewN (m11 + m12 + m13)
  have t79 := t51.drewN (m11 + m12 + m13)
  have t80 := t52.drewN (m11 + m12 + m13)
  have t81 := t53.drewN (m11 + m12 + m13)
  have ox := ho2.ext t75
  have lox : ∀ g, b2.ownBlock = some g → w1.heap.size ≤ g := ho2.low
  have hix : ∀ g, b2.ownBlock = some g → g < w2.heap.size := ho2.high
  have oz := ho4.ext t77
  have loz : ∀ g, v4.ownBlock = some g → w3.heap.size ≤ g := ho4.low
  have hiz : ∀ g, v4.ownBlock = some g → g < w4.heap.size := ho4.high
  have or := ho5.ext t78
  have lor : ∀ g, b5.ownBlock = some g → w4.heap.size ≤ g := ho5.low
  have hir : ∀ g, b5.ownBlock = some g → g < w5.heap.size := ho5.high
  have om := ho7.ext t80
  have lom : ∀ g, b7.ownBlock = some g → w6.heap.size ≤ g := ho7.low
  have him : ∀ g, b7.ownBlock = some g → g < w7.heap.size := ho7.high
  have s0 : W.heap.size ≤ w1.heap.size := he1.size
  have s1 : w1.heap.size ≤ w2.heap.size := he2.size
  have s2 : w2.heap.size ≤ w3.heap.size := he3.size
  have s3 : w3.heap.size ≤ w4.heap.size := he4.size
  have s4 : w4.heap.size ≤ w5.heap.size := he5.size
  have s5 : w5.heap.size ≤ w6.heap.size := he6.size
  have s6 : w6.heap.size ≤ w7.heap.size := he7.size
  have s7 : w7.heap.size ≤ w8.heap.size := he8.size
  have ry := ho3.row.ext t76
  have yl : ∀ g, b3.ownBlock = some g → w2.heap.size ≤ g := ho3.low
  have yh : ∀ g, b3.ownBlock = some g → g < w3.heap.size := ho3.high
  have ri := ho1.row.ext t74
  have ih : ∀ g, v1.ownBlock = some g → g < w1.heap.size := ho1.high
  have xx := t73
  go_wp2_with fail
  refine (spoil_any _ ul _ _ (by exact ox)).mono ?_
  rintro e p0 ⟨rfl, g0⟩
  have oz := oz.kept g0 (fun a ha hb => by have c1 := loz a ha; have c2 := hix a hb; have c3 := lox a hb; omega)
  have or := or.kept g0 (fun a ha hb => by have c1 := lor a ha; have c2 := hix a hb; have c3 := lox a hb; omega)
  have om := om.kept g0 (fun a ha hb => by have c1 := lom a ha; have c2 := hix a hb; have c3 := lox a hb; omega)
  have ry := ry.kept g0 (fun a ha hb => by have c1 := yl a ha; have c2 := yh a ha; have c3 := lox a hb; have c4 := hix a hb; omega)
  have ri := ri.kept g0 (fun a ha hb => by have c1 := ih a ha; have c3 := lox a hb; omega)
  have xx := xx.grown g0 (fun a ha => by have c3 := lox a ha; omega)
  go_wp2_with fail
  refine (spoil_any _ (dg 2 10 n) _ _ (by exact oz)).mono ?_
  rintro e p1 ⟨rfl, g1⟩
  have or := or.kept g1 (fun a ha hb => by have c1 := lor a ha; have c2 := hiz a hb; have c3 := loz a hb; omega)
  have om := om.kept g1 (fun a ha hb => by have c1 := lom a ha; have c2 := hiz a hb; have c3 := loz a hb; omega)
  have ry := ry.kept g1 (fun a ha hb => by have c1 := yl a ha; have c2 := yh a ha; have c3 := loz a hb; have c4 := hiz a hb; omega)
  have ri := ri.kept g1 (fun a ha hb => by have c1 := ih a ha; have c3 := loz a hb; omega)
  have xx := xx.grown g1 (fun a ha => by have c3 := loz a ha; omega)
  go_wp2_with fail
  refine (spoil_any _ tr _ _ (by exact or)).mono ?_
  rintro e p2 ⟨rfl, g2⟩
  have om := om.kept g2 (fun a ha hb => by have c1 := lom a ha; have c2 := hir a hb; have c3 := lor a hb; omega)
  have ry := ry.kept g2 (fun a ha hb => by have c1 := yl a ha; have c2 := yh a ha; have c3 := lor a hb; have c4 := hir a hb; omega)
  have ri := ri.kept g2 (fun a ha hb => by have c1 := ih a ha; have c3 := lor a hb; omega)
  have xx := xx.grown g2 (fun a ha => by have c3 := lor a ha; omega)
  go_wp2_with fail
  refine (spoil_any _ sr _ _ (by exact om)).mono ?_
  rintro e p3 ⟨rfl, g3⟩
  have ry := ry.kept g3 (fun a ha hb => by have c1 := yl a ha; have c2 := yh a ha; have c3 := lom a hb; have c4 := him a hb; omega)
  have ri := ri.kept g3 (fun a ha hb => by have c1 := ih a ha; have c3 := lom a hb; omega)
  have xx := xx.grown g3 (fun a ha => by have c3 := lom a ha; omega)
  go_wp2_with fail
  refine (U_any _ _ hn.1 hn.2).mono ?_
  rw [← HU.out]
  rintro e q1 ⟨u1, rfl, ⟨b21, rfl, oq1⟩, eq1⟩
  go_wp2_with fail
  refine (eqBytes_any _ _ ul ul _ (by exact oq1.row) (by exact ry.ext eq1)).mono ?_
  rw [decide_eq_true rfl]
  rintro e q2 ⟨rfl, n2, rfl⟩
  go_wp2_with fail
  refine (S_any _ _ hn.1 hn.2).mono ?_
  rintro e q3 ⟨u3, rfl, oq3, eq3⟩
  go_wp2_with fail
  refine (refS_any _ _ hn.1 hn.2).mono ?_
  rintro e q4 ⟨u4, rfl, oq4, eq4⟩
  go_wp2_with fail
  refine (eqBytes_any _ _ (dg 2 10 n) (dg 2 10 n) _ (by exact oq3.row.ext eq4) (by exact oq4.row)).mono ?_
  rw [decide_eq_true rfl]
  rintro e q5 ⟨rfl, n5, rfl⟩
  have xy := ((((Ext.refl _).trans eq1).drewN n2).trans eq3).trans eq4
  go_wp2_with fail
  refine (eqBytes_any _ _ l l _ (by exact ri.ext (xy.drewN n5)) (by exact h.ext ((xx.trans xy).drewN n5))).mono ?_
  rw [decide_eq_true rfl]
  rintro e q6 ⟨rfl, n6, rfl⟩
  go_wp2_with fail
  refine (works_any _).mono ?_
  rintro e q7 ⟨rfl, e7⟩
  go_wp2_with fail
  go_ret
  exact ⟨rfl, ((xx.trans xy).drewN (n5 + n6)).trans e7⟩

set_option maxRecDepth 100000 in
theorem lebShort_lifted (os : Os) (started : os.Started) (H : Type) (enc : TypeId × Value → H) :
    ReturnsInHanded {} Try.checked os 3 .any (Rows.lebShortSpec.pre6 enc Try.prog Try.f3 Rows.lebShortRow.domain false) (Rows.lebShortSpec.post enc Try.prog Try.f3 false true false false) := by
  refine returnsInHanded_of_change_sized (C := Try.checked) own started (by kernel_rfl) Try.func3
    (ChangeSpec.witness6 (enc := enc) (C := Try.checked) false ⟨#[], #[.int .i64 0, .slice none 0 0], []⟩ 8 (by kernel_rfl) (by kernel_rfl) (by kernel_rfl) (by kernel_rfl)) ?_
  intro W base args ds gs before hval0 hW hcnd hsz0 _
  have hval : ∀ (j : Nat) t v, Try.f3.params[j]? = some t → args[j]? = some v → Value.okWide Try.prog W .any base t v := hval0
  have hsz : (DataW.weightsEach Try.prog (Try.f3.params.toList ++ Rows.lebShortSpec.plain.varTypes Try.prog) (ds ++ gs)).all (· ≤ reachBytes) = true := hsz0
  have hW' := hW
  obtain ⟨p, q, hA0, hV, rfl, hfz, hnd⟩ := hW
  have hA : DataW.TrodAll enc Try.prog W 0 (fun _ => true) true Try.f3.params.toList args.toList ds p := hA0
  rw [Try.params3] at hA hval hsz
  obtain ⟨v0, vs0, d0, ds0, p0, q0, hargs, rfl, rfl, h0, r0⟩ := trodAll_cons hA
  obtain ⟨v1, vs1, d1, ds1, p1, q1, rfl, rfl, rfl, h1, r1⟩ := trodAll_cons r0
  obtain ⟨rfl, rfl, rfl⟩ := trodAll_nil r1
  obtain rfl : args = #[v0, v1] := by cases args; simp_all
  obtain ⟨rfl, rfl⟩ := trodVars_none hV
  obtain ⟨a0, rfl, rfl, rfl, w0⟩ := open_int Try.underlying3 (hval 0 3 v0 rfl rfl) h0
  have z0 := bounds_i64 w0
  obtain ⟨a1, len1, cap1, rfl⟩ := okWide_slice Try.underlying22 (hval 1 22 v1 rfl rfl)
  have k1 := h1
  have lt1 : ∀ x ∈ p1, x.block < W.heap.size := by obtain ⟨m, hm⟩ := k1; exact DataW.trod_lt m _ _ _ hm
  obtain ⟨l1, w1, z1⟩ : ∃ l, Row W .u8 (.slice a1 len1 cap1) l ∧ l.length ≤ 140737488351232 := by
    obtain ⟨fuel, hf⟩ := h1
    rcases open_ints Try.underlying22 Try.underlying5 (by kernel_rfl) hf with ⟨hcs, _⟩ | ⟨x, l, c, zs, hcs, _, hl, hm, hz, hx, hcell, hwz⟩
    · simp [Value.cells] at hcs
      obtain ⟨rfl, rfl, rfl⟩ := hcs
      exact ⟨[], (Own.nil 0 _ 0 _).row, by simp⟩
    · simp [Value.cells] at hcs
      obtain ⟨rfl, rfl, rfl⟩ := hcs
      simp only [if_true] at hz
      refine ⟨_, row_of_open hl hm hz hcell hwz, ?_⟩
      have hd : d1 = _ := congrArg Prod.fst hx
      have hs := sized_slice hsz (j := 1) rfl (by rw [hd]; rfl) Try.underlying22
      rw [bytes8] at hs
      simp only [lits, List.length_map, List.length_take, List.length_drop, reachBytes] at hs
      simp only [List.length_take]
      omega
  clear hA0 hval0 hsz0
  refine (lebShort_walk W a0 z0 (.slice a1 len1 cap1) l1 w1 z1).mono fun e W' ⟨he, bel⟩ => ?_
  subst he
  exact ⟨_, rfl, _, _, _, [], _, [], hW', trodAll_mk1 (shut_bool Try.underlying4 _), (trodAll_cons_mk (shut_int Try.underlying3 w0) (trodAll_cons_mk (Below.trod laidOut (by kernel_rfl) (of_decide_eq_true (by kernel_rfl)) k1 bel lt1) trodAll_mk0)), rfl, bel.frame _, fun h => by cases h⟩

theorem lebShort_over : Rows.lebShortRow.holds Try.pinned (OpenSpec.ofChange Rows.lebShortSpec) :=
  OpenClaim.holds_of_wide 3 Try.f3 rfl rfl rfl rfl rfl rfl rfl ⟨rfl, rfl, rfl, rfl, rfl⟩ rfl rfl rfl rfl rfl (by kernel_rfl) Try.func3 (by kernel_rfl)
    (of_decide_eq_true (by kernel_rfl)) (by unfold Func.isWrapper; first | (rw [if_pos (by decide +kernel)]; kernel_rfl) | (rw [if_neg (by decide +kernel)]; exact ⟨rfl, rfl⟩))
    (fun os started H enc _ => lebShort_lifted os started H enc)

/-- The statement. -/
theorem lebShort_proved : Rows.LebShortSaid := lebShort_over
#print axioms lebShort_proved
end Go.Proofs.Ytdjfdigaokokbaa
