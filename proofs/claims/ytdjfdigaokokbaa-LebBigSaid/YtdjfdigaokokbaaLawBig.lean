/- LebBig: Big, TakeBig and TakeBigS answer as the chapter says, of all numbers, sizes and bytes; memory likewise; no conditions. -/
import Derived.Test.YtdjfdigaokokbaaRows
import Derived.ProofKit
import Derived.OpenShut
import Derived.ShutString
import Derived.ChangeOld
import Derived.SizedLaws
import Derived.Test.YtdjfdigaokokbaaFrame
import Derived.Test.YtdjfdigaokokbaaLebX
import Derived.Test.YtdjfdigaokokbaaLebMath
import Derived.Test.YtdjfdigaokokbaaLebRB
import Derived.Test.YtdjfdigaokokbaaLebRC
namespace Go.Proofs.Ytdjfdigaokokbaa
open Go.ChangeShapes Go.WideShapes Go.ChangeAt Go.RowKit
open Go.ChangeMaps (open_string shut_string)
set_option linter.unusedVariables false

set_option maxRecDepth 1000000 in
set_option maxHeartbeats 8000000 in
theorem lebBig_walk (W : World) (n : Int) (hn : -9223372036854775808 ≤ n ∧ n ≤ 9223372036854775807) (size : Int) (hs : -9223372036854775808 ≤ size ∧ size ≤ 9223372036854775807) (v : Value) (l : List Int) (h : Row W .u8 v l) (hl : l.length ≤ 140737488351232) :
    Calls Try.prog 4 #[.int .i64 n, .int .i64 size, v] W (RetB W true) := by
  obtain ⟨bl, be, hb⟩ : ∃ bl be, (bl, be) = bS n size := ⟨_, _, rfl⟩
  obtain ⟨tn, tr, te, ht⟩ : ∃ tn tr te, (tn, tr, te) = tB 7 3 l size := ⟨_, _, _, rfl⟩
  obtain ⟨sn, sr, se, hsx⟩ : ∃ sn sr se, (sn, sr, se) = tB 8 4 l size := ⟨_, _, _, rfl⟩
  have HB := Lib.hid hb
  have HT := Lib.hid ht
  have HS := Lib.hid hsx
  have n1 : (be != be) = false := by simp
  have n2 : (tn != tn) = false := by simp
  have n3 : (te != te) = false := by simp
  have n4 : (sn != sn) = false := by simp
  have n5 : (se != se) = false := by simp
  clear hb ht hsx
  go_enter Try.func4, Try.ntmps4
  have x0 := Ext.refl W
  go_wp2_with fail
  refine (copyBytes_any _ l _ (by exact h) (by omega)).mono ?_
  rintro e w1 ⟨v1, rfl, ho1, he1⟩
  have t0 := x0.trans he1
  have y1 := Ext.refl w1
  go_wp2_with fail
  refine (Big_any _ _ _ hn.1 hn.2 hs.1 hs.2).mono ?_
  rw [← HB.out]
  rintro e w2 ⟨v2, rfl, ⟨b2, rfl, ho2⟩, he2⟩
  have t1 := t0.trans he2
  have t2 := y1.trans he2
  have y2 := Ext.refl w2
  go_wp2_with fail
  refine (refBig_any _ _ _ hn.1 hn.2 hs.1 hs.2).mono ?_
  rw [← HB.out]
  rintro e w3 ⟨v3, rfl, ⟨b3, rfl, ho3⟩, he3⟩
  have t3 := t1.trans he3
  have t4 := t2.trans he3
  have t5 := y2.trans he3
  have y3 := Ext.refl w3
  go_wp2_with fail
  refine (TakeBig_any _ l _ _ (by exact ho1.row.ext t4) (by omega) hs.1 hs.2).mono ?_
  rw [← HT.out]
  rintro e w4 ⟨v4, rfl, ⟨b4, rfl, ho4⟩, he4⟩
  have t6 := t3.trans he4
  have t7 := t4.trans he4
  have t8 := t5.trans he4
  have t9 := y3.trans he4
  have y4 := Ext.refl w4
  go_wp2_with fail
  refine (refTakeBig_any _ l _ _ (by exact h.ext t6) (by omega) hs.1 hs.2).mono ?_
  rw [← HT.out]
  rintro e w5 ⟨v5, rfl, ⟨b5, rfl, ho5⟩, he5⟩
  have t10 := t6.trans he5
  have t11 := t7.trans he5
  have t12 := t8.trans he5
  have t13 := t9.trans he5
  have t14 := y4.trans he5
  have y5 := Ext.refl w5
  go_wp2_with fail
  refine (TakeBigS_any _ l _ _ (by exact ho1.row.ext t11) (by omega) hs.1 hs.2).mono ?_
  rw [← HS.out]
  rintro e w6 ⟨v6, rfl, ⟨b6, rfl, ho6⟩, he6⟩
  have t15 := t10.trans he6
  have t16 := t11.trans he6
  have t17 := t12.trans he6
  have t18 := t13.trans he6
  have t19 := t14.trans he6
  have t20 := y5.trans he6
  have y6 := Ext.refl w6
  go_wp2_with fail
  refine (refTakeBigS_any _ l _ _ (by exact h.ext t15) (by omega) hs.1 hs.2).mono ?_
  rw [← HS.out]
  rintro e w7 ⟨v7, rfl, ⟨b7, rfl, ho7⟩, he7⟩
  have t21 := t15.trans he7
  have t22 := t16.trans he7
  have t23 := t17.trans he7
  have t24 := t18.trans he7
  have t25 := t19.trans he7
  have t26 := t20.trans he7
  have t27 := y6.trans he7
  have y7 := Ext.refl w7
  go_wp2_with fail
  refine (eqBytes_any _ _ bl bl _ (by exact ho2.row.ext t23) (by exact ho3.row.ext t24)).mono ?_
  rw [decide_eq_true rfl]
  rintro e w8 ⟨rfl, m8, rfl⟩
  have t28 := t21.drewN (m8)
  have t29 := t22.drewN (m8)
  have t30 := t23.drewN (m8)
  have t31 := t24.drewN (m8)
  have t32 := t25.drewN (m8)
  have t33 := t26.drewN (m8)
  have t34 := t27.drewN (m8)
  have t35 := y7.drewN (m8)
  go_wp2_with fail
  refine (eqBytes_any _ _ tr tr _ (by exact ho4.row.ext t32) (by exact ho5.row.ext t33)).mono ?_
  rw [decide_eq_true rfl]
  rintro e w9 ⟨rfl, m9, rfl⟩
  have t36 := t21.drewN (m8 + m9)
  have t37 := t22.drewN (m8 + m9)
  have t38 := t23.drewN (m8 + m9)
  have t39 := t24.drewN (m8 + m9)
  have t40 := t25.drewN (m8 + m9)
  have t41 := t26.drewN (m8 + m9)
  have t42 := t27.drewN (m8 + m9)
  have t43 := y7.drewN (m8 + m9)
  go_wp2_with fail
  refine (eqBytes_any _ _ sr sr _ (by exact ho6.row.ext t42) (by exact ho7.row.ext t43)).mono ?_
  rw [decide_eq_true rfl]
  rintro e w10 ⟨rfl, m10, rfl⟩
  have t44 := t21.drewN (m8 + m9 + m10)
  have t45 := t22.drewN (m8 + m9 + m10)
  have t46 := t23.drewN (m8 + m9 + m10)
  have t47 := t24.drewN (m8 + m9 + m10)
  have t48 := t25.drewN (m8 + m9 + m10)
  have t49 := t26.drewN (m8 + m9 + m10)
  have t50 := t27.drewN (m8 + m9 + m10)
  have t51 := y7.drewN (m8 + m9 + m10)
  have hr := ho4.ext t48
  have hm := ho6.ext t50
  have q0 : w3.heap.size ≤ w5.heap.size := by have := he4.size; have := he5.size; omega
  have hrl : ∀ g, b4.ownBlock = some g → g < w4.heap.size := ho4.high
  have qi := (ho1.row.ext t45)
  have qb := (h.ext t44)
  have qw := t44
  have q1 : w1.heap.size ≤ w3.heap.size := by have := he2.size; have := he3.size; omega
  have q2 : W.heap.size ≤ w1.heap.size := he1.size
  have q3 : ∀ g, b6.ownBlock = some g → w5.heap.size ≤ g := ho6.low
  have q4 : ∀ g, b4.ownBlock = some g → w3.heap.size ≤ g := ho4.low
  have q5 : w4.heap.size ≤ w5.heap.size := he5.size
  have qio : ∀ g, v1.ownBlock = some g → g < w1.heap.size := ho1.high
  go_wp2_with fail
  refine (spoil_any _ tr _ _ (by exact hr)).mono ?_
  rintro e wa ⟨rfl, ga⟩
  have ea : ∀ a : World, Ext a _ → a.heap.size ≤ w3.heap.size → Ext a wa := fun a h1 h2 => Ext.grown h1 ga (fun g hg => Nat.le_trans h2 (q4 g hg))
  have hm2 := hm.kept ga (fun g hg hg2 => by have a1 := q3 g hg; have a2 := hrl g hg2; omega)
  have xa := ea W qw (by omega)
  have ia := (ho1.row.ext (ea w1 t45 (by omega)))
  have ya := ea w1 t45 (by omega)
  clear ea qi qb qw hr
  go_wp2_with fail
  refine (spoil_any _ sr _ _ (by exact hm2)).mono ?_
  rintro e wb ⟨rfl, gb⟩
  have xb : Ext W wb := xa.grown gb (fun g hg => by have := q3 g hg; omega)
  have ib := ho1.row.ext (ya.grown gb (fun g hg => by have := q3 g hg; omega))
  go_wp2_with fail
  refine (eqBytes_any _ _ l l _ (by exact ib) (by exact h.ext xb)).mono ?_
  rw [decide_eq_true rfl]
  rintro e wc ⟨rfl, mc, rfl⟩
  go_wp2_with fail
  refine (works_any _).mono ?_
  rintro e wd ⟨rfl, hd⟩
  go_wp2_with fail
  go_ret
  exact ⟨rfl, (xb.drewN _).trans hd⟩

set_option maxRecDepth 100000 in
theorem lebBig_lifted (os : Os) (started : os.Started) (H : Type) (enc : TypeId × Value → H) :
    ReturnsInHanded {} Try.checked os 4 .any (Rows.lebBigSpec.pre6 enc Try.prog Try.f4 Rows.lebBigRow.domain false) (Rows.lebBigSpec.post enc Try.prog Try.f4 false true false false) := by
  refine returnsInHanded_of_change_sized (C := Try.checked) own started (by kernel_rfl) Try.func4
    (ChangeSpec.witness6 (enc := enc) (C := Try.checked) false ⟨#[], #[.int .i64 0, .int .i64 0, .slice none 0 0], []⟩ 8 (by kernel_rfl) (by kernel_rfl) (by kernel_rfl) (by kernel_rfl)) ?_
  intro W base args ds gs before hval0 hW hcnd hsz0 _
  have hval : ∀ (j : Nat) t v, Try.f4.params[j]? = some t → args[j]? = some v → Value.okWide Try.prog W .any base t v := hval0
  have hsz : (DataW.weightsEach Try.prog (Try.f4.params.toList ++ Rows.lebBigSpec.plain.varTypes Try.prog) (ds ++ gs)).all (· ≤ reachBytes) = true := hsz0
  have hW' := hW
  obtain ⟨p, q, hA0, hV, rfl, hfz, hnd⟩ := hW
  have hA : DataW.TrodAll enc Try.prog W 0 (fun _ => true) true Try.f4.params.toList args.toList ds p := hA0
  rw [Try.params4] at hA hval hsz
  obtain ⟨v0, vs0, d0, ds0, p0, q0, hargs, rfl, rfl, h0, r0⟩ := trodAll_cons hA
  obtain ⟨v1, vs1, d1, ds1, p1, q1, rfl, rfl, rfl, h1, r1⟩ := trodAll_cons r0
  obtain ⟨v2, vs2, d2, ds2, p2, q2, rfl, rfl, rfl, h2, r2⟩ := trodAll_cons r1
  obtain ⟨rfl, rfl, rfl⟩ := trodAll_nil r2
  obtain rfl : args = #[v0, v1, v2] := by cases args; simp_all
  obtain ⟨rfl, rfl⟩ := trodVars_none hV
  obtain ⟨a0, rfl, rfl, rfl, w0⟩ := open_int Try.underlying3 (hval 0 3 v0 rfl rfl) h0
  have z0 := bounds_i64 w0
  obtain ⟨a1, rfl, rfl, rfl, w1⟩ := open_int Try.underlying3 (hval 1 3 v1 rfl rfl) h1
  have z1 := bounds_i64 w1
  obtain ⟨a2, len2, cap2, rfl⟩ := okWide_slice Try.underlying22 (hval 2 22 v2 rfl rfl)
  have k2 := h2
  have lt2 : ∀ x ∈ p2, x.block < W.heap.size := by obtain ⟨m, hm⟩ := k2; exact DataW.trod_lt m _ _ _ hm
  obtain ⟨l2, w2, z2⟩ : ∃ l, Row W .u8 (.slice a2 len2 cap2) l ∧ l.length ≤ 140737488351232 := by
    obtain ⟨fuel, hf⟩ := h2
    rcases open_ints Try.underlying22 Try.underlying5 (by kernel_rfl) hf with ⟨hcs, _⟩ | ⟨x, l, c, zs, hcs, _, hl, hm, hz, hx, hcell, hwz⟩
    · simp [Value.cells] at hcs
      obtain ⟨rfl, rfl, rfl⟩ := hcs
      exact ⟨[], (Own.nil 0 _ 0 _).row, by simp⟩
    · simp [Value.cells] at hcs
      obtain ⟨rfl, rfl, rfl⟩ := hcs
      simp only [if_true] at hz
      refine ⟨_, row_of_open hl hm hz hcell hwz, ?_⟩
      have hd : d2 = _ := congrArg Prod.fst hx
      have hs := sized_slice hsz (j := 2) rfl (by rw [hd]; rfl) Try.underlying22
      rw [bytes8] at hs
      simp only [lits, List.length_map, List.length_take, List.length_drop, reachBytes] at hs
      simp only [List.length_take]
      omega
  clear hA0 hval0 hsz0
  refine (lebBig_walk W a0 z0 a1 z1 (.slice a2 len2 cap2) l2 w2 z2).mono fun e W' ⟨he, bel⟩ => ?_
  subst he
  exact ⟨_, rfl, _, _, _, [], _, [], hW', trodAll_mk1 (shut_bool Try.underlying4 _), (trodAll_cons_mk (shut_int Try.underlying3 w0) (trodAll_cons_mk (shut_int Try.underlying3 w1) (trodAll_cons_mk (Below.trod laidOut (by kernel_rfl) (of_decide_eq_true (by kernel_rfl)) k2 bel lt2) trodAll_mk0))), rfl, bel.frame _, fun h => by cases h⟩

theorem lebBig_over : Rows.lebBigRow.holds Try.pinned (OpenSpec.ofChange Rows.lebBigSpec) :=
  OpenClaim.holds_of_wide 4 Try.f4 rfl rfl rfl rfl rfl rfl rfl ⟨rfl, rfl, rfl, rfl, rfl⟩ rfl rfl rfl rfl rfl (by kernel_rfl) Try.func4 (by kernel_rfl)
    (of_decide_eq_true (by kernel_rfl)) (by unfold Func.isWrapper; first | (rw [if_pos (by decide +kernel)]; kernel_rfl) | (rw [if_neg (by decide +kernel)]; exact ⟨rfl, rfl⟩))
    (fun os started H enc _ => lebBig_lifted os started H enc)

/-- The statement. -/
theorem lebBig_proved : Rows.LebBigSaid := lebBig_over
#print axioms lebBig_proved
end Go.Proofs.Ytdjfdigaokokbaa
