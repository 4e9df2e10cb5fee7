/- LebCut: what is cut is told by ErrTrunc, of any number, size and place; no conditions. -/
import Derived.Test.YtdjfdigaokokbaaRows
import Derived.ProofKit
import Derived.OpenShut
import Derived.ShutString
import Derived.ChangeOld
import Derived.SizedLaws
import Derived.Test.YtdjfdigaokokbaaFrame
import Derived.Test.YtdjfdigaokokbaaLebX
import Derived.Test.YtdjfdigaokokbaaLebMath
namespace Go.Proofs.Ytdjfdigaokokbaa
open Go.ChangeShapes Go.WideShapes Go.ChangeAt Go.RowKit
open Go.ChangeMaps (open_string shut_string)
set_option linter.unusedVariables false

set_option maxRecDepth 1000000 in
set_option maxHeartbeats 8000000 in
theorem lebCut_walk (W : World) (n : Int) (hn : -9223372036854775808 ≤ n ∧ n ≤ 9223372036854775807) (size : Int) (hs : -9223372036854775808 ≤ size ∧ size ≤ 9223372036854775807) (at_ : Int) (ha : -9223372036854775808 ≤ at_ ∧ at_ ≤ 9223372036854775807) :
    Calls Try.prog 8 #[.int .i64 n, .int .i64 size, .int .i64 at_] W (RetB W true) := by
  obtain ⟨u, hu⟩ : ∃ u, u = bring n 9007199254740992 := ⟨_, rfl⟩
  have hu0 : 0 ≤ u ∧ u ≤ 9007199254740991 := by rw [hu, bring_pos n (by omega)]; omega
  have HU := Lib.hid hu
  have hin : InB 2 9 n := InB.start hn.1 hn.2 (.inl rfl)
  have hd1 := dg_pos 1 9 u
  have hd2 := dg_pos 2 9 n
  have hd3 := dg_len 1 10 u
  have hd4 := dg_len 2 10 n
  obtain ⟨k1, hk1', hk1⟩ := bring_nat at_ hd1
  obtain ⟨k2, hk2', hk2⟩ := bring_nat at_ hd2
  have HK1 := Lib.hid hk1'
  have HK2 := Lib.hid hk2'
  change 0 < (dg 1 10 u).length at hd1
  change 0 < (dg 2 10 n).length at hd2
  change k1 < (dg 1 10 u).length at hk1
  change k2 < (dg 2 10 n).length at hk2
  change Hid (bring at_ ((dg 1 10 u).length : Int) = k1) at HK1
  change Hid (bring at_ ((dg 2 10 n).length : Int) = k2) at HK2
  have hz1 : (((dg 1 10 u).length : Int) == 0) = false := beq_eq_false_iff_ne.2 (by omega)
  have hz2 : (((dg 2 10 n).length : Int) == 0) = false := beq_eq_false_iff_ne.2 (by omega)
  have hj : bring size 7 = 0 ∨ bring size 7 = 1 ∨ bring size 7 = 2 ∨ bring size 7 = 3 ∨ bring size 7 = 4 ∨ bring size 7 = 5 ∨ bring size 7 = 6 := by
    rw [bring_pos size (by omega)]
    omega
  clear hu hk1' hk2'
  rcases hj with hj | hj | hj | hj | hj | hj | hj
  · have HJ := Lib.hid hj
    clear hj
    have HQ := Lib.hid (bring_pos n (show (0 : Int) < 128 by omega))
    have hq : 0 ≤ n % 128 ∧ n % 128 < 128 := by omega
    obtain ⟨q, hqe⟩ : ∃ q, q = n % 128 := ⟨_, rfl⟩
    rw [← hqe] at hq
    have HQ2 : Hid (bring n 128 = q) := by rw [Hid, HQ.out, hqe]
    clear hqe HQ
    have HB : Hid (bS q 1 = (bg 1 q, 0)) := by
      have e : ftB q 1 = true := by simp [ftB]; omega
      rw [Hid, bS, if_neg (by omega), if_pos e]
      rfl
    obtain ⟨k3, hk3, hk3'⟩ := bring_nat at_ (show 0 < 1 by omega)
    have HK3 : Hid (bring at_ 1 = k3) := hk3
    clear hk3
    go_enter Try.func8, Try.ntmps8
    have x0 := Ext.refl W
    go_wp2_with fail
    refine (works_any _).mono ?_
    rintro e w1 ⟨rfl, he1⟩
    have t0 := x0.trans he1
    go_wp2_with fail
    refine (bring_any n _ _ hn.1 hn.2 (by omega) (by omega)).mono ?_
    rw [← HU.out]
    rintro e wsame ⟨rfl, rfl⟩
    go_wp2_with fail
    refine (U_any _ _ (by omega) (by omega)).mono ?_
    rw [uS_ok hu0.1 hu0.2]
    rintro e w2 ⟨v2, rfl, ⟨b2, rfl, ho2⟩, he2⟩
    have t1 := t0.trans he2
    have y2 := Ext.refl w2
    obtain ⟨A2, c2, hb2, hle2, hmx2, _⟩ := ho2.row
    unfold maxLen at hmx2
    subst hb2
    go_wp2_with fail
    refine (S_any _ _ hn.1 hn.2).mono ?_
    rintro e w3 ⟨v3, rfl, ho3, he3⟩
    have t2 := t1.trans he3
    have t3 := y2.trans he3
    have y3 := Ext.refl w3
    obtain ⟨A3, c3, hb3, hle3, hmx3, _⟩ := ho3.row
    unfold maxLen at hmx3
    subst hb3
    go_wp2_with fail
    refine (bring_any size 7 _ hs.1 hs.2 (by omega) (by omega)).mono ?_
    rw [HJ.out]
    rintro e wsame ⟨rfl, rfl⟩
    go_wp2_with fail
    refine (bring_any n 128 _ hn.1 hn.2 (by omega) (by omega)).mono ?_
    rw [HQ2.out]
    rintro e wsame ⟨rfl, rfl⟩
    go_wp2_with fail
    refine (Big_any q 1 _ (by omega) (by omega) (by omega) (by omega)).mono ?_
    rw [HB.out]
    rintro e w4 ⟨v4, rfl, ⟨b4, rfl, ho4⟩, he4⟩
    have t4 := t2.trans he4
    have t5 := t3.trans he4
    have t6 := y3.trans he4
    have y4 := Ext.refl w4
    obtain ⟨A4, c4, hb4, hle4, hmx4, _⟩ := ho4.row
    unfold maxLen at hmx4
    change b4 = Value.slice A4 1 c4 at hb4
    subst hb4
    change 1 ≤ c4 at hle4
    go_wp2_with fail
    refine (bring_any at_ _ _ ha.1 ha.2 (by omega) (by omega)).mono ?_
    rw [HK1.out]
    rintro e wsame ⟨rfl, rfl⟩
    go_wp2_with fail
    refine (TakeU_any _ ((dg 1 10 u).take k1) _ (by exact (ho2.row.head k1 (by omega)).ext t5) (by simp; omega)).mono ?_
    rw [tU_cut hu0.1 hu0.2 hk1]
    rintro e w5 ⟨v5, rfl, ⟨b5, rfl, ho5⟩, he5⟩
    have t7 := t4.trans he5
    have t8 := t5.trans he5
    have t9 := t6.trans he5
    have t10 := y4.trans he5
    go_wp2_with fail
    refine (bring_any at_ _ _ ha.1 ha.2 (by omega) (by omega)).mono ?_
    rw [HK2.out]
    rintro e wsame ⟨rfl, rfl⟩
    go_wp2_with fail
    refine (TakeS_any _ ((dg 2 10 n).take k2) _ (by exact (ho3.row.head k2 (by omega)).ext t9) (by simp; omega)).mono ?_
    rw [tS_cut hin (dg_len 2 10 n) hk2]
    rintro e w6 ⟨v6, rfl, ⟨b6, rfl, ho6⟩, he6⟩
    have t11 := t7.trans he6
    have t12 := t8.trans he6
    have t13 := t9.trans he6
    have t14 := t10.trans he6
    go_wp2_with fail
    refine (bring_any at_ 1 _ ha.1 ha.2 (by omega) (by omega)).mono ?_
    rw [HK3.out]
    rintro e wsame ⟨rfl, rfl⟩
    go_wp2_with fail
    refine (TakeBig_any _ ((bg 1 q).take k3) 1 _ (by exact (ho4.row.head k3 (by rw [bg_len]; omega)).ext t14) (by simp; omega) (by omega) (by omega)).mono ?_
    rw [tB_short 7 3 1 ((bg 1 q).take k3) (by omega) (by omega) (by simp; omega)]
    rintro e w7 ⟨v7, rfl, ⟨b7, rfl, ho7⟩, he7⟩
    have t15 := t11.trans he7
    have t16 := t12.trans he7
    have t17 := t13.trans he7
    have t18 := t14.trans he7
    go_wp2_with fail
    refine (bring_any at_ 1 _ ha.1 ha.2 (by omega) (by omega)).mono ?_
    rw [HK3.out]
    rintro e wsame ⟨rfl, rfl⟩
    go_wp2_with fail
    refine (TakeBigS_any _ ((bg 1 q).take k3) 1 _ (by exact (ho4.row.head k3 (by rw [bg_len]; omega)).ext t18) (by simp; omega) (by omega) (by omega)).mono ?_
    rw [tB_short 8 4 1 ((bg 1 q).take k3) (by omega) (by omega) (by simp; omega)]
    rintro e w8 ⟨v8, rfl, ⟨b8, rfl, ho8⟩, he8⟩
    have t19 := t15.trans he8
    have t20 := t16.trans he8
    have t21 := t17.trans he8
    have t22 := t18.trans he8
    go_wp2_with fail
    go_ret
    exact ⟨rfl, t19⟩
  · have HJ := Lib.hid hj
    clear hj
    have HQ := Lib.hid (bring_pos n (show (0 : Int) < 32768 by omega))
    have hq : 0 ≤ n % 32768 ∧ n % 32768 < 32768 := by omega
    obtain ⟨q, hqe⟩ : ∃ q, q = n % 32768 := ⟨_, rfl⟩
    rw [← hqe] at hq
    have HQ2 : Hid (bring n 32768 = q) := by rw [Hid, HQ.out, hqe]
    clear hqe HQ
    have HB : Hid (bS q 2 = (bg 2 q, 0)) := by
      have e : ftB q 2 = true := by simp [ftB]; omega
      rw [Hid, bS, if_neg (by omega), if_pos e]
      rfl
    obtain ⟨k3, hk3, hk3'⟩ := bring_nat at_ (show 0 < 2 by omega)
    have HK3 : Hid (bring at_ 2 = k3) := hk3
    clear hk3
    go_enter Try.func8, Try.ntmps8
    have x0 := Ext.refl W
    go_wp2_with fail
    refine (works_any _).mono ?_
    rintro e w1 ⟨rfl, he1⟩
    have t0 := x0.trans he1
    go_wp2_with fail
    refine (bring_any n _ _ hn.1 hn.2 (by omega) (by omega)).mono ?_
    rw [← HU.out]
    rintro e wsame ⟨rfl, rfl⟩
    go_wp2_with fail
    refine (U_any _ _ (by omega) (by omega)).mono ?_
    rw [uS_ok hu0.1 hu0.2]
    rintro e w2 ⟨v2, rfl, ⟨b2, rfl, ho2⟩, he2⟩
    have t1 := t0.trans he2
    have y2 := Ext.refl w2
    obtain ⟨A2, c2, hb2, hle2, hmx2, _⟩ := ho2.row
    unfold maxLen at hmx2
    subst hb2
    go_wp2_with fail
    refine (S_any _ _ hn.1 hn.2).mono ?_
    rintro e w3 ⟨v3, rfl, ho3, he3⟩
    have t2 := t1.trans he3
    have t3 := y2.trans he3
    have y3 := Ext.refl w3
    obtain ⟨A3, c3, hb3, hle3, hmx3, _⟩ := ho3.row
    unfold maxLen at hmx3
    subst hb3
    go_wp2_with fail
    refine (bring_any size 7 _ hs.1 hs.2 (by omega) (by omega)).mono ?_
    rw [HJ.out]
    rintro e wsame ⟨rfl, rfl⟩
    go_wp2_with fail
    refine (bring_any n 32768 _ hn.1 hn.2 (by omega) (by omega)).mono ?_
    rw [HQ2.out]
    rintro e wsame ⟨rfl, rfl⟩
    go_wp2_with fail
    refine (Big_any q 2 _ (by omega) (by omega) (by omega) (by omega)).mono ?_
    rw [HB.out]
    rintro e w4 ⟨v4, rfl, ⟨b4, rfl, ho4⟩, he4⟩
    have t4 := t2.trans he4
    have t5 := t3.trans he4
    have t6 := y3.trans he4
    have y4 := Ext.refl w4
    obtain ⟨A4, c4, hb4, hle4, hmx4, _⟩ := ho4.row
    unfold maxLen at hmx4
    change b4 = Value.slice A4 2 c4 at hb4
    subst hb4
    change 2 ≤ c4 at hle4
    go_wp2_with fail
    refine (bring_any at_ _ _ ha.1 ha.2 (by omega) (by omega)).mono ?_
    rw [HK1.out]
    rintro e wsame ⟨rfl, rfl⟩
    go_wp2_with fail
    refine (TakeU_any _ ((dg 1 10 u).take k1) _ (by exact (ho2.row.head k1 (by omega)).ext t5) (by simp; omega)).mono ?_
    rw [tU_cut hu0.1 hu0.2 hk1]
    rintro e w5 ⟨v5, rfl, ⟨b5, rfl, ho5⟩, he5⟩
    have t7 := t4.trans he5
    have t8 := t5.trans he5
    have t9 := t6.trans he5
    have t10 := y4.trans he5
    go_wp2_with fail
    refine (bring_any at_ _ _ ha.1 ha.2 (by omega) (by omega)).mono ?_
    rw [HK2.out]
    rintro e wsame ⟨rfl, rfl⟩
    go_wp2_with fail
    refine (TakeS_any _ ((dg 2 10 n).take k2) _ (by exact (ho3.row.head k2 (by omega)).ext t9) (by simp; omega)).mono ?_
    rw [tS_cut hin (dg_len 2 10 n) hk2]
    rintro e w6 ⟨v6, rfl, ⟨b6, rfl, ho6⟩, he6⟩
    have t11 := t7.trans he6
    have t12 := t8.trans he6
    have t13 := t9.trans he6
    have t14 := t10.trans he6
    go_wp2_with fail
    refine (bring_any at_ 2 _ ha.1 ha.2 (by omega) (by omega)).mono ?_
    rw [HK3.out]
    rintro e wsame ⟨rfl, rfl⟩
    go_wp2_with fail
    refine (TakeBig_any _ ((bg 2 q).take k3) 2 _ (by exact (ho4.row.head k3 (by rw [bg_len]; omega)).ext t14) (by simp; omega) (by omega) (by omega)).mono ?_
    rw [tB_short 7 3 2 ((bg 2 q).take k3) (by omega) (by omega) (by simp; omega)]
    rintro e w7 ⟨v7, rfl, ⟨b7, rfl, ho7⟩, he7⟩
    have t15 := t11.trans he7
    have t16 := t12.trans he7
    have t17 := t13.trans he7
    have t18 := t14.trans he7
    go_wp2_with fail
    refine (bring_any at_ 2 _ ha.1 ha.2 (by omega) (by omega)).mono ?_
    rw [HK3.out]
    rintro e wsame ⟨rfl, rfl⟩
    go_wp2_with fail
    refine (TakeBigS_any _ ((bg 2 q).take k3) 2 _ (by exact (ho4.row.head k3 (by rw [bg_len]; omega)).ext t18) (by simp; omega) (by omega) (by omega)).mono ?_
    rw [tB_short 8 4 2 ((bg 2 q).take k3) (by omega) (by omega) (by simp; omega)]
    rintro e w8 ⟨v8, rfl, ⟨b8, rfl, ho8⟩, he8⟩
    have t19 := t15.trans he8
    have t20 := t16.trans he8
    have t21 := t17.trans he8
    have t22 := t18.trans he8
    go_wp2_with fail
    go_ret
    exact ⟨rfl, t19⟩
  · have HJ := Lib.hid hj
    clear hj
    have HQ := Lib.hid (bring_pos n (show (0 : Int) < 8388608 by omega))
    have hq : 0 ≤ n % 8388608 ∧ n % 8388608 < 8388608 := by omega
    obtain ⟨q, hqe⟩ : ∃ q, q = n % 8388608 := ⟨_, rfl⟩
    rw [← hqe] at hq
    have HQ2 : Hid (bring n 8388608 = q) := by rw [Hid, HQ.out, hqe]
    clear hqe HQ
    have HB : Hid (bS q 3 = (bg 3 q, 0)) := by
      have e : ftB q 3 = true := by simp [ftB]; omega
      rw [Hid, bS, if_neg (by omega), if_pos e]
      rfl
    obtain ⟨k3, hk3, hk3'⟩ := bring_nat at_ (show 0 < 3 by omega)
    have HK3 : Hid (bring at_ 3 = k3) := hk3
    clear hk3
    go_enter Try.func8, Try.ntmps8
    have x0 := Ext.refl W
    go_wp2_with fail
    refine (works_any _).mono ?_
    rintro e w1 ⟨rfl, he1⟩
    have t0 := x0.trans he1
    go_wp2_with fail
    refine (bring_any n _ _ hn.1 hn.2 (by omega) (by omega)).mono ?_
    rw [← HU.out]
    rintro e wsame ⟨rfl, rfl⟩
    go_wp2_with fail
    refine (U_any _ _ (by omega) (by omega)).mono ?_
    rw [uS_ok hu0.1 hu0.2]
    rintro e w2 ⟨v2, rfl, ⟨b2, rfl, ho2⟩, he2⟩
    have t1 := t0.trans he2
    have y2 := Ext.refl w2
    obtain ⟨A2, c2, hb2, hle2, hmx2, _⟩ := ho2.row
    unfold maxLen at hmx2
    subst hb2
    go_wp2_with fail
    refine (S_any _ _ hn.1 hn.2).mono ?_
    rintro e w3 ⟨v3, rfl, ho3, he3⟩
    have t2 := t1.trans he3
    have t3 := y2.trans he3
    have y3 := Ext.refl w3
    obtain ⟨A3, c3, hb3, hle3, hmx3, _⟩ := ho3.row
    unfold maxLen at hmx3
    subst hb3
    go_wp2_with fail
    refine (bring_any size 7 _ hs.1 hs.2 (by omega) (by omega)).mono ?_
    rw [HJ.out]
    rintro e wsame ⟨rfl, rfl⟩
    go_wp2_with fail
    refine (bring_any n 8388608 _ hn.1 hn.2 (by omega) (by omega)).mono ?_
    rw [HQ2.out]
    rintro e wsame ⟨rfl, rfl⟩
    go_wp2_with fail
    refine (Big_any q 3 _ (by omega) (by omega) (by omega) (by omega)).mono ?_
    rw [HB.out]
    rintro e w4 ⟨v4, rfl, ⟨b4, rfl, ho4⟩, he4⟩
    have t4 := t2.trans he4
    have t5 := t3.trans he4
    have t6 := y3.trans he4
    have y4 := Ext.refl w4
    obtain ⟨A4, c4, hb4, hle4, hmx4, _⟩ := ho4.row
    unfold maxLen at hmx4
    change b4 = Value.slice A4 3 c4 at hb4
    subst hb4
    change 3 ≤ c4 at hle4
    go_wp2_with fail
    refine (bring_any at_ _ _ ha.1 ha.2 (by omega) (by omega)).mono ?_
    rw [HK1.out]
    rintro e wsame ⟨rfl, rfl⟩
    go_wp2_with fail
    refine (TakeU_any _ ((dg 1 10 u).take k1) _ (by exact (ho2.row.head k1 (by omega)).ext t5) (by simp; omega)).mono ?_
    rw [tU_cut hu0.1 hu0.2 hk1]
    rintro e w5 ⟨v5, rfl, ⟨b5, rfl, ho5⟩, he5⟩
    have t7 := t4.trans he5
    have t8 := t5.trans he5
    have t9 := t6.trans he5
    have t10 := y4.trans he5
    go_wp2_with fail
    refine (bring_any at_ _ _ ha.1 ha.2 (by omega) (by omega)).mono ?_
    rw [HK2.out]
    rintro e wsame ⟨rfl, rfl⟩
    go_wp2_with fail
    refine (TakeS_any _ ((dg 2 10 n).take k2) _ (by exact (ho3.row.head k2 (by omega)).ext t9) (by simp; omega)).mono ?_
    rw [tS_cut hin (dg_len 2 10 n) hk2]
    rintro e w6 ⟨v6, rfl, ⟨b6, rfl, ho6⟩, he6⟩
    have t11 := t7.trans he6
    have t12 := t8.trans he6
    have t13 := t9.trans he6
    have t14 := t10.trans he6
    go_wp2_with fail
    refine (bring_any at_ 3 _ ha.1 ha.2 (by omega) (by omega)).mono ?_
    rw [HK3.out]
    rintro e wsame ⟨rfl, rfl⟩
    go_wp2_with fail
    refine (TakeBig_any _ ((bg 3 q).take k3) 3 _ (by exact (ho4.row.head k3 (by rw [bg_len]; omega)).ext t14) (by simp; omega) (by omega) (by omega)).mono ?_
    rw [tB_short 7 3 3 ((bg 3 q).take k3) (by omega) (by omega) (by simp; omega)]
    rintro e w7 ⟨v7, rfl, ⟨b7, rfl, ho7⟩, he7⟩
    have t15 := t11.trans he7
    have t16 := t12.trans he7
    have t17 := t13.trans he7
    have t18 := t14.trans he7
    go_wp2_with fail
    refine (bring_any at_ 3 _ ha.1 ha.2 (by omega) (by omega)).mono ?_
    rw [HK3.out]
    rintro e wsame ⟨rfl, rfl⟩
    go_wp2_with fail
    refine (TakeBigS_any _ ((bg 3 q).take k3) 3 _ (by exact (ho4.row.head k3 (by rw [bg_len]; omega)).ext t18) (by simp; omega) (by omega) (by omega)).mono ?_
    rw [tB_short 8 4 3 ((bg 3 q).take k3) (by omega) (by omega) (by simp; omega)]
    rintro e w8 ⟨v8, rfl, ⟨b8, rfl, ho8⟩, he8⟩
    have t19 := t15.trans he8
    have t20 := t16.trans he8
    have t21 := t17.trans he8
    have t22 := t18.trans he8
    go_wp2_with fail
    go_ret
    exact ⟨rfl, t19⟩
  · have HJ := Lib.hid hj
    clear hj
    have HQ := Lib.hid (bring_pos n (show (0 : Int) < 2147483648 by omega))
    have hq : 0 ≤ n % 2147483648 ∧ n % 2147483648 < 2147483648 := by omega
    obtain ⟨q, hqe⟩ : ∃ q, q = n % 2147483648 := ⟨_, rfl⟩
    rw [← hqe] at hq
    have HQ2 : Hid (bring n 2147483648 = q) := by rw [Hid, HQ.out, hqe]
    clear hqe HQ
    have HB : Hid (bS q 4 = (bg 4 q, 0)) := by
      have e : ftB q 4 = true := by simp [ftB]; omega
      rw [Hid, bS, if_neg (by omega), if_pos e]
      rfl
    obtain ⟨k3, hk3, hk3'⟩ := bring_nat at_ (show 0 < 4 by omega)
    have HK3 : Hid (bring at_ 4 = k3) := hk3
    clear hk3
    go_enter Try.func8, Try.ntmps8
    have x0 := Ext.refl W
    go_wp2_with fail
    refine (works_any _).mono ?_
    rintro e w1 ⟨rfl, he1⟩
    have t0 := x0.trans he1
    go_wp2_with fail
    refine (bring_any n _ _ hn.1 hn.2 (by omega) (by omega)).mono ?_
    rw [← HU.out]
    rintro e wsame ⟨rfl, rfl⟩
    go_wp2_with fail
    refine (U_any _ _ (by omega) (by omega)).mono ?_
    rw [uS_ok hu0.1 hu0.2]
    rintro e w2 ⟨v2, rfl, ⟨b2, rfl, ho2⟩, he2⟩
    have t1 := t0.trans he2
    have y2 := Ext.refl w2
    obtain ⟨A2, c2, hb2, hle2, hmx2, _⟩ := ho2.row
    unfold maxLen at hmx2
    subst hb2
    go_wp2_with fail
    refine (S_any _ _ hn.1 hn.2).mono ?_
    rintro e w3 ⟨v3, rfl, ho3, he3⟩
    have t2 := t1.trans he3
    have t3 := y2.trans he3
    have y3 := Ext.refl w3
    obtain ⟨A3, c3, hb3, hle3, hmx3, _⟩ := ho3.row
    unfold maxLen at hmx3
    subst hb3
    go_wp2_with fail
    refine (bring_any size 7 _ hs.1 hs.2 (by omega) (by omega)).mono ?_
    rw [HJ.out]
    rintro e wsame ⟨rfl, rfl⟩
    go_wp2_with fail
    refine (bring_any n 2147483648 _ hn.1 hn.2 (by omega) (by omega)).mono ?_
    rw [HQ2.out]
    rintro e wsame ⟨rfl, rfl⟩
    go_wp2_with fail
    refine (Big_any q 4 _ (by omega) (by omega) (by omega) (by omega)).mono ?_
    rw [HB.out]
    rintro e w4 ⟨v4, rfl, ⟨b4, rfl, ho4⟩, he4⟩
    have t4 := t2.trans he4
    have t5 := t3.trans he4
    have t6 := y3.trans he4
    have y4 := Ext.refl w4
    obtain ⟨A4, c4, hb4, hle4, hmx4, _⟩ := ho4.row
    unfold maxLen at hmx4
    change b4 = Value.slice A4 4 c4 at hb4
    subst hb4
    change 4 ≤ c4 at hle4
    go_wp2_with fail
    refine (bring_any at_ _ _ ha.1 ha.2 (by omega) (by omega)).mono ?_
    rw [HK1.out]
    rintro e wsame ⟨rfl, rfl⟩
    go_wp2_with fail
    refine (TakeU_any _ ((dg 1 10 u).take k1) _ (by exact (ho2.row.head k1 (by omega)).ext t5) (by simp; omega)).mono ?_
    rw [tU_cut hu0.1 hu0.2 hk1]
    rintro e w5 ⟨v5, rfl, ⟨b5, rfl, ho5⟩, he5⟩
    have t7 := t4.trans he5
    have t8 := t5.trans he5
    have t9 := t6.trans he5
    have t10 := y4.trans he5
    go_wp2_with fail
    refine (bring_any at_ _ _ ha.1 ha.2 (by omega) (by omega)).mono ?_
    rw [HK2.out]
    rintro e wsame ⟨rfl, rfl⟩
    go_wp2_with fail
    refine (TakeS_any _ ((dg 2 10 n).take k2) _ (by exact (ho3.row.head k2 (by omega)).ext t9) (by simp; omega)).mono ?_
    rw [tS_cut hin (dg_len 2 10 n) hk2]
    rintro e w6 ⟨v6, rfl, ⟨b6, rfl, ho6⟩, he6⟩
    have t11 := t7.trans he6
    have t12 := t8.trans he6
    have t13 := t9.trans he6
    have t14 := t10.trans he6
    go_wp2_with fail
    refine (bring_any at_ 4 _ ha.1 ha.2 (by omega) (by omega)).mono ?_
    rw [HK3.out]
    rintro e wsame ⟨rfl, rfl⟩
    go_wp2_with fail
    refine (TakeBig_any _ ((bg 4 q).take k3) 4 _ (by exact (ho4.row.head k3 (by rw [bg_len]; omega)).ext t14) (by simp; omega) (by omega) (by omega)).mono ?_
    rw [tB_short 7 3 4 ((bg 4 q).take k3) (by omega) (by omega) (by simp; omega)]
    rintro e w7 ⟨v7, rfl, ⟨b7, rfl, ho7⟩, he7⟩
    have t15 := t11.trans he7
    have t16 := t12.trans he7
    have t17 := t13.trans he7
    have t18 := t14.trans he7
    go_wp2_with fail
    refine (bring_any at_ 4 _ ha.1 ha.2 (by omega) (by omega)).mono ?_
    rw [HK3.out]
    rintro e wsame ⟨rfl, rfl⟩
    go_wp2_with fail
    refine (TakeBigS_any _ ((bg 4 q).take k3) 4 _ (by exact (ho4.row.head k3 (by rw [bg_len]; omega)).ext t18) (by simp; omega) (by omega) (by omega)).mono ?_
    rw [tB_short 8 4 4 ((bg 4 q).take k3) (by omega) (by omega) (by simp; omega)]
    rintro e w8 ⟨v8, rfl, ⟨b8, rfl, ho8⟩, he8⟩
    have t19 := t15.trans he8
    have t20 := t16.trans he8
    have t21 := t17.trans he8
    have t22 := t18.trans he8
    go_wp2_with fail
    go_ret
    exact ⟨rfl, t19⟩
  · have HJ := Lib.hid hj
    clear hj
    have HQ := Lib.hid (bring_pos n (show (0 : Int) < 549755813888 by omega))
    have hq : 0 ≤ n % 549755813888 ∧ n % 549755813888 < 549755813888 := by omega
    obtain ⟨q, hqe⟩ : ∃ q, q = n % 549755813888 := ⟨_, rfl⟩
    rw [← hqe] at hq
    have HQ2 : Hid (bring n 549755813888 = q) := by rw [Hid, HQ.out, hqe]
    clear hqe HQ
    have HB : Hid (bS q 5 = (bg 5 q, 0)) := by
      have e : ftB q 5 = true := by simp [ftB]; omega
      rw [Hid, bS, if_neg (by omega), if_pos e]
      rfl
    obtain ⟨k3, hk3, hk3'⟩ := bring_nat at_ (show 0 < 5 by omega)
    have HK3 : Hid (bring at_ 5 = k3) := hk3
    clear hk3
    go_enter Try.func8, Try.ntmps8
    have x0 := Ext.refl W
    go_wp2_with fail
    refine (works_any _).mono ?_
    rintro e w1 ⟨rfl, he1⟩
    have t0 := x0.trans he1
    go_wp2_with fail
    refine (bring_any n _ _ hn.1 hn.2 (by omega) (by omega)).mono ?_
    rw [← HU.out]
    rintro e wsame ⟨rfl, rfl⟩
    go_wp2_with fail
    refine (U_any _ _ (by omega) (by omega)).mono ?_
    rw [uS_ok hu0.1 hu0.2]
    rintro e w2 ⟨v2, rfl, ⟨b2, rfl, ho2⟩, he2⟩
    have t1 := t0.trans he2
    have y2 := Ext.refl w2
    obtain ⟨A2, c2, hb2, hle2, hmx2, _⟩ := ho2.row
    unfold maxLen at hmx2
    subst hb2
    go_wp2_with fail
    refine (S_any _ _ hn.1 hn.2).mono ?_
    rintro e w3 ⟨v3, rfl, ho3, he3⟩
    have t2 := t1.trans he3
    have t3 := y2.trans he3
    have y3 := Ext.refl w3
    obtain ⟨A3, c3, hb3, hle3, hmx3, _⟩ := ho3.row
    unfold maxLen at hmx3
    subst hb3
    go_wp2_with fail
    refine (bring_any size 7 _ hs.1 hs.2 (by omega) (by omega)).mono ?_
    rw [HJ.out]
    rintro e wsame ⟨rfl, rfl⟩
    go_wp2_with fail
    refine (bring_any n 549755813888 _ hn.1 hn.2 (by omega) (by omega)).mono ?_
    rw [HQ2.out]
    rintro e wsame ⟨rfl, rfl⟩
    go_wp2_with fail
    refine (Big_any q 5 _ (by omega) (by omega) (by omega) (by omega)).mono ?_
    rw [HB.out]
    rintro e w4 ⟨v4, rfl, ⟨b4, rfl, ho4⟩, he4⟩
    have t4 := t2.trans he4
    have t5 := t3.trans he4
    have t6 := y3.trans he4
    have y4 := Ext.refl w4
    obtain ⟨A4, c4, hb4, hle4, hmx4, _⟩ := ho4.row
    unfold maxLen at hmx4
    change b4 = Value.slice A4 5 c4 at hb4
    subst hb4
    change 5 ≤ c4 at hle4
    go_wp2_with fail
    refine (bring_any at_ _ _ ha.1 ha.2 (by omega) (by omega)).mono ?_
    rw [HK1.out]
    rintro e wsame ⟨rfl, rfl⟩
    go_wp2_with fail
    refine (TakeU_any _ ((dg 1 10 u).take k1) _ (by exact (ho2.row.head k1 (by omega)).ext t5) (by simp; omega)).mono ?_
    rw [tU_cut hu0.1 hu0.2 hk1]
    rintro e w5 ⟨v5, rfl, ⟨b5, rfl, ho5⟩, he5⟩
    have t7 := t4.trans he5
    have t8 := t5.trans he5
    have t9 := t6.trans he5
    have t10 := y4.trans he5
    go_wp2_with fail
    refine (bring_any at_ _ _ ha.1 ha.2 (by omega) (by omega)).mono ?_
    rw [HK2.out]
    rintro e wsame ⟨rfl, rfl⟩
    go_wp2_with fail
    refine (TakeS_any _ ((dg 2 10 n).take k2) _ (by exact (ho3.row.head k2 (by omega)).ext t9) (by simp; omega)).mono ?_
    rw [tS_cut hin (dg_len 2 10 n) hk2]
    rintro e w6 ⟨v6, rfl, ⟨b6, rfl, ho6⟩, he6⟩
    have t11 := t7.trans he6
    have t12 := t8.trans he6
    have t13 := t9.trans he6
    have t14 := t10.trans he6
    go_wp2_with fail
    refine (bring_any at_ 5 _ ha.1 ha.2 (by omega) (by omega)).mono ?_
    rw [HK3.out]
    rintro e wsame ⟨rfl, rfl⟩
    go_wp2_with fail
    refine (TakeBig_any _ ((bg 5 q).take k3) 5 _ (by exact (ho4.row.head k3 (by rw [bg_len]; omega)).ext t14) (by simp; omega) (by omega) (by omega)).mono ?_
    rw [tB_short 7 3 5 ((bg 5 q).take k3) (by omega) (by omega) (by simp; omega)]
    rintro e w7 ⟨v7, rfl, ⟨b7, rfl, ho7⟩, he7⟩
    have t15 := t11.trans he7
    have t16 := t12.trans he7
    have t17 := t13.trans he7
    have t18 := t14.trans he7
    go_wp2_with fail
    refine (bring_any at_ 5 _ ha.1 ha.2 (by omega) (by omega)).mono ?_
    rw [HK3.out]
    rintro e wsame ⟨rfl, rfl⟩
    go_wp2_with fail
    refine (TakeBigS_any _ ((bg 5 q).take k3) 5 _ (by exact (ho4.row.head k3 (by rw [bg_len]; omega)).ext t18) (by simp; omega) (by omega) (by omega)).mono ?_
    rw [tB_short 8 4 5 ((bg 5 q).take k3) (by omega) (by omega) (by simp; omega)]
    rintro e w8 ⟨v8, rfl, ⟨b8, rfl, ho8⟩, he8⟩
    have t19 := t15.trans he8
    have t20 := t16.trans he8
    have t21 := t17.trans he8
    have t22 := t18.trans he8
    go_wp2_with fail
    go_ret
    exact ⟨rfl, t19⟩
  · have HJ := Lib.hid hj
    clear hj
    have HQ := Lib.hid (bring_pos n (show (0 : Int) < 140737488355328 by omega))
    have hq : 0 ≤ n % 140737488355328 ∧ n % 140737488355328 < 140737488355328 := by omega
    obtain ⟨q, hqe⟩ : ∃ q, q = n % 140737488355328 := ⟨_, rfl⟩
    rw [← hqe] at hq
    have HQ2 : Hid (bring n 140737488355328 = q) := by rw [Hid, HQ.out, hqe]
    clear hqe HQ
    have HB : Hid (bS q 6 = (bg 6 q, 0)) := by
      have e : ftB q 6 = true := by simp [ftB]; omega
      rw [Hid, bS, if_neg (by omega), if_pos e]
      rfl
    obtain ⟨k3, hk3, hk3'⟩ := bring_nat at_ (show 0 < 6 by omega)
    have HK3 : Hid (bring at_ 6 = k3) := hk3
    clear hk3
    go_enter Try.func8, Try.ntmps8
    have x0 := Ext.refl W
    go_wp2_with fail
    refine (works_any _).mono ?_
    rintro e w1 ⟨rfl, he1⟩
    have t0 := x0.trans he1
    go_wp2_with fail
    refine (bring_any n _ _ hn.1 hn.2 (by omega) (by omega)).mono ?_
    rw [← HU.out]
    rintro e wsame ⟨rfl, rfl⟩
    go_wp2_with fail
    refine (U_any _ _ (by omega) (by omega)).mono ?_
    rw [uS_ok hu0.1 hu0.2]
    rintro e w2 ⟨v2, rfl, ⟨b2, rfl, ho2⟩, he2⟩
    have t1 := t0.trans he2
    have y2 := Ext.refl w2
    obtain ⟨A2, c2, hb2, hle2, hmx2, _⟩ := ho2.row
    unfold maxLen at hmx2
    subst hb2
    go_wp2_with fail
    refine (S_any _ _ hn.1 hn.2).mono ?_
    rintro e w3 ⟨v3, rfl, ho3, he3⟩
    have t2 := t1.trans he3
    have t3 := y2.trans he3
    have y3 := Ext.refl w3
    obtain ⟨A3, c3, hb3, hle3, hmx3, _⟩ := ho3.row
    unfold maxLen at hmx3
    subst hb3
    go_wp2_with fail
    refine (bring_any size 7 _ hs.1 hs.2 (by omega) (by omega)).mono ?_
    rw [HJ.out]
    rintro e wsame ⟨rfl, rfl⟩
    go_wp2_with fail
    refine (bring_any n 140737488355328 _ hn.1 hn.2 (by omega) (by omega)).mono ?_
    rw [HQ2.out]
    rintro e wsame ⟨rfl, rfl⟩
    go_wp2_with fail
    refine (Big_any q 6 _ (by omega) (by omega) (by omega) (by omega)).mono ?_
    rw [HB.out]
    rintro e w4 ⟨v4, rfl, ⟨b4, rfl, ho4⟩, he4⟩
    have t4 := t2.trans he4
    have t5 := t3.trans he4
    have t6 := y3.trans he4
    have y4 := Ext.refl w4
    obtain ⟨A4, c4, hb4, hle4, hmx4, _⟩ := ho4.row
    unfold maxLen at hmx4
    change b4 = Value.slice A4 6 c4 at hb4
    subst hb4
    change 6 ≤ c4 at hle4
    go_wp2_with fail
    refine (bring_any at_ _ _ ha.1 ha.2 (by omega) (by omega)).mono ?_
    rw [HK1.out]
    rintro e wsame ⟨rfl, rfl⟩
    go_wp2_with fail
    refine (TakeU_any _ ((dg 1 10 u).take k1) _ (by exact (ho2.row.head k1 (by omega)).ext t5) (by simp; omega)).mono ?_
    rw [tU_cut hu0.1 hu0.2 hk1]
    rintro e w5 ⟨v5, rfl, ⟨b5, rfl, ho5⟩, he5⟩
    have t7 := t4.trans he5
    have t8 := t5.trans he5
    have t9 := t6.trans he5
    have t10 := y4.trans he5
    go_wp2_with fail
    refine (bring_any at_ _ _ ha.1 ha.2 (by omega) (by omega)).mono ?_
    rw [HK2.out]
    rintro e wsame ⟨rfl, rfl⟩
    go_wp2_with fail
    refine (TakeS_any _ ((dg 2 10 n).take k2) _ (by exact (ho3.row.head k2 (by omega)).ext t9) (by simp; omega)).mono ?_
    rw [tS_cut hin (dg_len 2 10 n) hk2]
    rintro e w6 ⟨v6, rfl, ⟨b6, rfl, ho6⟩, he6⟩
    have t11 := t7.trans he6
    have t12 := t8.trans he6
    have t13 := t9.trans he6
    have t14 := t10.trans he6
    go_wp2_with fail
    refine (bring_any at_ 6 _ ha.1 ha.2 (by omega) (by omega)).mono ?_
    rw [HK3.out]
    rintro e wsame ⟨rfl, rfl⟩
    go_wp2_with fail
    refine (TakeBig_any _ ((bg 6 q).take k3) 6 _ (by exact (ho4.row.head k3 (by rw [bg_len]; omega)).ext t14) (by simp; omega) (by omega) (by omega)).mono ?_
    rw [tB_short 7 3 6 ((bg 6 q).take k3) (by omega) (by omega) (by simp; omega)]
    rintro e w7 ⟨v7, rfl, ⟨b7, rfl, ho7⟩, he7⟩
    have t15 := t11.trans he7
    have t16 := t12.trans he7
    have t17 := t13.trans he7
    have t18 := t14.trans he7
    go_wp2_with fail
    refine (bring_any at_ 6 _ ha.1 ha.2 (by omega) (by omega)).mono ?_
    rw [HK3.out]
    rintro e wsame ⟨rfl, rfl⟩
    go_wp2_with fail
    refine (TakeBigS_any _ ((bg 6 q).take k3) 6 _ (by exact (ho4.row.head k3 (by rw [bg_len]; omega)).ext t18) (by simp; omega) (by omega) (by omega)).mono ?_
    rw [tB_short 8 4 6 ((bg 6 q).take k3) (by omega) (by omega) (by simp; omega)]
    rintro e w8 ⟨v8, rfl, ⟨b8, rfl, ho8⟩, he8⟩
    have t19 := t15.trans he8
    have t20 := t16.trans he8
    have t21 := t17.trans he8
    have t22 := t18.trans he8
    go_wp2_with fail
    go_ret
    exact ⟨rfl, t19⟩
  · have HJ := Lib.hid hj
    clear hj
    have HQ := Lib.hid (bring_pos n (show (0 : Int) < 36028797018963968 by omega))
    have hq : 0 ≤ n % 36028797018963968 ∧ n % 36028797018963968 < 36028797018963968 := by omega
    obtain ⟨q, hqe⟩ : ∃ q, q = n % 36028797018963968 := ⟨_, rfl⟩
    rw [← hqe] at hq
    have HQ2 : Hid (bring n 36028797018963968 = q) := by rw [Hid, HQ.out, hqe]
    clear hqe HQ
    have HB : Hid (bS q 7 = (bg 7 q, 0)) := by
      have e : ftB q 7 = true := by simp [ftB]; omega
      rw [Hid, bS, if_neg (by omega), if_pos e]
      rfl
    obtain ⟨k3, hk3, hk3'⟩ := bring_nat at_ (show 0 < 7 by omega)
    have HK3 : Hid (bring at_ 7 = k3) := hk3
    clear hk3
    go_enter Try.func8, Try.ntmps8
    have x0 := Ext.refl W
    go_wp2_with fail
    refine (works_any _).mono ?_
    rintro e w1 ⟨rfl, he1⟩
    have t0 := x0.trans he1
    go_wp2_with fail
    refine (bring_any n _ _ hn.1 hn.2 (by omega) (by omega)).mono ?_
    rw [← HU.out]
    rintro e wsame ⟨rfl, rfl⟩
    go_wp2_with fail
    refine (U_any _ _ (by omega) (by omega)).mono ?_
    rw [uS_ok hu0.1 hu0.2]
    rintro e w2 ⟨v2, rfl, ⟨b2, rfl, ho2⟩, he2⟩
    have t1 := t0.trans he2
    have y2 := Ext.refl w2
    obtain ⟨A2, c2, hb2, hle2, hmx2, _⟩ := ho2.row
    unfold maxLen at hmx2
    subst hb2
    go_wp2_with fail
    refine (S_any _ _ hn.1 hn.2).mono ?_
    rintro e w3 ⟨v3, rfl, ho3, he3⟩
    have t2 := t1.trans he3
    have t3 := y2.trans he3
    have y3 := Ext.refl w3
    obtain ⟨A3, c3, hb3, hle3, hmx3, _⟩ := ho3.row
    unfold maxLen at hmx3
    subst hb3
    go_wp2_with fail
    refine (bring_any size 7 _ hs.1 hs.2 (by omega) (by omega)).mono ?_
    rw [HJ.out]
    rintro e wsame ⟨rfl, rfl⟩
    go_wp2_with fail
    refine (bring_any n 36028797018963968 _ hn.1 hn.2 (by omega) (by omega)).mono ?_
    rw [HQ2.out]
    rintro e wsame ⟨rfl, rfl⟩
    go_wp2_with fail
    refine (Big_any q 7 _ (by omega) (by omega) (by omega) (by omega)).mono ?_
    rw [HB.out]
    rintro e w4 ⟨v4, rfl, ⟨b4, rfl, ho4⟩, he4⟩
    have t4 := t2.trans he4
    have t5 := t3.trans he4
    have t6 := y3.trans he4
    have y4 := Ext.refl w4
    obtain ⟨A4, c4, hb4, hle4, hmx4, _⟩ := ho4.row
    unfold maxLen at hmx4
    change b4 = Value.slice A4 7 c4 at hb4
    subst hb4
    change 7 ≤ c4 at hle4
    go_wp2_with fail
    refine (bring_any at_ _ _ ha.1 ha.2 (by omega) (by omega)).mono ?_
    rw [HK1.out]
    rintro e wsame ⟨rfl, rfl⟩
    go_wp2_with fail
    refine (TakeU_any _ ((dg 1 10 u).take k1) _ (by exact (ho2.row.head k1 (by omega)).ext t5) (by simp; omega)).mono ?_
    rw [tU_cut hu0.1 hu0.2 hk1]
    rintro e w5 ⟨v5, rfl, ⟨b5, rfl, ho5⟩, he5⟩
    have t7 := t4.trans he5
    have t8 := t5.trans he5
    have t9 := t6.trans he5
    have t10 := y4.trans he5
    go_wp2_with fail
    refine (bring_any at_ _ _ ha.1 ha.2 (by omega) (by omega)).mono ?_
    rw [HK2.out]
    rintro e wsame ⟨rfl, rfl⟩
    go_wp2_with fail
    refine (TakeS_any _ ((dg 2 10 n).take k2) _ (by exact (ho3.row.head k2 (by omega)).ext t9) (by simp; omega)).mono ?_
    rw [tS_cut hin (dg_len 2 10 n) hk2]
    rintro e w6 ⟨v6, rfl, ⟨b6, rfl, ho6⟩, he6⟩
    have t11 := t7.trans he6
    have t12 := t8.trans he6
    have t13 := t9.trans he6
    have t14 := t10.trans he6
    go_wp2_with fail
    refine (bring_any at_ 7 _ ha.1 ha.2 (by omega) (by omega)).mono ?_
    rw [HK3.out]
    rintro e wsame ⟨rfl, rfl⟩
    go_wp2_with fail
    refine (TakeBig_any _ ((bg 7 q).take k3) 7 _ (by exact (ho4.row.head k3 (by rw [bg_len]; omega)).ext t14) (by simp; omega) (by omega) (by omega)).mono ?_
    rw [tB_short 7 3 7 ((bg 7 q).take k3) (by omega) (by omega) (by simp; omega)]
    rintro e w7 ⟨v7, rfl, ⟨b7, rfl, ho7⟩, he7⟩
    have t15 := t11.trans he7
    have t16 := t12.trans he7
    have t17 := t13.trans he7
    have t18 := t14.trans he7
    go_wp2_with fail
    refine (bring_any at_ 7 _ ha.1 ha.2 (by omega) (by omega)).mono ?_
    rw [HK3.out]
    rintro e wsame ⟨rfl, rfl⟩
    go_wp2_with fail
    refine (TakeBigS_any _ ((bg 7 q).take k3) 7 _ (by exact (ho4.row.head k3 (by rw [bg_len]; omega)).ext t18) (by simp; omega) (by omega) (by omega)).mono ?_
    rw [tB_short 8 4 7 ((bg 7 q).take k3) (by omega) (by omega) (by simp; omega)]
    rintro e w8 ⟨v8, rfl, ⟨b8, rfl, ho8⟩, he8⟩
    have t19 := t15.trans he8
    have t20 := t16.trans he8
    have t21 := t17.trans he8
    have t22 := t18.trans he8
    go_wp2_with fail
    go_ret
    exact ⟨rfl, t19⟩

set_option maxRecDepth 100000 in
theorem lebCut_lifted (os : Os) (started : os.Started) (H : Type) (enc : TypeId × Value → H) :
    ReturnsInHanded {} Try.checked os 8 .any (Rows.lebCutSpec.pre6 enc Try.prog Try.f8 Rows.lebCutRow.domain false) (Rows.lebCutSpec.post enc Try.prog Try.f8 false true false false) := by
  refine returnsInHanded_of_change_sized (C := Try.checked) own started (by kernel_rfl) Try.func8
    (ChangeSpec.witness6 (enc := enc) (C := Try.checked) false ⟨#[], #[.int .i64 0, .int .i64 0, .int .i64 0], []⟩ 8 (by kernel_rfl) (by kernel_rfl) (by kernel_rfl) (by kernel_rfl)) ?_
  intro W base args ds gs before hval0 hW hcnd hsz0 _
  have hval : ∀ (j : Nat) t v, Try.f8.params[j]? = some t → args[j]? = some v → Value.okWide Try.prog W .any base t v := hval0
  have hsz : (DataW.weightsEach Try.prog (Try.f8.params.toList ++ Rows.lebCutSpec.plain.varTypes Try.prog) (ds ++ gs)).all (· ≤ reachBytes) = true := hsz0
  have hW' := hW
  obtain ⟨p, q, hA0, hV, rfl, hfz, hnd⟩ := hW
  have hA : DataW.TrodAll enc Try.prog W 0 (fun _ => true) true Try.f8.params.toList args.toList ds p := hA0
  rw [Try.params8] at hA hval hsz
  obtain ⟨v0, vs0, d0, ds0, p0, q0, hargs, rfl, rfl, h0, r0⟩ := trodAll_cons hA
  obtain ⟨v1, vs1, d1, ds1, p1, q1, rfl, rfl, rfl, h1, r1⟩ := trodAll_cons r0
  obtain ⟨v2, vs2, d2, ds2, p2, q2, rfl, rfl, rfl, h2, r2⟩ := trodAll_cons r1
  obtain ⟨rfl, rfl, rfl⟩ := trodAll_nil r2
  obtain rfl : args = #[v0, v1, v2] := by cases args; simp_all
  obtain ⟨rfl, rfl⟩ := trodVars_none hV
  obtain ⟨a0, rfl, rfl, rfl, w0⟩ := open_int Try.underlying3 (hval 0 3 v0 rfl rfl) h0
  have z0 := bounds_i64 w0
  obtain ⟨a1, rfl, rfl, rfl, w1⟩ := open_int Try.underlying3 (hval 1 3 v1 rfl rfl) h1
  have z1 := bounds_i64 w1
  obtain ⟨a2, rfl, rfl, rfl, w2⟩ := open_int Try.underlying3 (hval 2 3 v2 rfl rfl) h2
  have z2 := bounds_i64 w2
  clear hA0 hval0 hsz0
  refine (lebCut_walk W a0 z0 a1 z1 a2 z2).mono fun e W' ⟨he, bel⟩ => ?_
  subst he
  exact ⟨_, rfl, _, _, _, [], _, [], hW', trodAll_mk1 (shut_bool Try.underlying4 _), (trodAll_cons_mk (shut_int Try.underlying3 w0) (trodAll_cons_mk (shut_int Try.underlying3 w1) (trodAll_cons_mk (shut_int Try.underlying3 w2) trodAll_mk0))), rfl, bel.frame _, fun h => by cases h⟩

theorem lebCut_over : Rows.lebCutRow.holds Try.pinned (OpenSpec.ofChange Rows.lebCutSpec) :=
  OpenClaim.holds_of_wide 8 Try.f8 rfl rfl rfl rfl rfl rfl rfl ⟨rfl, rfl, rfl, rfl, rfl⟩ rfl rfl rfl rfl rfl (by kernel_rfl) Try.func8 (by kernel_rfl)
    (of_decide_eq_true (by kernel_rfl)) (by unfold Func.isWrapper; first | (rw [if_pos (by decide +kernel)]; kernel_rfl) | (rw [if_neg (by decide +kernel)]; exact ⟨rfl, rfl⟩))
    (fun os started H enc _ => lebCut_lifted os started H enc)

/-- The statement. -/
theorem lebCut_proved : Rows.LebCutSaid := lebCut_over
#print axioms lebCut_proved
end Go.Proofs.Ytdjfdigaokokbaa
