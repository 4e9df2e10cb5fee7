/- LebBack: what was written is read as it was, in each of the ways, and what stands behind it is left, of any number and any bytes behind; no conditions. -/
import Derived.Test.YtdjfdigaokokbaaRows
import Derived.ProofKit
import Derived.OpenShut
import Derived.ShutString
import Derived.ChangeOld
import Derived.SizedLaws
import Derived.Test.YtdjfdigaokokbaaFrame
import Derived.Test.YtdjfdigaokokbaaLebX
import Derived.Test.YtdjfdigaokokbaaLebMath
namespace Go.Proofs.Ytdjfdigaokokbaa
open Go.ChangeShapes Go.WideShapes Go.ChangeAt Go.RowKit
open Go.ChangeMaps (open_string shut_string)
set_option linter.unusedVariables false

set_option maxRecDepth 100000 in
set_option maxHeartbeats 2000000 in
theorem lebBack_walk (W : World) (n : Int) (hn : -9223372036854775808 ≤ n ∧ n ≤ 9223372036854775807) (v : Value) (l : List Int) (h : Row W .u8 v l) (hl : l.length ≤ 140737488351232) :
    Calls Try.prog 5 #[.int .i64 n, v] W (RetB W true) := by
  have hr : l.length ≤ 140737488355000 := by omega
  have hin : InB 2 9 n := InB.start hn.1 hn.2 (.inl rfl)
  have H1 := Lib.hid (tS_dg (most := 10) hin (dg_len 2 10 n) l)
  have hd1 := dg_len 2 10 n
  obtain ⟨u, hu⟩ : ∃ u, u = bring n 9007199254740992 := ⟨_, rfl⟩
  have hu0 : 0 ≤ u ∧ u ≤ 9007199254740991 := by rw [hu, bring_pos n (by omega)]; omega
  have HU := Lib.hid hu
  have hd2 := dg_len 1 10 u
  have H2 := Lib.hid (uS_ok hu0.1 hu0.2)
  have H3 := Lib.hid (tU_dg hu0.1 hu0.2 l)
  clear hu
  go_enter Try.func5, Try.ntmps5
  go_wp2_with (first
    | (go_at_call 23; refine (works_any _).mono ?_; rintro e w0 ⟨rfl, x0⟩)
    | (go_at_call 15; refine (S_any _ _ hn.1 hn.2).mono ?_; rintro e w1 ⟨v1, rfl, ho1, he1⟩)
    | (at_builtin; refine wpList_app _ rfl _ _ _ 22 5 _ 1 .u8 rfl Try.underlying22 info8 rfl (by omega) v1 (dg 2 10 n) rfl (ho1) _ l rfl (h.ext (x0.trans he1)) (by omega) (he1.size) ?_; intro v2 w2 ho2 hg2 _; have x2 : Ext W w2 := (x0.trans he1).grown hg2 (fun g hg => Nat.le_trans x0.size (ho1.low g hg)))
    | (go_at_call 18; refine (TakeS_any _ (dg 2 10 n ++ l) _ (by exact ho2.row) (by rw [List.length_append]; omega)).mono ?_; rw [H1.out]; rintro e w3 ⟨v3, rfl, ⟨b3, rfl, ho3⟩, he3⟩)
    | (go_at_call 20; refine (eqBytes_any _ _ l l _ (by exact ho3.row) (by exact h.ext (x2.trans he3))).mono ?_; rw [decide_eq_true rfl]; rintro e w4 ⟨rfl, m4, rfl⟩; have x4 := (x2.trans he3).drewN m4)
    | (go_at_call 30; refine (bring_any _ _ _ hn.1 hn.2 (by omega) (by omega)).mono ?_; rw [← HU.out]; rintro e w5 ⟨rfl, rfl⟩)
    | (go_at_call 13; refine (U_any _ _ (by omega) (by omega)).mono ?_; rw [H2.out]; rintro e w6 ⟨v6, rfl, ⟨b6, rfl, ho6⟩, he6⟩)
    | (at_builtin; refine wpList_app _ rfl _ _ _ 22 5 _ 1 .u8 rfl Try.underlying22 info8 rfl (by omega) b6 (dg 1 10 u) rfl (ho6) _ l rfl (h.ext (x4.trans he6)) (by omega) (he6.size) ?_; intro v7 w7 ho7 hg7 _; have x7 : Ext W w7 := (x4.trans he6).grown hg7 (fun g hg => Nat.le_trans x4.size (ho6.low g hg)))
    | (go_at_call 16; refine (TakeU_any _ (dg 1 10 u ++ l) _ (by exact ho7.row) (by rw [List.length_append]; omega)).mono ?_; rw [H3.out]; rintro e w8 ⟨v8, rfl, ⟨b8, rfl, ho8⟩, he8⟩)
    | (go_at_call 20; refine (eqBytes_any _ _ l l _ (by exact ho8.row) (by exact h.ext (x7.trans he8))).mono ?_; rw [decide_eq_true rfl]; rintro e w9 ⟨rfl, m9, rfl⟩; have x9 := (x7.trans he8).drewN m9))
  clear ho1 he1 ho2 hg2 ho3 he3 ho6 he6 ho7 hg7 ho8 he8 H1 H2 H3 HU hd1 hd2 hu0 hin x4 x7 x2 x0
  go_loopw [14] (fun i wr => ∃ k : Nat, i = .int .i64 k ∧ 1 ≤ k ∧ k ≤ 9 ∧ Ext W wr) (fun i _ => 9 - (intOf i).toNat)
  case atStart => exact ⟨1, rfl, by omega, by omega, x9⟩
  case round =>
    clear x9
    obtain ⟨k, rfl, hk1, hk9, hx⟩ := hrel
    by_cases hk : k ≤ 8
    · by_cases hf : ftB n k = true
      · have HB : Hid (bS n k = (bg k n, 0)) := by
          rw [Hid, bS, if_neg (by omega), if_pos hf, Int.toNat_natCast]
        obtain ⟨c, hc, hcc⟩ := tB_sign k n l hk1 hk hn.1 hn.2 hf
        have HC := Lib.hid hc
        have HF := Lib.hid hf
        clear hc hf
        by_cases hd : k ≤ 7 ∧ 0 ≤ n
        · have HD := Lib.hid (tB_plain k n l hk1 hd.1 hd.2 hn.2 HF.out)
          have hk7 := hd.1
          have hn0 := hd.2
          have hnn : (n != n) = false := by simp
          clear hd
          by_cases hcn : c = n
          · have hcn' := hcn.symm
            subst hcn'
            go_wp2_with (first
              | (go_at_call 24; refine (Big_any _ _ _ hn.1 hn.2 (by omega) (by omega)).mono ?_; rw [HB.out]; rintro e w1 ⟨v1, rfl, ⟨b1, rfl, ho1⟩, he1⟩; obtain ⟨A1, c1, hb1, _⟩ := ho1.row; rw [bg_len] at hb1; subst hb1)
              | (go_at_call 12; refine (copyBytes_any _ (bg k n) _ (by exact ho1.row) (by rw [bg_len]; omega)).mono ?_; rintro e w2 ⟨v2, rfl, ho2, he2⟩)
              | (at_builtin; refine wpList_app _ rfl _ _ _ 22 5 _ 1 .u8 rfl Try.underlying22 info8 rfl (by omega) v2 (bg k n) rfl (ho2) _ l rfl (h.ext ((hx.trans he1).trans he2)) (by rw [bg_len]; omega) (he2.size) ?_; intro v3 w3 ho3 hg3 _; have y3 : Ext w1 w3 := he2.grown hg3 ho2.low; have x3 : Ext W w3 := (hx.trans he1).trans y3)
              | (go_at_call 28; refine (TakeBigS_any _ (bg k n ++ l) _ _ (by exact ho3.row) (by rw [List.length_append, bg_len]; omega) (by omega) (by omega)).mono ?_; rw [HC.out]; rintro e w4 ⟨v4, rfl, ⟨b4, rfl, ho4⟩, he4⟩)
              | (go_at_call 12; refine (copyBytes_any _ (bg k n) _ (by exact ho1.row.ext (y3.trans he4)) (by rw [bg_len]; omega)).mono ?_; rintro e w5 ⟨v5, rfl, ho5, he5⟩)
              | (at_builtin; refine wpList_app _ rfl _ _ _ 22 5 _ 1 .u8 rfl Try.underlying22 info8 rfl (by omega) v5 (bg k n) rfl (ho5) _ l rfl (h.ext ((x3.trans he4).trans he5)) (by rw [bg_len]; omega) (he5.size) ?_; intro v6 w6 ho6 hg6 _; have y6 : Ext w4 w6 := he5.grown hg6 ho5.low; have x6 : Ext W w6 := (x3.trans he4).trans y6)
              | (go_at_call 26; refine (TakeBig_any _ (bg k n ++ l) _ _ (by exact ho6.row) (by rw [List.length_append, bg_len]; omega) (by omega) (by omega)).mono ?_; rw [HD.out]; rintro e w7 ⟨v7, rfl, ⟨b7, rfl, ho7⟩, he7⟩)
              | (go_at_call 20; refine (eqBytes_any _ _ l l _ (by exact ho4.row.ext (y6.trans he7)) (by exact h.ext (x6.trans he7))).mono ?_; rw [decide_eq_true rfl]; rintro e w8 ⟨rfl, m8, rfl⟩; have x8 := (x6.trans he7).drewN m8))
            go_roundw
            case rel => exact ⟨k + 1, by go_num, by omega, by omega, x8⟩
            case measure => simp [intOf]; omega
          · have hcb : (c != n) = true := by simpa using hcn
            have hc0 : c < 0 := by omega
            clear hcn hcc
            go_wp2_with (first
              | (go_at_call 24; refine (Big_any _ _ _ hn.1 hn.2 (by omega) (by omega)).mono ?_; rw [HB.out]; rintro e w1 ⟨v1, rfl, ⟨b1, rfl, ho1⟩, he1⟩; obtain ⟨A1, c1, hb1, _⟩ := ho1.row; rw [bg_len] at hb1; subst hb1)
              | (go_at_call 12; refine (copyBytes_any _ (bg k n) _ (by exact ho1.row) (by rw [bg_len]; omega)).mono ?_; rintro e w2 ⟨v2, rfl, ho2, he2⟩)
              | (at_builtin; refine wpList_app _ rfl _ _ _ 22 5 _ 1 .u8 rfl Try.underlying22 info8 rfl (by omega) v2 (bg k n) rfl (ho2) _ l rfl (h.ext ((hx.trans he1).trans he2)) (by rw [bg_len]; omega) (he2.size) ?_; intro v3 w3 ho3 hg3 _; have y3 : Ext w1 w3 := he2.grown hg3 ho2.low; have x3 : Ext W w3 := (hx.trans he1).trans y3)
              | (go_at_call 28; refine (TakeBigS_any _ (bg k n ++ l) _ _ (by exact ho3.row) (by rw [List.length_append, bg_len]; omega) (by omega) (by omega)).mono ?_; rw [HC.out]; rintro e w4 ⟨v4, rfl, ⟨b4, rfl, ho4⟩, he4⟩)
              | (go_at_call 12; refine (copyBytes_any _ (bg k n) _ (by exact ho1.row.ext (y3.trans he4)) (by rw [bg_len]; omega)).mono ?_; rintro e w5 ⟨v5, rfl, ho5, he5⟩)
              | (at_builtin; refine wpList_app _ rfl _ _ _ 22 5 _ 1 .u8 rfl Try.underlying22 info8 rfl (by omega) v5 (bg k n) rfl (ho5) _ l rfl (h.ext ((x3.trans he4).trans he5)) (by rw [bg_len]; omega) (he5.size) ?_; intro v6 w6 ho6 hg6 _; have y6 : Ext w4 w6 := he5.grown hg6 ho5.low; have x6 : Ext W w6 := (x3.trans he4).trans y6)
              | (go_at_call 26; refine (TakeBig_any _ (bg k n ++ l) _ _ (by exact ho6.row) (by rw [List.length_append, bg_len]; omega) (by omega) (by omega)).mono ?_; rw [HD.out]; rintro e w7 ⟨v7, rfl, ⟨b7, rfl, ho7⟩, he7⟩)
              | (go_at_call 20; refine (eqBytes_any _ _ l l _ (by exact ho4.row.ext (y6.trans he7)) (by exact h.ext (x6.trans he7))).mono ?_; rw [decide_eq_true rfl]; rintro e w8 ⟨rfl, m8, rfl⟩; have x8 := (x6.trans he7).drewN m8))
            go_roundw
            case rel => exact ⟨k + 1, by go_num, by omega, by omega, x8⟩
            case measure => simp [intOf]; omega
        · have hnn : (n != n) = false := by simp
          by_cases hk7 : k ≤ 7
          · have hn0 : n < 0 := by omega
            have hcn : n = c := by omega
            subst hcn
            obtain ⟨d, t, hdt⟩ := tB_some k n k l (by omega) (by omega) (by omega)
            have HD := Lib.hid hdt
            clear hdt hd hcc
            go_wp2_with (first
              | (go_at_call 24; refine (Big_any _ _ _ hn.1 hn.2 (by omega) (by omega)).mono ?_; rw [HB.out]; rintro e w1 ⟨v1, rfl, ⟨b1, rfl, ho1⟩, he1⟩; obtain ⟨A1, c1, hb1, _⟩ := ho1.row; rw [bg_len] at hb1; subst hb1)
              | (go_at_call 12; refine (copyBytes_any _ (bg k n) _ (by exact ho1.row) (by rw [bg_len]; omega)).mono ?_; rintro e w2 ⟨v2, rfl, ho2, he2⟩)
              | (at_builtin; refine wpList_app _ rfl _ _ _ 22 5 _ 1 .u8 rfl Try.underlying22 info8 rfl (by omega) v2 (bg k n) rfl (ho2) _ l rfl (h.ext ((hx.trans he1).trans he2)) (by rw [bg_len]; omega) (he2.size) ?_; intro v3 w3 ho3 hg3 _; have y3 : Ext w1 w3 := he2.grown hg3 ho2.low; have x3 : Ext W w3 := (hx.trans he1).trans y3)
              | (go_at_call 28; refine (TakeBigS_any _ (bg k n ++ l) _ _ (by exact ho3.row) (by rw [List.length_append, bg_len]; omega) (by omega) (by omega)).mono ?_; rw [HC.out]; rintro e w4 ⟨v4, rfl, ⟨b4, rfl, ho4⟩, he4⟩)
              | (go_at_call 12; refine (copyBytes_any _ (bg k n) _ (by exact ho1.row.ext (y3.trans he4)) (by rw [bg_len]; omega)).mono ?_; rintro e w5 ⟨v5, rfl, ho5, he5⟩)
              | (at_builtin; refine wpList_app _ rfl _ _ _ 22 5 _ 1 .u8 rfl Try.underlying22 info8 rfl (by omega) v5 (bg k n) rfl (ho5) _ l rfl (h.ext ((x3.trans he4).trans he5)) (by rw [bg_len]; omega) (he5.size) ?_; intro v6 w6 ho6 hg6 _; have y6 : Ext w4 w6 := he5.grown hg6 ho5.low; have x6 : Ext W w6 := (x3.trans he4).trans y6)
              | (go_at_call 26; refine (TakeBig_any _ (bg k n ++ l) _ _ (by exact ho6.row) (by rw [List.length_append, bg_len]; omega) (by omega) (by omega)).mono ?_; rw [HD.out]; rintro e w7 ⟨v7, rfl, ⟨b7, rfl, ho7⟩, he7⟩)
              | (go_at_call 20; refine (eqBytes_any _ _ l l _ (by exact ho4.row.ext (y6.trans he7)) (by exact h.ext (x6.trans he7))).mono ?_; rw [decide_eq_true rfl]; rintro e w8 ⟨rfl, m8, rfl⟩; have x8 := (x6.trans he7).drewN m8))
            go_roundw
            case rel => exact ⟨k + 1, by go_num, by omega, by omega, x8⟩
            case measure => simp [intOf]; omega
          · obtain ⟨d, t, hdt⟩ := tB_some k n 7 l (by omega) (by omega) (by omega)
            have HD := Lib.hid hdt
            clear hdt hd
            by_cases hcn : c = n
            · have hcn' := hcn.symm
              subst hcn'
              clear hcc
              go_wp2_with (first
              | (go_at_call 24; refine (Big_any _ _ _ hn.1 hn.2 (by omega) (by omega)).mono ?_; rw [HB.out]; rintro e w1 ⟨v1, rfl, ⟨b1, rfl, ho1⟩, he1⟩; obtain ⟨A1, c1, hb1, _⟩ := ho1.row; rw [bg_len] at hb1; subst hb1)
              | (go_at_call 12; refine (copyBytes_any _ (bg k n) _ (by exact ho1.row) (by rw [bg_len]; omega)).mono ?_; rintro e w2 ⟨v2, rfl, ho2, he2⟩)
              | (at_builtin; refine wpList_app _ rfl _ _ _ 22 5 _ 1 .u8 rfl Try.underlying22 info8 rfl (by omega) v2 (bg k n) rfl (ho2) _ l rfl (h.ext ((hx.trans he1).trans he2)) (by rw [bg_len]; omega) (he2.size) ?_; intro v3 w3 ho3 hg3 _; have y3 : Ext w1 w3 := he2.grown hg3 ho2.low; have x3 : Ext W w3 := (hx.trans he1).trans y3)
              | (go_at_call 28; refine (TakeBigS_any _ (bg k n ++ l) _ _ (by exact ho3.row) (by rw [List.length_append, bg_len]; omega) (by omega) (by omega)).mono ?_; rw [HC.out]; rintro e w4 ⟨v4, rfl, ⟨b4, rfl, ho4⟩, he4⟩)
              | (go_at_call 12; refine (copyBytes_any _ (bg k n) _ (by exact ho1.row.ext (y3.trans he4)) (by rw [bg_len]; omega)).mono ?_; rintro e w5 ⟨v5, rfl, ho5, he5⟩)
              | (at_builtin; refine wpList_app _ rfl _ _ _ 22 5 _ 1 .u8 rfl Try.underlying22 info8 rfl (by omega) v5 (bg k n) rfl (ho5) _ l rfl (h.ext ((x3.trans he4).trans he5)) (by rw [bg_len]; omega) (he5.size) ?_; intro v6 w6 ho6 hg6 _; have y6 : Ext w4 w6 := he5.grown hg6 ho5.low; have x6 : Ext W w6 := (x3.trans he4).trans y6)
              | (go_at_call 26; refine (TakeBig_any _ (bg k n ++ l) _ _ (by exact ho6.row) (by rw [List.length_append, bg_len]; omega) (by omega) (by omega)).mono ?_; rw [HD.out]; rintro e w7 ⟨v7, rfl, ⟨b7, rfl, ho7⟩, he7⟩)
              | (go_at_call 20; refine (eqBytes_any _ _ l l _ (by exact ho4.row.ext (y6.trans he7)) (by exact h.ext (x6.trans he7))).mono ?_; rw [decide_eq_true rfl]; rintro e w8 ⟨rfl, m8, rfl⟩; have x8 := (x6.trans he7).drewN m8))
              go_roundw
              case rel => exact ⟨k + 1, by go_num, by omega, by omega, x8⟩
              case measure => simp [intOf]; omega
            · have hcb : (c != n) = true := by simpa using hcn
              have hc0 : c < 0 := by omega
              have hn0 : 0 ≤ n := by omega
              clear hcn hcc
              go_wp2_with (first
              | (go_at_call 24; refine (Big_any _ _ _ hn.1 hn.2 (by omega) (by omega)).mono ?_; rw [HB.out]; rintro e w1 ⟨v1, rfl, ⟨b1, rfl, ho1⟩, he1⟩; obtain ⟨A1, c1, hb1, _⟩ := ho1.row; rw [bg_len] at hb1; subst hb1)
              | (go_at_call 12; refine (copyBytes_any _ (bg k n) _ (by exact ho1.row) (by rw [bg_len]; omega)).mono ?_; rintro e w2 ⟨v2, rfl, ho2, he2⟩)
              | (at_builtin; refine wpList_app _ rfl _ _ _ 22 5 _ 1 .u8 rfl Try.underlying22 info8 rfl (by omega) v2 (bg k n) rfl (ho2) _ l rfl (h.ext ((hx.trans he1).trans he2)) (by rw [bg_len]; omega) (he2.size) ?_; intro v3 w3 ho3 hg3 _; have y3 : Ext w1 w3 := he2.grown hg3 ho2.low; have x3 : Ext W w3 := (hx.trans he1).trans y3)
              | (go_at_call 28; refine (TakeBigS_any _ (bg k n ++ l) _ _ (by exact ho3.row) (by rw [List.length_append, bg_len]; omega) (by omega) (by omega)).mono ?_; rw [HC.out]; rintro e w4 ⟨v4, rfl, ⟨b4, rfl, ho4⟩, he4⟩)
              | (go_at_call 12; refine (copyBytes_any _ (bg k n) _ (by exact ho1.row.ext (y3.trans he4)) (by rw [bg_len]; omega)).mono ?_; rintro e w5 ⟨v5, rfl, ho5, he5⟩)
              | (at_builtin; refine wpList_app _ rfl _ _ _ 22 5 _ 1 .u8 rfl Try.underlying22 info8 rfl (by omega) v5 (bg k n) rfl (ho5) _ l rfl (h.ext ((x3.trans he4).trans he5)) (by rw [bg_len]; omega) (he5.size) ?_; intro v6 w6 ho6 hg6 _; have y6 : Ext w4 w6 := he5.grown hg6 ho5.low; have x6 : Ext W w6 := (x3.trans he4).trans y6)
              | (go_at_call 26; refine (TakeBig_any _ (bg k n ++ l) _ _ (by exact ho6.row) (by rw [List.length_append, bg_len]; omega) (by omega) (by omega)).mono ?_; rw [HD.out]; rintro e w7 ⟨v7, rfl, ⟨b7, rfl, ho7⟩, he7⟩)
              | (go_at_call 20; refine (eqBytes_any _ _ l l _ (by exact ho4.row.ext (y6.trans he7)) (by exact h.ext (x6.trans he7))).mono ?_; rw [decide_eq_true rfl]; rintro e w8 ⟨rfl, m8, rfl⟩; have x8 := (x6.trans he7).drewN m8))
              go_roundw
              case rel => exact ⟨k + 1, by go_num, by omega, by omega, x8⟩
              case measure => simp [intOf]; omega
      · have HB : Hid (bS n k = ([], 9)) := by
          rw [Hid, bS, if_neg (by omega), if_neg hf]
        clear hf
        go_wp2_with (first
          | (go_at_call 24; refine (Big_any _ _ _ hn.1 hn.2 (by omega) (by omega)).mono ?_; rw [HB.out]; rintro e w1 ⟨v1, rfl, ⟨b1, rfl, ho1⟩, he1⟩))
        go_roundw
        case rel => exact ⟨k + 1, by go_num, by omega, by omega, hx.trans he1⟩
        case measure => simp [intOf]; omega
    · go_wp2
      go_ret
      exact ⟨rfl, hx⟩

set_option maxRecDepth 100000 in
theorem lebBack_lifted (os : Os) (started : os.Started) (H : Type) (enc : TypeId × Value → H) :
    ReturnsInHanded {} Try.checked os 5 .any (Rows.lebBackSpec.pre6 enc Try.prog Try.f5 Rows.lebBackRow.domain false) (Rows.lebBackSpec.post enc Try.prog Try.f5 false true false false) := by
  refine returnsInHanded_of_change_sized (C := Try.checked) own started (by kernel_rfl) Try.func5
    (ChangeSpec.witness6 (enc := enc) (C := Try.checked) false ⟨#[], #[.int .i64 0, .slice none 0 0], []⟩ 8 (by kernel_rfl) (by kernel_rfl) (by kernel_rfl) (by kernel_rfl)) ?_
  intro W base args ds gs before hval0 hW hcnd hsz0 _
  have hval : ∀ (j : Nat) t v, Try.f5.params[j]? = some t → args[j]? = some v → Value.okWide Try.prog W .any base t v := hval0
  have hsz : (DataW.weightsEach Try.prog (Try.f5.params.toList ++ Rows.lebBackSpec.plain.varTypes Try.prog) (ds ++ gs)).all (· ≤ reachBytes) = true := hsz0
  have hW' := hW
  obtain ⟨p, q, hA0, hV, rfl, hfz, hnd⟩ := hW
  have hA : DataW.TrodAll enc Try.prog W 0 (fun _ => true) true Try.f5.params.toList args.toList ds p := hA0
  rw [Try.params5] at hA hval hsz
  obtain ⟨v0, vs0, d0, ds0, p0, q0, hargs, rfl, rfl, h0, r0⟩ := trodAll_cons hA
  obtain ⟨v1, vs1, d1, ds1, p1, q1, rfl, rfl, rfl, h1, r1⟩ := trodAll_cons r0
  obtain ⟨rfl, rfl, rfl⟩ := trodAll_nil r1
  obtain rfl : args = #[v0, v1] := by cases args; simp_all
  obtain ⟨rfl, rfl⟩ := trodVars_none hV
  obtain ⟨a0, rfl, rfl, rfl, w0⟩ := open_int Try.underlying3 (hval 0 3 v0 rfl rfl) h0
  have z0 := bounds_i64 w0
  obtain ⟨a1, len1, cap1, rfl⟩ := okWide_slice Try.underlying22 (hval 1 22 v1 rfl rfl)
  have k1 := h1
  have lt1 : ∀ x ∈ p1, x.block < W.heap.size := by obtain ⟨m, hm⟩ := k1; exact DataW.trod_lt m _ _ _ hm
  obtain ⟨l1, w1, z1⟩ : ∃ l, Row W .u8 (.slice a1 len1 cap1) l ∧ l.length ≤ 140737488351232 := by
    obtain ⟨fuel, hf⟩ := h1
    rcases open_ints Try.underlying22 Try.underlying5 (by kernel_rfl) hf with ⟨hcs, _⟩ | ⟨x, l, c, zs, hcs, _, hl, hm, hz, hx, hcell, hwz⟩
    · simp [Value.cells] at hcs
      obtain ⟨rfl, rfl, rfl⟩ := hcs
      exact ⟨[], (Own.nil 0 _ 0 _).row, by simp⟩
    · simp [Value.cells] at hcs
      obtain ⟨rfl, rfl, rfl⟩ := hcs
      simp only [if_true] at hz
      refine ⟨_, row_of_open hl hm hz hcell hwz, ?_⟩
      have hd : d1 = _ := congrArg Prod.fst hx
      have hs := sized_slice hsz (j := 1) rfl (by rw [hd]; rfl) Try.underlying22
      rw [bytes8] at hs
      simp only [lits, List.length_map, List.length_take, List.length_drop, reachBytes] at hs
      simp only [List.length_take]
      omega
  clear hA0 hval0 hsz0
  refine (lebBack_walk W a0 z0 (.slice a1 len1 cap1) l1 w1 z1).mono fun e W' ⟨he, bel⟩ => ?_
  subst he
  exact ⟨_, rfl, _, _, _, [], _, [], hW', trodAll_mk1 (shut_bool Try.underlying4 _), (trodAll_cons_mk (shut_int Try.underlying3 w0) (trodAll_cons_mk (Below.trod laidOut (by kernel_rfl) (of_decide_eq_true (by kernel_rfl)) k1 bel lt1) trodAll_mk0)), rfl, bel.frame _, fun h => by cases h⟩

theorem lebBack_over : Rows.lebBackRow.holds Try.pinned (OpenSpec.ofChange Rows.lebBackSpec) :=
  OpenClaim.holds_of_wide 5 Try.f5 rfl rfl rfl rfl rfl rfl rfl ⟨rfl, rfl, rfl, rfl, rfl⟩ rfl rfl rfl rfl rfl (by kernel_rfl) Try.func5 (by kernel_rfl)
    (of_decide_eq_true (by kernel_rfl)) (by unfold Func.isWrapper; first | (rw [if_pos (by decide +kernel)]; kernel_rfl) | (rw [if_neg (by decide +kernel)]; exact ⟨rfl, rfl⟩))
    (fun os started H enc _ => lebBack_lifted os started H enc)

/-- The statement. -/
theorem lebBack_proved : Rows.LebBackSaid := lebBack_over
#print axioms lebBack_proved
end Go.Proofs.Ytdjfdigaokokbaa
