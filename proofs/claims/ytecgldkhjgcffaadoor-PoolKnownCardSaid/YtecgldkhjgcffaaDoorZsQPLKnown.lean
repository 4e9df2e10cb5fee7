/- PoolKnown: both ends, what is refused, and which error comes first; the row's two tables are as the library's text lays them. -/
import Derived.Test.YtecgldkhjgcffaaDoorZsL
import Derived.Test.YtecgldkhjgcffaaDoorZsX
import Derived.Test.YtecgldkhjgcffaaDoorZsKB
namespace Go.Proofs.YtecgldkhjgcffaaDoor
open Go.ChangeShapes Go.WideShapes Go.ChangeAt Go.RowKit
open Go.ChangeMaps (open_string shut_string)
set_option linter.unusedVariables false
set_option maxRecDepth 100000 in
set_option maxHeartbeats 20000000 in
theorem poolKnown_walk (w : World) (hT : Tabs w) : Calls Tryd.prog 10 #[] w (RetB w true) := by
  go_enter Tryd.func10, Tryd.ntmps10
  go_wp2
  go_loopw [1, 2] (fun v i wr => ∃ k : Nat, i = .int .i64 k ∧ k ≤ 4096 ∧ OwnC w.heap.size wr 44 v (longG k) ∧ Ext w wr) (fun _ i _ => 4096 - (intOf i).toNat)
  case atStart => exact ⟨0, rfl, by omega, by rw [show longG 0 = [] from rfl]; exact OwnC.nil _ _ _, Ext.refl _⟩
  case round =>
    obtain ⟨k, rfl, hk, ho, x0⟩ := hrel
    have HO := Lib.hid ho
    by_cases hlt : k < 4096
    · clear ho
      go_wp2_with (at_builtin; go_loud (refine wpList_appC _ rfl _ _ w.heap.size 24 44 _ 56 rfl Tryd.underlying24 infoC rfl (by omega) _ (longG k) rfl (HO.out.ext ((Ext.refl _).alloc _)) _ [⟨2, .empty, (k : Int), 0, 0, 0⟩] rfl (RowC.one (T := 44) (heap_alloc_new _ _) ⟨⟨by simp, by simp⟩, ⟨by simp only; omega, by simp only; omega⟩, i64_zero, i64_zero, i64_zero⟩) (by rw [longG_len]; simp; omega) (by have := x0.size; simp; omega) ?_); intro v3 w3 ho3 hg3 hb3)
      go_roundw
      case rel => exact ⟨k + 1, by go_num, by omega, by rw [longG_next]; exact ho3, (x0.alloc _).grown hg3 HO.out.low⟩
      case measure => simp [intOf]; omega
    · have hk4 : k = 4096 := by omega
      subst hk4
      obtain ⟨g, cc, rfl, hgB, hgc⟩ : ∃ g cc, _ = Value.slice (some ⟨g, 0, none⟩) 4096 cc ∧ w.heap.size ≤ g ∧ 4096 ≤ cc ∧ cc ≤ maxLen := by
        rcases ho.1.2 with ⟨_, h0⟩ | ⟨g, cap, cur, hv, hb, hg, hn, hm, _⟩
        · rw [longG_len] at h0
          omega
        · rw [longG_len] at hv hn
          exact ⟨g, cap, hv, hb, hn, hm⟩
      obtain ⟨hcc1, hcc2⟩ := hgc
      unfold maxLen at hcc2
      obtain ⟨A9, c9, hv9, -, -, -, -, hat9⟩ := ho.row
      obtain ⟨b9, o9, hA9, hb9, hc9⟩ := hat9 (by rw [longG_len]; omega)
      injection hv9 with e9 e10 e11
      clear e10 e11
      rw [← e9] at hA9
      clear e9
      injection hA9 with hA9
      injection hA9 with e1 e2
      subst e1 e2
      obtain ⟨a0, a1, a2, a3, a4, a5⟩ := hc9 0 (by rw [longG_len]; omega)
      simp only [Nat.zero_mul, Nat.add_zero, Nat.zero_add] at a0 a1 a2 a3 a4 a5
      have fz : ∀ j, wr.frozen? ⟨g, j, none⟩ = false := fun j => by
        rcases ho.1.2 with ⟨h0, _⟩ | ⟨g', cap, cur, hv, _, hg, _⟩
        · cases h0
        · injection hv with e1 _ _
          injection e1 with e1
          injection e1 with e1 _
          subst e1
          simp [World.frozen?, hg]
      have H6 : Hid (OwnC w.heap.size ((((((wr.setCell ⟨g, 0, none⟩ (.int .i64 0)).setCell ⟨g, 1, none⟩ (.string ⟨#[]⟩)).setCell ⟨g, 2, none⟩ (.int .i64 0)).setCell ⟨g, 3, none⟩ (.int .i64 0)).setCell ⟨g, 4, none⟩ (.int .i64 0)).setCell ⟨g, 5, none⟩ (.int .i64 0)) 44 (.slice (some ⟨g, 0, none⟩) 4096 cc) longL) := HO.out.put0 (by rw [longG_len]; omega) c0 c0_ok
      have X6 : Hid (Ext w ((((((wr.setCell ⟨g, 0, none⟩ (.int .i64 0)).setCell ⟨g, 1, none⟩ (.string ⟨#[]⟩)).setCell ⟨g, 2, none⟩ (.int .i64 0)).setCell ⟨g, 3, none⟩ (.int .i64 0)).setCell ⟨g, 4, none⟩ (.int .i64 0)).setCell ⟨g, 5, none⟩ (.int .i64 0))) :=
        (((((x0.set_ (p := ⟨g, 0, none⟩) hgB _).set_ (p := ⟨g, 1, none⟩) hgB _).set_ (p := ⟨g, 2, none⟩) hgB _).set_ (p := ⟨g, 3, none⟩) hgB _).set_ (p := ⟨g, 4, none⟩) hgB _).set_ (p := ⟨g, 5, none⟩) hgB _
      have hzs : ((((((wr.setCell ⟨g, 0, none⟩ (.int .i64 0)).setCell ⟨g, 1, none⟩ (.string ⟨#[]⟩)).setCell ⟨g, 2, none⟩ (.int .i64 0)).setCell ⟨g, 3, none⟩ (.int .i64 0)).setCell ⟨g, 4, none⟩ (.int .i64 0)).setCell ⟨g, 5, none⟩ (.int .i64 0)).heap.size = wr.heap.size := by simp [World.setCell]
      have HZS := Lib.hid hzs
      clear HO ho hc9 hat9 hzs
      go_wp2_with fail

      refine (is_lit _ _ ([⟨0, .empty, 0, 0, 0, 0⟩, ⟨1, .empty, 0, 0, 0, 0⟩, ⟨1, ⟨#[0, 240, 159, 152, 128]⟩, 0, 0, 0, 0⟩, ⟨4, .empty, 0, 1, 0, 0⟩, ⟨6, .empty, 0, 3, 2, 1⟩, ⟨5, .empty, 0, 3, 1, 1⟩] : List Cst) [6, 1, 0, 1, 8, 192, 128, 237, 160, 189, 237, 184, 128, 4, 1, 6, 3, 2, 1, 5, 3, 1, 1] _ (by exact hT.ext ((X6.out.alloc _).alloc _)) (by exact RowC.litA2 _ _ _ rfl (by exact HZS.out.symm) (ok_of (by decide +kernel)) (by decide) (by decide)) (by exact Row.litZ _ [6, 1, 0, 1, 8, 192, 128, 237, 160, 189, 237, 184, 128, 4, 1, 6, 3, 2, 1, 5, 3, 1, 1] (by simp) (fit_dec (by decide)) (by decide)) (by decide +kernel) (by decide +kernel) (by decide +kernel) (by decide +kernel) (by decide)).mono ?_
      rintro e w2 ⟨rfl, e2⟩
      have x2 := ((X6.out.alloc _).alloc _).trans e2
      have HL2 := Lib.hid (H6.out.ext ((((Ext.refl _).alloc _).alloc _).trans e2))
      clear e2 a0 a1 a2 a3 a4 a5 fz
      go_wp2_with fail
      refine (is_lit _ _ ([⟨0, .empty, 0, 0, 0, 0⟩] : List Cst) [1] _ (by exact hT.ext ((x2.alloc _).alloc _)) (by exact RowC.litA2 _ _ _ rfl rfl (ok_of (by decide +kernel)) (by decide) (by decide)) (by exact Row.litZ _ [1] (by simp) (fit_dec (by decide)) (by decide)) (by decide +kernel) (by decide +kernel) (by decide +kernel) (by decide +kernel) (by decide)).mono ?_
      rintro e w3 ⟨rfl, e3⟩
      have x3 := ((x2.alloc _).alloc _).trans e3
      have y3 := (((Ext.refl w2).alloc _).alloc _).trans e3
      go_wp2_with fail
      refine (Check_any _ longL _ (by exact HL2.out.row.ext y3) (by exact hT.ext x3) longL_texts).mono ?_
      rw [longL_check]
      rintro e w4 ⟨rfl, e4⟩
      have x4 := x3.trans e4
      have y4 := y3.trans e4
      go_wp2_with fail
      refine (poolBack_walk _ (by exact hT.ext x4) _ longL (by exact HL2.out.row.ext y4) longL_tot _ [] (by exact (Own.nil 0 _ 5 .u8).row) (by simp)).mono ?_
      rintro e w5 ⟨rfl, e5⟩
      have x5 := x4.trans e5
      have HL5 := Lib.hid (HL2.out.ext (y4.trans e5))
      clear HL2 H6 X6 HZS x2 x3 x4 y3 y4 e3 e4 e5
      go_wp2_with fail
      go_loopw [5] (fun i wq => ∃ k : Nat, i = .int .i64 k ∧ k ≤ 18 ∧ BadAt wq (w5.heap.size + 1 + 1 + 1 + 1 + 1 + 1 + 1 + 1 + 1 + 1 + 1 + 1 + 1 + 1 + 1 + 1 + 1) ∧ Ext w5 wq) (fun i _ => 18 - (intOf i).toNat)
      case atStart => exact ⟨0, rfl, by omega, by exact badAt_of w5, by exact (lays_ext arrs w5).alloc _⟩
      case round =>
        obtain ⟨k, rfl, hk8, HB, q0⟩ := hrel
        by_cases hlt8 : k < 18
        · obtain ⟨A8, n8, c8, hcell, hrow⟩ := HB k hlt8
          obtain ⟨hck, htx⟩ := bad_all k hlt8
          have hgl := World.block_lt_of_cell? _ _ hcell
          have HB2 := Lib.hid HB
          have HCK := Lib.hid hck
          obtain ⟨l8, hl8⟩ : ∃ l8, badG k = l8 := ⟨_, rfl⟩
          rw [hl8] at hrow htx HCK
          obtain ⟨A7, c7, hv7, hn7, hm7, -, -, -⟩ := id hrow
          injection hv7 with e7 e8 e9
          subst e7 e8 e9
          unfold maxLen at hm7
          clear HB hck hl8
          go_wp2_with fail
          refine (Bytes_any _ l8 _ (by exact hrow) (by exact hT.ext (x5.trans q0)) htx (fun h => absurd (HCK.out.symm.trans h) (by decide))).mono ?_
          rintro e w6 ⟨u6, rfl, ⟨hn, _⟩ | ⟨_, rfl⟩, e6⟩
          · exact absurd (HCK.out.symm.trans hn) (by decide)
          rw [HCK.out]
          have hc6 := (e6.cell (p := ⟨w5.heap.size + 1 + 1 + 1 + 1 + 1 + 1 + 1 + 1 + 1 + 1 + 1 + 1 + 1 + 1 + 1 + 1 + 1, k, none⟩) hgl).trans hcell
          go_wp2_with fail
          refine (Check_any _ l8 _ (by exact hrow.ext e6) (by exact hT.ext ((x5.trans q0).trans e6)) htx).mono ?_
          rw [HCK.out]
          rintro e w7 ⟨rfl, e7⟩
          go_wp2
          go_roundw
          case rel => exact ⟨k + 1, by go_num, by omega, HB2.out.ext (e6.trans e7) hgl, q0.trans (e6.trans e7)⟩
          case measure => simp [intOf]; omega
        · have hk18 : k = 18 := by omega
          subst hk18
          have x9 := x5.trans q0
          have y9 := q0
          clear HB

          go_wp2_with fail
          refine (fails_lit 3 _ [] _ (by exact hT.ext x9) (by exact (Own.nil 0 _ 5 .u8).row) (by decide) (by decide +kernel) (by decide)).mono ?_
          rintro e w10 ⟨rfl, e10⟩
          have x10 := x9.trans e10
          have y10 := y9.trans e10
          go_wp2_with fail
          refine (fails_lit 3 _ [2] _ (by exact hT.ext (x10.alloc _)) (by exact Row.litZ _ [2] (by simp) (fit_dec (by decide)) (by decide)) (by decide) (by decide +kernel) (by decide)).mono ?_
          rintro e w11 ⟨rfl, e11⟩
          have x11 := (x10.alloc (.cells (([2] : List Int).map (Value.int .u8)).toArray 5)).trans e11
          have y11 := (y10.alloc (.cells (([2] : List Int).map (Value.int .u8)).toArray 5)).trans e11
          go_wp2_with fail
          refine (fails_lit 3 _ [2, 1] _ (by exact hT.ext (x11.alloc _)) (by exact Row.litZ _ [2, 1] (by simp) (fit_dec (by decide)) (by decide)) (by decide) (by decide +kernel) (by decide)).mono ?_
          rintro e w12 ⟨rfl, e12⟩
          have x12 := (x11.alloc (.cells (([2, 1] : List Int).map (Value.int .u8)).toArray 5)).trans e12
          have y12 := (y11.alloc (.cells (([2, 1] : List Int).map (Value.int .u8)).toArray 5)).trans e12
          go_wp2_with fail
          refine (fails_lit 3 _ [2, 1, 1] _ (by exact hT.ext (x12.alloc _)) (by exact Row.litZ _ [2, 1, 1] (by simp) (fit_dec (by decide)) (by decide)) (by decide) (by decide +kernel) (by decide)).mono ?_
          rintro e w13 ⟨rfl, e13⟩
          have x13 := (x12.alloc (.cells (([2, 1, 1] : List Int).map (Value.int .u8)).toArray 5)).trans e13
          have y13 := (y12.alloc (.cells (([2, 1, 1] : List Int).map (Value.int .u8)).toArray 5)).trans e13
          go_wp2_with fail
          refine (fails_lit 3 _ [2, 5, 1, 1] _ (by exact hT.ext (x13.alloc _)) (by exact Row.litZ _ [2, 5, 1, 1] (by simp) (fit_dec (by decide)) (by decide)) (by decide) (by decide +kernel) (by decide)).mono ?_
          rintro e w14 ⟨rfl, e14⟩
          have x14 := (x13.alloc (.cells (([2, 5, 1, 1] : List Int).map (Value.int .u8)).toArray 5)).trans e14
          have y14 := (y13.alloc (.cells (([2, 5, 1, 1] : List Int).map (Value.int .u8)).toArray 5)).trans e14
          go_wp2_with fail
          refine (fails_lit 4 _ [128, 0] _ (by exact hT.ext (x14.alloc _)) (by exact Row.litZ _ [128, 0] (by simp) (fit_dec (by decide)) (by decide)) (by decide) (by decide +kernel) (by decide)).mono ?_
          rintro e w15 ⟨rfl, e15⟩
          have x15 := (x14.alloc (.cells (([128, 0] : List Int).map (Value.int .u8)).toArray 5)).trans e15
          have y15 := (y14.alloc (.cells (([128, 0] : List Int).map (Value.int .u8)).toArray 5)).trans e15
          go_wp2_with fail
          refine (fails_lit 4 _ [2, 1, 128, 0] _ (by exact hT.ext (x15.alloc _)) (by exact Row.litZ _ [2, 1, 128, 0] (by simp) (fit_dec (by decide)) (by decide)) (by decide) (by decide +kernel) (by decide)).mono ?_
          rintro e w16 ⟨rfl, e16⟩
          have x16 := (x15.alloc (.cells (([2, 1, 128, 0] : List Int).map (Value.int .u8)).toArray 5)).trans e16
          have y16 := (y15.alloc (.cells (([2, 1, 128, 0] : List Int).map (Value.int .u8)).toArray 5)).trans e16
          go_wp2_with fail
          refine (fails_lit 4 _ [2, 2, 255, 127] _ (by exact hT.ext (x16.alloc _)) (by exact Row.litZ _ [2, 2, 255, 127] (by simp) (fit_dec (by decide)) (by decide)) (by decide) (by decide +kernel) (by decide)).mono ?_
          rintro e w17 ⟨rfl, e17⟩
          have x17 := (x16.alloc (.cells (([2, 2, 255, 127] : List Int).map (Value.int .u8)).toArray 5)).trans e17
          have y17 := (y16.alloc (.cells (([2, 2, 255, 127] : List Int).map (Value.int .u8)).toArray 5)).trans e17
          go_wp2_with fail
          refine (fails_lit 4 _ [2, 0] _ (by exact hT.ext (x17.alloc _)) (by exact Row.litZ _ [2, 0] (by simp) (fit_dec (by decide)) (by decide)) (by decide) (by decide +kernel) (by decide)).mono ?_
          rintro e w18 ⟨rfl, e18⟩
          have x18 := (x17.alloc (.cells (([2, 0] : List Int).map (Value.int .u8)).toArray 5)).trans e18
          have y18 := (y17.alloc (.cells (([2, 0] : List Int).map (Value.int .u8)).toArray 5)).trans e18
          go_wp2_with fail
          refine (fails_lit 5 _ [129, 32] _ (by exact hT.ext (x18.alloc _)) (by exact Row.litZ _ [129, 32] (by simp) (fit_dec (by decide)) (by decide)) (by decide) (by decide +kernel) (by decide)).mono ?_
          rintro e w19 ⟨rfl, e19⟩
          have x19 := (x18.alloc (.cells (([129, 32] : List Int).map (Value.int .u8)).toArray 5)).trans e19
          have y19 := (y18.alloc (.cells (([129, 32] : List Int).map (Value.int .u8)).toArray 5)).trans e19
          go_wp2_with fail
          refine (fails_lit 3 _ [128, 32] _ (by exact hT.ext (x19.alloc _)) (by exact Row.litZ _ [128, 32] (by simp) (fit_dec (by decide)) (by decide)) (by decide) (by decide +kernel) (by decide)).mono ?_
          rintro e w20 ⟨rfl, e20⟩
          have x20 := (x19.alloc (.cells (([128, 32] : List Int).map (Value.int .u8)).toArray 5)).trans e20
          have y20 := (y19.alloc (.cells (([128, 32] : List Int).map (Value.int .u8)).toArray 5)).trans e20
          go_wp2_with fail
          refine (fails_lit 20 _ [2, 1, 1, 0] _ (by exact hT.ext (x20.alloc _)) (by exact Row.litZ _ [2, 1, 1, 0] (by simp) (fit_dec (by decide)) (by decide)) (by decide) (by decide +kernel) (by decide)).mono ?_
          rintro e w21 ⟨rfl, e21⟩
          have x21 := (x20.alloc (.cells (([2, 1, 1, 0] : List Int).map (Value.int .u8)).toArray 5)).trans e21
          have y21 := (y20.alloc (.cells (([2, 1, 1, 0] : List Int).map (Value.int .u8)).toArray 5)).trans e21
          go_wp2_with fail
          refine (fails_lit 40 _ [2, 2, 128, 128, 128, 128, 8] _ (by exact hT.ext (x21.alloc _)) (by exact Row.litZ _ [2, 2, 128, 128, 128, 128, 8] (by simp) (fit_dec (by decide)) (by decide)) (by decide) (by decide +kernel) (by decide)).mono ?_
          rintro e w22 ⟨rfl, e22⟩
          have x22 := (x21.alloc (.cells (([2, 2, 128, 128, 128, 128, 8] : List Int).map (Value.int .u8)).toArray 5)).trans e22
          have y22 := (y21.alloc (.cells (([2, 2, 128, 128, 128, 128, 8] : List Int).map (Value.int .u8)).toArray 5)).trans e22
          go_wp2_with fail
          refine (fails_lit 20 _ [3, 1, 1, 0, 9] _ (by exact hT.ext (x22.alloc _)) (by exact Row.litZ _ [3, 1, 1, 0, 9] (by simp) (fit_dec (by decide)) (by decide)) (by decide) (by decide +kernel) (by decide)).mono ?_
          rintro e w23 ⟨rfl, e23⟩
          have x23 := (x22.alloc (.cells (([3, 1, 1, 0, 9] : List Int).map (Value.int .u8)).toArray 5)).trans e23
          have y23 := (y22.alloc (.cells (([3, 1, 1, 0, 9] : List Int).map (Value.int .u8)).toArray 5)).trans e23
          go_wp2_with fail
          refine (Num_any _ longL 5 3 _ (by exact HL5.out.row.ext y23) ⟨by decide, by decide⟩ ⟨by decide, by decide⟩ longL_zk).mono ?_
          rw [long_num 3 (by decide)]
          rintro e w24 ⟨rfl, e24⟩
          have x24 := x23.trans e24
          have y24 := y23.trans e24
          go_wp2_with fail
          refine (Num_any _ longL 5 1 _ (by exact HL5.out.row.ext y24) ⟨by decide, by decide⟩ ⟨by decide, by decide⟩ longL_zk).mono ?_
          rw [long_num 1 (by decide)]
          rintro e w25 ⟨rfl, e25⟩
          have x25 := x24.trans e25
          have y25 := y24.trans e25
          go_wp2_with fail
          refine (Num_any _ longL 5 2 _ (by exact HL5.out.row.ext y25) ⟨by decide, by decide⟩ ⟨by decide, by decide⟩ longL_zk).mono ?_
          rw [long_num2]
          rintro e w26 ⟨rfl, e26⟩
          have x26 := x25.trans e26
          have y26 := y25.trans e26
          go_wp2_with fail
          refine (Ref_any _ longL 5 2 _ (by exact HL5.out.row.ext y26) ⟨by decide, by decide⟩ ⟨by decide, by decide⟩ longL_zk longL_texts).mono ?_
          rw [long_ref]
          rintro e w27 ⟨rfl, e27⟩
          have x27 := x26.trans e27
          have y27 := y26.trans e27
          go_wp2_with fail
          refine (ClassName_any _ ([⟨0, .empty, 0, 0, 0, 0⟩, ⟨4, .empty, 0, 1, 0, 0⟩] : List Cst) 1 _ (by exact RowC.litA _ 2 _ _ rfl rfl (ok_of (by decide +kernel)) (by decide) (by decide)) ⟨by decide, by decide⟩ rfl (texts_of (by decide +kernel))).mono ?_
          rw [show tClass [⟨0, .empty, 0, 0, 0, 0⟩, ⟨4, .empty, 0, 1, 0, 0⟩] 1 = (.empty, 40) from by decide +kernel]
          rintro e w28 ⟨rfl, e28⟩
          have x28 := (x27.alloc (.cells #[.int .i64 0, .string ⟨#[]⟩, .int .i64 0, .int .i64 0, .int .i64 0, .int .i64 0, .int .i64 4, .string ⟨#[]⟩, .int .i64 0, .int .i64 1, .int .i64 0, .int .i64 0] 44)).trans e28
          have y28 := (y27.alloc (.cells #[.int .i64 0, .string ⟨#[]⟩, .int .i64 0, .int .i64 0, .int .i64 0, .int .i64 0, .int .i64 4, .string ⟨#[]⟩, .int .i64 0, .int .i64 1, .int .i64 0, .int .i64 0] 44)).trans e28
          go_wp2_with fail
          refine (Ref_any _ ([⟨0, .empty, 0, 0, 0, 0⟩, ⟨5, .empty, 0, 1, 1, 1⟩] : List Cst) 1 5 _ (by exact RowC.litA _ 2 _ _ rfl rfl (ok_of (by decide +kernel)) (by decide) (by decide)) ⟨by decide, by decide⟩ ⟨by decide, by decide⟩ rfl (texts_of (by decide +kernel))).mono ?_
          rw [show tRef [⟨0, .empty, 0, 0, 0, 0⟩, ⟨5, .empty, 0, 1, 1, 1⟩] 1 5 = (.empty, .empty, .empty, 40) from by decide +kernel]
          rintro e w29 ⟨rfl, e29⟩
          have x29 := (x28.alloc (.cells #[.int .i64 0, .string ⟨#[]⟩, .int .i64 0, .int .i64 0, .int .i64 0, .int .i64 0, .int .i64 5, .string ⟨#[]⟩, .int .i64 0, .int .i64 1, .int .i64 1, .int .i64 1] 44)).trans e29
          have y29 := (y28.alloc (.cells #[.int .i64 0, .string ⟨#[]⟩, .int .i64 0, .int .i64 0, .int .i64 0, .int .i64 0, .int .i64 5, .string ⟨#[]⟩, .int .i64 0, .int .i64 1, .int .i64 1, .int .i64 1] 44)).trans e29
          go_wp2_with fail
          refine (Text_any _ [] (-1) _ (by exact RowC.nil _) ⟨by decide, by decide⟩ rfl Texts.nil).mono ?_
          rw [show tText [] (-1) = (.empty, 40) from by decide +kernel]
          rintro e w30 ⟨rfl, e30⟩
          have x30 := x29.trans e30
          have y30 := y29.trans e30
          go_wp2_with fail
          refine (works_any _ (by exact hT.ext x30)).mono ?_
          rintro e w31 ⟨rfl, e31⟩
          have x31 := x30.trans e31
          have y31 := y30.trans e31
          have HL9 := Lib.hid (HL5.out.ext y31)
          have hs9 := x31.size
          go_wp2_with (at_builtin; go_loud (refine wpList_appC _ rfl _ _ w.heap.size 24 44 _ 56 rfl Tryd.underlying24 infoC rfl (by omega) _ longL rfl (HL9.out.ext ((Ext.refl _).alloc _)) _ [⟨1, .empty, 0, 0, 0, 0⟩] rfl (RowC.one (T := 44) (heap_alloc_new _ _) (ok_of (by decide +kernel) _ (List.mem_singleton.2 rfl))) (by rw [longL_len]; simp) (by simp; omega) ?_); intro v40 w40 ho40 hg40 hb40)
          have x40 := (x31.alloc _).grown hg40 HL9.out.low
          have hb : checkC (longL ++ [⟨1, .empty, 0, 0, 0, 0⟩]) = 5 := checkC_big (by rw [List.length_append, longL_len]; simp)
          go_wp2_with fail
          refine (Check_any _ (longL ++ [⟨1, .empty, 0, 0, 0, 0⟩]) _ (by exact ho40.row) (by exact hT.ext x40) longL_more).mono ?_
          rw [hb]
          rintro e w41 ⟨rfl, e41⟩
          go_wp2
          go_ret
          exact ⟨rfl, x40.trans e41⟩
theorem poolKnown_fits (os : Os) {H : Type} (enc : TypeId × Value → H) :
    (OpenSpec.ofChange Rows.poolKnownSpec).preRow enc Tryd.prog Tryd.f10 Rows.poolKnownRow.domain false Rows.poolKnownRow.laid ((laidWorld os).forCall (fun _ _ => 0) ⟨#[], #[], []⟩).memory #[] := by
  have hw : (DataW.whole enc Tryd.prog ((laidWorld os).forCall (fun _ _ => 0) ⟨#[], #[], []⟩).memory Tryd.f10.params.toList Rows.poolKnownSpec.vars false (#[] : Array Value).toList 8).map (fun x => (x.1, x.2.1)) = some ([], []) := by kernel_rfl
  obtain ⟨⟨x1, x2, x3⟩, hx, hx1⟩ := Option.map_eq_some_iff.1 hw
  simp only [Prod.mk.injEq] at hx1
  obtain ⟨rfl, rfl⟩ := hx1
  exact OpenSpec.preRow_of_cond 8 hx (by kernel_rfl) (fun k hk => by cases hk) (by kernel_rfl) (laid_met os _)

set_option maxRecDepth 100000 in
set_option maxHeartbeats 2000000 in
theorem poolKnown_lifted (os : Os) (started : os.Started) (H : Type) (enc : TypeId × Value → H) (F : Stop.Interp) :
    ReturnsInHanded {} Tryd.checked os 10 .any ((OpenSpec.ofChange Rows.poolKnownSpec).preRow enc Tryd.prog Tryd.f10 Rows.poolKnownRow.domain false Rows.poolKnownRow.laid) (((OpenSpec.ofChange Rows.poolKnownSpec).at F).post enc Tryd.prog Tryd.f10 false true false false) := by
  refine returnsInHanded_of_row (C := Tryd.checked) (s := (OpenSpec.ofChange Rows.poolKnownSpec)) own started (by kernel_rfl) Tryd.func10
    (witness_row_atRef (enc := enc) (C := Tryd.checked) false (laidWorld os) #[] rfl (by kernel_rfl) (by kernel_rfl) (by kernel_rfl) (poolKnown_fits os enc)) ?_
  intro W base args ds gs before hval0 hW _ hcond hsz0 hL _ _
  have hT : Tabs W := tabs_of hL
  have hval : ∀ (j : Nat) t v, Tryd.f10.params[j]? = some t → args[j]? = some v → Value.okWide Tryd.prog W .any base t v := hval0
  have hsz : (DataW.weightsEach Tryd.prog (Tryd.f10.params.toList ++ Rows.poolKnownSpec.plain.varTypes Tryd.prog) (ds ++ gs)).all (· ≤ reachBytes) = true := hsz0
  have hW' := hW
  obtain ⟨p, q, hA0, hV, rfl, hfz, hnd⟩ := hW
  have hA : DataW.TrodAll enc Tryd.prog W 0 (fun _ => true) true Tryd.f10.params.toList args.toList ds p := hA0
  rw [Tryd.params10] at hA hval hsz
  obtain ⟨rfl, rfl, rfl⟩ := trodAll_none hA
  obtain ⟨rfl, rfl⟩ := trodVars_none hV
  clear hA0 hval0 hsz0 hcond
  refine (poolKnown_walk W hT ).mono fun e W' ⟨he, bel⟩ => ?_
  subst he
  exact ⟨_, rfl, _, _, _, [], _, [], hW', trodAll_mk1 (shut_bool Tryd.underlying4 _), trodAll_mk0, rfl, bel.frame _, fun h => by cases h⟩

theorem poolKnown_over : Rows.PoolKnownSaid :=
  OpenClaim.holds_of_cond 10 Tryd.f10 rfl rfl rfl rfl rfl rfl rfl ⟨rfl, rfl, rfl, rfl, rfl⟩ rfl rfl rfl rfl rfl (by kernel_rfl) Tryd.func10 (by kernel_rfl)
    (of_decide_eq_true (by kernel_rfl)) (by unfold Func.isWrapper; first | (rw [if_pos (by decide +kernel)]; kernel_rfl) | (rw [if_neg (by decide +kernel)]; exact ⟨rfl, rfl⟩))
    (fun os started H enc _ F => by rw [OpenClaim.pre_eq_preRow]; exact poolKnown_lifted os started H enc F)
theorem poolKnown_plain (f : FuncId) (fn : Func) (hf : Tryd.pinned.checked.prog.funcNamed "warpbeam/warpbeamlaw04.PoolKnown" = some f) (hfn : Tryd.pinned.checked.prog.funcs[f]? = some fn) :
    false = Tryd.pinned.checked.prog.looks [] ∧ ∀ (j : Nat) t, fn.params[j]? = some t → Tryd.pinned.checked.prog.wantsStandIn t = false := by
  obtain rfl : f = 10 := Option.some.inj ((show Tryd.prog.funcNamed "warpbeam/warpbeamlaw04.PoolKnown" = some 10 by kernel_rfl).symm.trans hf) |>.symm
  obtain rfl : fn = Tryd.f10 := (Option.some.inj (Tryd.func10.symm.trans hfn)).symm
  refine ⟨by kernel_rfl, fun j t ht => ?_⟩
  rw [Tryd.params10] at ht
  simp at ht

/-- The statement. -/
theorem poolKnown_proved : Rows.PoolKnownCardSaid :=
  Claim7.holds_tied_plain_at .later [] _ _ _ _ poolKnown_over (fun _ h => by cases h) (by kernel_rfl) (fun _ h => by cases h) poolKnown_row_tie rfl ⟨rfl, rfl⟩ (by kernel_rfl) rfl poolKnown_plain (by kernel_rfl)
#print axioms poolKnown_proved
end Go.Proofs.YtecgldkhjgcffaaDoor
