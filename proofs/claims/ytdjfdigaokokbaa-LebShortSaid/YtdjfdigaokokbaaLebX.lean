/- The chapter's examples of layer 1 come out. -/
import Derived.Test.YtdjfdigaokokbaaLebW
namespace Go.Proofs.Ytdjfdigaokokbaa
open Go.RowKit
set_option linter.unusedVariables false

theorem fit_lit {l : List Int} (h : l.all (fun x => decide (0 ≤ x) && decide (x ≤ 255)) = true) : Fit .u8 l := by
  intro x hx
  have := List.all_eq_true.1 h x hx
  simp at this
  exact wf_u8 this.1 this.2
/-- A slice of bytes that was built in place. -/
theorem Row.lit (w : World) (g : Nat) (l : List Int) (h : l.all (fun x => decide (0 ≤ x) && decide (x ≤ 255)) = true) (hl : l.length ≤ 65536) (hg : g = w.heap.size) :
    Row (w.alloc (.cells (l.map (Value.int .u8)).toArray 5)) .u8 (.slice (some ⟨g, 0, none⟩) l.length l.length) l := by
  subst hg
  exact Row.built w .u8 _ l (fit_lit h) hl


set_option maxHeartbeats 4000000 in
theorem works_any (w : World) : Calls Try.prog 23 #[] w (RetB w true) := by
  have x0 := Ext.refl w
  go_enter Try.func23, Try.ntmps23
  go_wp2_with fail
  refine (Big_any (258) 2 _ (by omega) (by omega) (by omega) (by omega)).mono ?_
  rw [show bS (258) 2 = ([1, 2], 0) from by decide +kernel]
  rintro e w1 ⟨v1, rfl, ⟨b1, rfl, ho1⟩, he1⟩
  have x1 : Ext w w1 := x0.trans he1
  go_wp2_with fail
  refine (Big_any (-2) 2 _ (by omega) (by omega) (by omega) (by omega)).mono ?_
  rw [show bS (-2) 2 = ([255, 254], 0) from by decide +kernel]
  rintro e w2 ⟨v2, rfl, ⟨b2, rfl, ho2⟩, he2⟩
  have x2 : Ext w w2 := x1.trans he2
  go_wp2_with fail
  refine (Big_any (256) 1 _ (by omega) (by omega) (by omega) (by omega)).mono ?_
  rw [show bS (256) 1 = ([], 9) from by decide +kernel]
  rintro e w3 ⟨v3, rfl, ⟨b3, rfl, ho3⟩, he3⟩
  have x3 : Ext w w3 := x2.trans he3
  go_wp2_with fail
  refine (TakeBig_any _ [255, 254] 2 _ (by exact Row.lit _ _ [255, 254] (by decide) (by decide) (by simp)) (by decide) (by omega) (by omega)).mono ?_
  rw [show tB 7 3 [255, 254] 2 = (65534, [], 0) from by decide +kernel]
  rintro e w4 ⟨v4, rfl, ⟨b4, rfl, ho4⟩, he4⟩
  have x4 : Ext w w4 := (x3.alloc _).trans he4
  go_wp2_with fail
  refine (TakeBigS_any _ [255, 254] 2 _ (by exact Row.lit _ _ [255, 254] (by decide) (by decide) (by simp)) (by decide) (by omega) (by omega)).mono ?_
  rw [show tB 8 4 [255, 254] 2 = (-2, [], 0) from by decide +kernel]
  rintro e w5 ⟨v5, rfl, ⟨b5, rfl, ho5⟩, he5⟩
  have x5 : Ext w w5 := (x4.alloc _).trans he5
  go_wp2_with fail
  refine (TakeBig_any _ [255] 2 _ (by exact Row.lit _ _ [255] (by decide) (by decide) (by simp)) (by decide) (by omega) (by omega)).mono ?_
  rw [show tB 7 3 [255] 2 = (0, [], 3) from by decide +kernel]
  rintro e w6 ⟨v6, rfl, ⟨b6, rfl, ho6⟩, he6⟩
  have x6 : Ext w w6 := (x5.alloc _).trans he6
  go_wp2_with fail
  refine (eqBytes_any _ _ [1, 2] [1, 2] _ (by exact ho1.row.ext (((((he2.trans he3).trans ((Ext.refl _).alloc _ |>.trans he4)).trans ((Ext.refl _).alloc _ |>.trans he5)).trans ((Ext.refl _).alloc _ |>.trans he6)).alloc _)) (by exact Row.lit _ _ [1, 2] (by decide) (by decide) (by simp))).mono ?_
  rw [decide_eq_true rfl]
  rintro e w7 ⟨rfl, m7, rfl⟩
  have x7 := (x6.alloc (.cells ([1, 2].map (Value.int .u8)).toArray 5)).drewN m7
  go_wp2_with fail
  refine (eqBytes_any _ _ [255, 254] [255, 254] _ (by exact ho2.row.ext (((((((he3.trans ((Ext.refl _).alloc _ |>.trans he4)).trans ((Ext.refl _).alloc _ |>.trans he5)).trans ((Ext.refl _).alloc _ |>.trans he6)).alloc _).drewN _).alloc _))) (by exact Row.lit _ _ [255, 254] (by decide) (by decide) (by simp))).mono ?_
  rw [decide_eq_true rfl]
  rintro e w8 ⟨rfl, m8, rfl⟩
  have x8 := (x7.alloc (.cells ([255, 254].map (Value.int .u8)).toArray 5)).drewN m8
  go_wp2_with fail
  refine (plain_true (0) _ [0] _ (by exact Row.lit _ _ [0] (by decide) (by decide) (by simp)) (by decide) (by omega) (by decide +kernel) (by decide +kernel)).mono ?_
  rintro e w9 ⟨rfl, he9⟩
  have x9 : Ext w w9 := (x8.alloc _).trans he9
  go_wp2_with fail
  refine (plain_true (127) _ [127] _ (by exact Row.lit _ _ [127] (by decide) (by decide) (by simp)) (by decide) (by omega) (by decide +kernel) (by decide +kernel)).mono ?_
  rintro e w10 ⟨rfl, he10⟩
  have x10 : Ext w w10 := (x9.alloc _).trans he10
  go_wp2_with fail
  refine (plain_true (128) _ [128, 1] _ (by exact Row.lit _ _ [128, 1] (by decide) (by decide) (by simp)) (by decide) (by omega) (by decide +kernel) (by decide +kernel)).mono ?_
  rintro e w11 ⟨rfl, he11⟩
  have x11 : Ext w w11 := (x10.alloc _).trans he11
  go_wp2_with fail
  refine (fails_true 4 4 _ [128, 0] _ (by exact Row.lit _ _ [128, 0] (by decide) (by decide) (by simp)) (by decide) (by decide +kernel) (by decide +kernel)).mono ?_
  rintro e w12 ⟨rfl, he12⟩
  have x12 : Ext w w12 := (x11.alloc _).trans he12
  go_wp2_with fail
  refine (fails_true 3 3 _ [128] _ (by exact Row.lit _ _ [128] (by decide) (by decide) (by simp)) (by decide) (by decide +kernel) (by decide +kernel)).mono ?_
  rintro e w13 ⟨rfl, he13⟩
  have x13 : Ext w w13 := (x12.alloc _).trans he13
  go_wp2_with fail
  refine (short_true (0) _ [0] _ (by exact Row.lit _ _ [0] (by decide) (by decide) (by simp)) (by decide) (by omega) (by decide +kernel) (by decide +kernel)).mono ?_
  rintro e w14 ⟨rfl, he14⟩
  have x14 : Ext w w14 := (x13.alloc _).trans he14
  go_wp2_with fail
  refine (short_true (-1) _ [127] _ (by exact Row.lit _ _ [127] (by decide) (by decide) (by simp)) (by decide) (by omega) (by decide +kernel) (by decide +kernel)).mono ?_
  rintro e w15 ⟨rfl, he15⟩
  have x15 : Ext w w15 := (x14.alloc _).trans he15
  go_wp2_with fail
  refine (short_true (63) _ [63] _ (by exact Row.lit _ _ [63] (by decide) (by decide) (by simp)) (by decide) (by omega) (by decide +kernel) (by decide +kernel)).mono ?_
  rintro e w16 ⟨rfl, he16⟩
  have x16 : Ext w w16 := (x15.alloc _).trans he16
  go_wp2_with fail
  refine (short_true (64) _ [192, 0] _ (by exact Row.lit _ _ [192, 0] (by decide) (by decide) (by simp)) (by decide) (by omega) (by decide +kernel) (by decide +kernel)).mono ?_
  rintro e w17 ⟨rfl, he17⟩
  have x17 : Ext w w17 := (x16.alloc _).trans he17
  go_wp2_with fail
  refine (short_true (-64) _ [64] _ (by exact Row.lit _ _ [64] (by decide) (by decide) (by simp)) (by decide) (by omega) (by decide +kernel) (by decide +kernel)).mono ?_
  rintro e w18 ⟨rfl, he18⟩
  have x18 : Ext w w18 := (x17.alloc _).trans he18
  go_wp2_with fail
  refine (short_true (-65) _ [191, 127] _ (by exact Row.lit _ _ [191, 127] (by decide) (by decide) (by simp)) (by decide) (by omega) (by decide +kernel) (by decide +kernel)).mono ?_
  rintro e w19 ⟨rfl, he19⟩
  have x19 : Ext w w19 := (x18.alloc _).trans he19
  go_wp2_with fail
  refine (fails_true 4 4 _ [255, 128, 0] _ (by exact Row.lit _ _ [255, 128, 0] (by decide) (by decide) (by simp)) (by decide) (by decide +kernel) (by decide +kernel)).mono ?_
  rintro e w20 ⟨rfl, he20⟩
  have x20 : Ext w w20 := (x19.alloc _).trans he20
  go_wp2_with fail
  go_ret
  exact ⟨rfl, x20⟩
end Go.Proofs.Ytdjfdigaokokbaa
