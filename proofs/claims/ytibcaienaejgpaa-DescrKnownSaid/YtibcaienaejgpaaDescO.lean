/- The project's own text of a type, walked. -/
import Derived.Test.YtibcaienaejgpaaDescN
namespace Go.Proofs.Ytibcaienaejgpaa
open Go.RowKit
set_option linter.unusedVariables false

set_option maxHeartbeats 8000000 in
theorem written_lo (t : Ty) (w : World) (hl : t.s.length ≤ 140737488351232) (hlo : ¬ (t.k = 4 ∨ t.k = 5 ∨ t.k = 6)) :
    Calls Try.prog 50 #[.agg t.vals] w fun e w' => e = .returned (.string (bs (textT t))) ∧ Ext w w' := by
  obtain ⟨k, s⟩ := t
  have hsl : s.length ≤ 140737488351232 := hl
  have hsz : (bs s).size = s.length := rfl
  rcases kinds k with rfl | rfl | rfl | rfl | rfl | rfl | ⟨n1, n2, n3, n4, n5, n6, n7⟩
  · rw [textT_1]
    have hc := fun W => Elem_any ⟨1, s⟩ W hl
    rw [elemT_1] at hc
    unfold Ty.vals at hc
    have HC := Lib.hid hc
    clear hc
    clear hlo
    unfold Ty.vals
    go_enter Try.func50, Try.ntmps50
    go_wp2_with fail
    refine (HC.out _).mono ?_
    rintro e w1 ⟨rfl, x1⟩
    have X1 := Lib.hid (((Ext.refl w).alloc _).trans x1)
    have hk := x1.block w.heap.size (by simp)
    have a0 := x1.cell (p := ⟨w.heap.size, 0, none⟩) (by simp)
    have a1 := x1.cell (p := ⟨w.heap.size, 1, none⟩) (by simp)
    rw [cell_of_row _ _ _ _ _ _ (heap_alloc_new w _)] at a0 a1
    simp at a0 a1
    have hlt : w.heap.size < w1.heap.size := by have := x1.size; simp at this; omega
    clear x1 hk
    go_wp2
    go_ret
    exact ⟨rfl, X1.out.alloc _⟩
  · rw [textT_2]
    have hc := fun W => Elem_any ⟨2, s⟩ W hl
    rw [elemT_2] at hc
    unfold Ty.vals at hc
    have HC := Lib.hid hc
    clear hc
    clear hlo
    unfold Ty.vals
    go_enter Try.func50, Try.ntmps50
    go_wp2_with fail
    refine (HC.out _).mono ?_
    rintro e w1 ⟨rfl, x1⟩
    have X1 := Lib.hid (((Ext.refl w).alloc _).trans x1)
    have hk := x1.block w.heap.size (by simp)
    have a0 := x1.cell (p := ⟨w.heap.size, 0, none⟩) (by simp)
    have a1 := x1.cell (p := ⟨w.heap.size, 1, none⟩) (by simp)
    rw [cell_of_row _ _ _ _ _ _ (heap_alloc_new w _)] at a0 a1
    simp at a0 a1
    have hlt : w.heap.size < w1.heap.size := by have := x1.size; simp at this; omega
    clear x1 hk
    go_wp2
    go_ret
    exact ⟨rfl, X1.out.alloc _⟩
  · rw [textT_3]
    have hc := fun W => Elem_any ⟨3, s⟩ W hl
    rw [elemT_3] at hc
    unfold Ty.vals at hc
    have HC := Lib.hid hc
    clear hc
    have b1 : ∀ W, (Op.stringOp .add ⟨#[76]⟩ (bs s)).run Try.prog W = .ok (.string (bs (76 :: s))) W := fun W => add_bs ⟨#[76]⟩ (bs s) [76] s rfl rfl (by simp only [List.length_cons, List.length_nil]; omega) W
    have b2 : ∀ W, (Op.stringOp .add (bs (76 :: s)) ⟨#[59]⟩).run Try.prog W = .ok (.string (bs (76 :: (s ++ [59])))) W := fun W => add_bs (bs (76 :: s)) ⟨#[59]⟩ (76 :: s) [59] rfl rfl (by simp; omega) W
    clear hlo
    unfold Ty.vals
    go_enter Try.func50, Try.ntmps50
    go_wp2_with fail
    refine (HC.out _).mono ?_
    rintro e w1 ⟨rfl, x1⟩
    have X1 := Lib.hid (((Ext.refl w).alloc _).trans x1)
    have hk := x1.block w.heap.size (by simp)
    have a0 := x1.cell (p := ⟨w.heap.size, 0, none⟩) (by simp)
    have a1 := x1.cell (p := ⟨w.heap.size, 1, none⟩) (by simp)
    rw [cell_of_row _ _ _ _ _ _ (heap_alloc_new w _)] at a0 a1
    simp at a0 a1
    have hlt : w.heap.size < w1.heap.size := by have := x1.size; simp at this; omega
    clear x1 hk
    go_wp2
    go_ret
    exact ⟨rfl, X1.out.alloc _⟩
  · exact absurd (by simp) hlo
  · exact absurd (by simp) hlo
  · exact absurd (by simp) hlo
  · rw [textT_0 n1 n2 n3 n4 n5 n6]
    have hc := fun W => Elem_any ⟨k, s⟩ W hl
    rw [elemT_0 n1 n2 n3 n4 n5 n6] at hc
    unfold Ty.vals at hc
    have HC := Lib.hid hc
    clear hc
    clear hlo
    unfold Ty.vals
    go_enter Try.func50, Try.ntmps50
    go_wp2_with fail
    refine (HC.out _).mono ?_
    rintro e w1 ⟨rfl, x1⟩
    have X1 := Lib.hid (((Ext.refl w).alloc _).trans x1)
    have hk := x1.block w.heap.size (by simp)
    have a0 := x1.cell (p := ⟨w.heap.size, 0, none⟩) (by simp)
    have a1 := x1.cell (p := ⟨w.heap.size, 1, none⟩) (by simp)
    rw [cell_of_row _ _ _ _ _ _ (heap_alloc_new w _)] at a0 a1
    simp at a0 a1
    have hlt : w.heap.size < w1.heap.size := by have := x1.size; simp at this; omega
    clear x1 hk
    go_wp2
    go_ret
    exact ⟨rfl, X1.out.alloc _⟩
set_option maxHeartbeats 8000000 in
theorem written_any (t : Ty) (w : World) (hl : t.s.length ≤ 140737488351232) :
    Calls Try.prog 50 #[.agg t.vals] w fun e w' => e = .returned (.string (bs (textT t))) ∧ Ext w w' := by
  by_cases hlo : t.k = 4 ∨ t.k = 5 ∨ t.k = 6
  · obtain ⟨k, s⟩ := t
    have hsl : s.length ≤ 140737488351232 := hl
    rcases hlo with rfl | rfl | rfl
    · rw [textT_4]
      have hc := fun W => Elem_any ⟨4, s⟩ W hl
      rw [elemT_4] at hc
      unfold Ty.vals at hc
      have HC := Lib.hid hc
      clear hc
      have hw := fun W => written_lo ⟨1, s⟩ W hl (by simp)
      rw [textT_1] at hw
      unfold Ty.vals at hw
      have HW := Lib.hid hw
      clear hw
      have b1 : ∀ W, (Op.stringOp .add ⟨#[91]⟩ (bs [73])).run Try.prog W = .ok (.string (bs (91 :: [73]))) W := fun W => add_bs ⟨#[91]⟩ (bs [73]) [91] [73] rfl rfl (by simp only [List.length_cons, List.length_nil]; omega) W
      unfold Ty.vals
      go_enter Try.func50, Try.ntmps50
      go_wp2_with fail
      refine (HC.out _).mono ?_
      rintro e w1 ⟨rfl, x1⟩
      have X1 := Lib.hid (((Ext.refl w).alloc _).trans x1)
      have hk := x1.block w.heap.size (by simp)
      have a0 := x1.cell (p := ⟨w.heap.size, 0, none⟩) (by simp)
      have a1 := x1.cell (p := ⟨w.heap.size, 1, none⟩) (by simp)
      rw [cell_of_row _ _ _ _ _ _ (heap_alloc_new w _)] at a0 a1
      simp at a0 a1
      have hlt : w.heap.size < w1.heap.size := by have := x1.size; simp at this; omega
      clear x1 hk
      go_wp2_with fail
      refine (HW.out _).mono ?_
      rintro e w2 ⟨rfl, x2⟩
      go_wp2
      go_ret
      exact ⟨rfl, (X1.out.alloc _).trans x2⟩
    · rw [textT_5]
      have hc := fun W => Elem_any ⟨5, s⟩ W hl
      rw [elemT_5] at hc
      unfold Ty.vals at hc
      have HC := Lib.hid hc
      clear hc
      have hw := fun W => written_lo ⟨2, s⟩ W hl (by simp)
      rw [textT_2] at hw
      unfold Ty.vals at hw
      have HW := Lib.hid hw
      clear hw
      have b1 : ∀ W, (Op.stringOp .add ⟨#[91]⟩ (bs [74])).run Try.prog W = .ok (.string (bs (91 :: [74]))) W := fun W => add_bs ⟨#[91]⟩ (bs [74]) [91] [74] rfl rfl (by simp only [List.length_cons, List.length_nil]; omega) W
      unfold Ty.vals
      go_enter Try.func50, Try.ntmps50
      go_wp2_with fail
      refine (HC.out _).mono ?_
      rintro e w1 ⟨rfl, x1⟩
      have X1 := Lib.hid (((Ext.refl w).alloc _).trans x1)
      have hk := x1.block w.heap.size (by simp)
      have a0 := x1.cell (p := ⟨w.heap.size, 0, none⟩) (by simp)
      have a1 := x1.cell (p := ⟨w.heap.size, 1, none⟩) (by simp)
      rw [cell_of_row _ _ _ _ _ _ (heap_alloc_new w _)] at a0 a1
      simp at a0 a1
      have hlt : w.heap.size < w1.heap.size := by have := x1.size; simp at this; omega
      clear x1 hk
      go_wp2_with fail
      refine (HW.out _).mono ?_
      rintro e w2 ⟨rfl, x2⟩
      go_wp2
      go_ret
      exact ⟨rfl, (X1.out.alloc _).trans x2⟩
    · rw [textT_6]
      have hc := fun W => Elem_any ⟨6, s⟩ W hl
      rw [elemT_6] at hc
      unfold Ty.vals at hc
      have HC := Lib.hid hc
      clear hc
      have hw := fun W => written_lo ⟨3, s⟩ W hl (by simp)
      rw [textT_3] at hw
      unfold Ty.vals at hw
      have HW := Lib.hid hw
      clear hw
      have b1 : ∀ W, (Op.stringOp .add ⟨#[91]⟩ (bs (76 :: (s ++ [59])))).run Try.prog W = .ok (.string (bs (91 :: (76 :: (s ++ [59]))))) W := fun W => add_bs ⟨#[91]⟩ (bs (76 :: (s ++ [59]))) [91] (76 :: (s ++ [59])) rfl rfl (by simp only [List.length_append, List.length_cons, List.length_nil]; omega) W
      unfold Ty.vals
      go_enter Try.func50, Try.ntmps50
      go_wp2_with fail
      refine (HC.out _).mono ?_
      rintro e w1 ⟨rfl, x1⟩
      have X1 := Lib.hid (((Ext.refl w).alloc _).trans x1)
      have hk := x1.block w.heap.size (by simp)
      have a0 := x1.cell (p := ⟨w.heap.size, 0, none⟩) (by simp)
      have a1 := x1.cell (p := ⟨w.heap.size, 1, none⟩) (by simp)
      rw [cell_of_row _ _ _ _ _ _ (heap_alloc_new w _)] at a0 a1
      simp at a0 a1
      have hlt : w.heap.size < w1.heap.size := by have := x1.size; simp at this; omega
      clear x1 hk
      go_wp2_with fail
      refine (HW.out _).mono ?_
      rintro e w2 ⟨rfl, x2⟩
      go_wp2
      go_ret
      exact ⟨rfl, (X1.out.alloc _).trans x2⟩
  · exact written_lo t w hl hlo
set_option maxHeartbeats 8000000 in
theorem WriteType_any (t : Ty) (w : World) (hl : t.s.length ≤ 140737488351232) :
    Calls Try.prog 20 #[.agg t.vals] w fun e w' => e = .returned (.tuple #[.string (bs (writeT t).1), .int .i64 (writeT t).2]) ∧ Ext w w' := by
  have hc := fun W => CheckType_any t W hl
  have ht := fun W => written_any t W hl
  unfold Ty.vals at hc ht ⊢
  have HC := Lib.hid hc
  have HT := Lib.hid ht
  clear hc ht
  cases ho : okT t
  · rw [show writeT t = ([], 2) by rw [writeT, ho]; rfl]
    have h2 := Lib.hid (checkT_no ho)
    clear ho
    go_enter Try.func20, Try.ntmps20
    go_wp2_with fail
    refine (HC.out _).mono ?_
    rw [h2.out]
    rintro e w1 ⟨rfl, x1⟩
    go_wp2
    go_ret2
    exact ⟨rfl, Ext.trans (by first | exact Ext.refl w | exact (Ext.refl w).alloc _) x1⟩
  · rw [show writeT t = (textT t, 0) by rw [writeT, ho]; rfl]
    have h2 := Lib.hid (checkT_yes ho)
    clear ho
    go_enter Try.func20, Try.ntmps20
    go_wp2_with fail
    refine (HC.out _).mono ?_
    rw [h2.out]
    rintro e w1 ⟨rfl, x1⟩
    have g1 : w.heap.size < w1.heap.size := by have := x1.size; simp at this; omega
    have at1 := AtT.ext (AtT.of (t := t) (heap_alloc_new _ _)) x1 (by simp)
    obtain ⟨z0, z1⟩ := id at1
    go_wp2_with fail
    refine (HT.out _).mono ?_
    rintro e w2 ⟨rfl, x2⟩
    go_wp2
    go_ret2
    exact ⟨rfl, Ext.trans (by first | exact Ext.refl w | exact (Ext.refl w).alloc _) (x1.trans x2)⟩
end Go.Proofs.Ytibcaienaejgpaa
