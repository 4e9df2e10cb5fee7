/- Several texts of this proof, one behind the other. -/
import Derived.Test.YtokmeomjdpfknaaGreatDoorZaR
/- The project's ownD answers of types, walked: kinds of values, words, arrays, how a type is written. -/
namespace Go.Proofs.YtokmeomjdpfknaaGreatDoor
open Go.RowKit
set_option linter.unusedVariables false

theorem ofKind_any (k : Int) (t : TyD) (w : World) (hl : t.s.length ≤ 140737488351232) :
    Calls Tryz.prog 233 #[.int .i64 k, .agg t.vals] w fun e w' => e = .returned (.agg (TyD.vals ⟨k, t.s⟩)) ∧ Ext w w' := by
  obtain ⟨k0, s⟩ := t
  have hc := fun W => sclone_anyD (bs s) W hl
  have HC := Lib.hid hc
  clear hc
  unfold TyD.vals
  go_enter Tryz.func233, Tryz.ntmps233
  go_wp2_with fail
  refine (HC.out _).mono ?_
  rintro e w1 ⟨rfl, x1⟩
  obtain ⟨g1, g2, hlt, hx⟩ := two_ext x1
  have f0 : w1.frozen? ⟨w.heap.size + 1, 0, none⟩ = false := by simp [World.frozen?, g2]
  have f1 : w1.frozen? ⟨w.heap.size + 1, 1, none⟩ = false := by simp [World.frozen?, g2]
  have hg2 : w1.heap[w.heap.size + 1]? = some (.cells #[.int .i64 0, .string ⟨#[]⟩] 41 (0, 0)) := g2
  have d0 : w1.cell? ⟨w.heap.size + 1, 0, none⟩ = some (.int .i64 0) := by rw [cell_of_row w1 _ _ _ _ _ hg2]; rfl
  have d1 : w1.cell? ⟨w.heap.size + 1, 1, none⟩ = some (.string ⟨#[]⟩) := by rw [cell_of_row w1 _ _ _ _ _ hg2]; rfl
  clear g1 g2 hg2
  have HX := Lib.hid hx
  clear x1 hx
  go_wp2
  refine bodyPost_ret (v := .agg (TyD.vals ⟨k, s⟩)) (by unfold TyD.vals; simp [results, Tryz.results233, go_sem, d0, d1]; try exact ⟨rfl, rfl⟩) rfl ⟨rfl, Ext.set_ (Ext.set_ HX.out (Nat.le_succ _) _) (Nat.le_succ _) _⟩
set_option maxHeartbeats 8000000 in
theorem Elem_any (t : TyD) (w : World) (hl : t.s.length ≤ 140737488351232) :
    Calls Tryz.prog 197 #[.agg t.vals] w fun e w' => e = .returned (.tuple #[.agg (elemT t).1.vals, .bool (elemT t).2]) ∧ Ext w w' := by
  obtain ⟨k, s⟩ := t
  have hbs : s.length ≤ 140737488351232 := hl
  rcases kinds k with rfl | rfl | rfl | rfl | rfl | rfl | ⟨n1, n2, n3, n4, n5, n6, n7⟩
  · rw [elemT_1]
    unfold TyD.vals
    go_enter Tryz.func197, Tryz.ntmps197
    go_wp2
    refine bodyPost_ret (v := .tuple #[.agg (TyD.vals t0D), .bool false]) (by unfold TyD.vals; simp [results, Tryz.results197, go_sem]; try exact ⟨rfl, rfl⟩) rfl ⟨rfl, ?_⟩
    first | exact Ext.refl w | exact (Ext.refl w).alloc _ | exact ((Ext.refl w).alloc _).alloc _ | exact (((Ext.refl w).alloc _).alloc _).alloc _
  · rw [elemT_2]
    unfold TyD.vals
    go_enter Tryz.func197, Tryz.ntmps197
    go_wp2
    refine bodyPost_ret (v := .tuple #[.agg (TyD.vals t0D), .bool false]) (by unfold TyD.vals; simp [results, Tryz.results197, go_sem]; try exact ⟨rfl, rfl⟩) rfl ⟨rfl, ?_⟩
    first | exact Ext.refl w | exact (Ext.refl w).alloc _ | exact ((Ext.refl w).alloc _).alloc _ | exact (((Ext.refl w).alloc _).alloc _).alloc _
  · rw [elemT_3]
    unfold TyD.vals
    go_enter Tryz.func197, Tryz.ntmps197
    go_wp2
    refine bodyPost_ret (v := .tuple #[.agg (TyD.vals t0D), .bool false]) (by unfold TyD.vals; simp [results, Tryz.results197, go_sem]; try exact ⟨rfl, rfl⟩) rfl ⟨rfl, ?_⟩
    first | exact Ext.refl w | exact (Ext.refl w).alloc _ | exact ((Ext.refl w).alloc _).alloc _ | exact (((Ext.refl w).alloc _).alloc _).alloc _
  · rw [elemT_4]
    have hc := fun W => ofKind_any 1 ⟨4, s⟩ W hl
    unfold TyD.vals at hc
    have HC := Lib.hid hc
    clear hc
    unfold TyD.vals
    go_enter Tryz.func197, Tryz.ntmps197
    go_wp2_with fail
    refine (HC.out _).mono ?_
    rintro e w1 ⟨rfl, x1⟩
    obtain ⟨g1, g2, hlt, hx⟩ := two_ext x1
    have f0 : w1.frozen? ⟨w.heap.size + 1, 0, none⟩ = false := by simp [World.frozen?, g2]
    have f1 : w1.frozen? ⟨w.heap.size + 1, 1, none⟩ = false := by simp [World.frozen?, g2]
    have hg2 : w1.heap[w.heap.size + 1]? = some (.cells #[.int .i64 0, .string ⟨#[]⟩] 41 (0, 0)) := g2
    have d0 : w1.cell? ⟨w.heap.size + 1, 0, none⟩ = some (.int .i64 0) := by rw [cell_of_row w1 _ _ _ _ _ hg2]; rfl
    have d1 : w1.cell? ⟨w.heap.size + 1, 1, none⟩ = some (.string ⟨#[]⟩) := by rw [cell_of_row w1 _ _ _ _ _ hg2]; rfl
    clear g1 g2 hg2
    have HX := Lib.hid hx
    clear x1 hx
    go_wp2
    refine bodyPost_ret (v := .tuple #[.agg (TyD.vals ⟨1, s⟩), .bool true]) (by unfold TyD.vals; simp [results, Tryz.results197, go_sem, d0, d1]; try exact ⟨rfl, rfl⟩) rfl ⟨rfl, Ext.set_ (Ext.set_ HX.out (Nat.le_succ _) _) (Nat.le_succ _) _⟩
  · rw [elemT_5]
    have hc := fun W => ofKind_any 2 ⟨5, s⟩ W hl
    unfold TyD.vals at hc
    have HC := Lib.hid hc
    clear hc
    unfold TyD.vals
    go_enter Tryz.func197, Tryz.ntmps197
    go_wp2_with fail
    refine (HC.out _).mono ?_
    rintro e w1 ⟨rfl, x1⟩
    obtain ⟨g1, g2, hlt, hx⟩ := two_ext x1
    have f0 : w1.frozen? ⟨w.heap.size + 1, 0, none⟩ = false := by simp [World.frozen?, g2]
    have f1 : w1.frozen? ⟨w.heap.size + 1, 1, none⟩ = false := by simp [World.frozen?, g2]
    have hg2 : w1.heap[w.heap.size + 1]? = some (.cells #[.int .i64 0, .string ⟨#[]⟩] 41 (0, 0)) := g2
    have d0 : w1.cell? ⟨w.heap.size + 1, 0, none⟩ = some (.int .i64 0) := by rw [cell_of_row w1 _ _ _ _ _ hg2]; rfl
    have d1 : w1.cell? ⟨w.heap.size + 1, 1, none⟩ = some (.string ⟨#[]⟩) := by rw [cell_of_row w1 _ _ _ _ _ hg2]; rfl
    clear g1 g2 hg2
    have HX := Lib.hid hx
    clear x1 hx
    go_wp2
    refine bodyPost_ret (v := .tuple #[.agg (TyD.vals ⟨2, s⟩), .bool true]) (by unfold TyD.vals; simp [results, Tryz.results197, go_sem, d0, d1]; try exact ⟨rfl, rfl⟩) rfl ⟨rfl, Ext.set_ (Ext.set_ HX.out (Nat.le_succ _) _) (Nat.le_succ _) _⟩
  · rw [elemT_6]
    have hc := fun W => ofKind_any 3 ⟨6, s⟩ W hl
    unfold TyD.vals at hc
    have HC := Lib.hid hc
    clear hc
    unfold TyD.vals
    go_enter Tryz.func197, Tryz.ntmps197
    go_wp2_with fail
    refine (HC.out _).mono ?_
    rintro e w1 ⟨rfl, x1⟩
    obtain ⟨g1, g2, hlt, hx⟩ := two_ext x1
    have f0 : w1.frozen? ⟨w.heap.size + 1, 0, none⟩ = false := by simp [World.frozen?, g2]
    have f1 : w1.frozen? ⟨w.heap.size + 1, 1, none⟩ = false := by simp [World.frozen?, g2]
    have hg2 : w1.heap[w.heap.size + 1]? = some (.cells #[.int .i64 0, .string ⟨#[]⟩] 41 (0, 0)) := g2
    have d0 : w1.cell? ⟨w.heap.size + 1, 0, none⟩ = some (.int .i64 0) := by rw [cell_of_row w1 _ _ _ _ _ hg2]; rfl
    have d1 : w1.cell? ⟨w.heap.size + 1, 1, none⟩ = some (.string ⟨#[]⟩) := by rw [cell_of_row w1 _ _ _ _ _ hg2]; rfl
    clear g1 g2 hg2
    have HX := Lib.hid hx
    clear x1 hx
    go_wp2
    refine bodyPost_ret (v := .tuple #[.agg (TyD.vals ⟨3, s⟩), .bool true]) (by unfold TyD.vals; simp [results, Tryz.results197, go_sem, d0, d1]; try exact ⟨rfl, rfl⟩) rfl ⟨rfl, Ext.set_ (Ext.set_ HX.out (Nat.le_succ _) _) (Nat.le_succ _) _⟩
  · rw [elemT_0 n1 n2 n3 n4 n5 n6]
    unfold TyD.vals
    go_enter Tryz.func197, Tryz.ntmps197
    go_wp2
    refine bodyPost_ret (v := .tuple #[.agg (TyD.vals t0D), .bool false]) (by unfold TyD.vals; simp [results, Tryz.results197, go_sem]; try exact ⟨rfl, rfl⟩) rfl ⟨rfl, ?_⟩
    first | exact Ext.refl w | exact (Ext.refl w).alloc _ | exact ((Ext.refl w).alloc _).alloc _ | exact (((Ext.refl w).alloc _).alloc _).alloc _
set_option maxHeartbeats 8000000 in
theorem Over_any (t : TyD) (w : World) (hl : t.s.length ≤ 140737488351232) :
    Calls Tryz.prog 252 #[.agg t.vals] w fun e w' => e = .returned (.tuple #[.agg (overT t).1.vals, .bool (overT t).2]) ∧ Ext w w' := by
  obtain ⟨k, s⟩ := t
  have hbs : s.length ≤ 140737488351232 := hl
  rcases kinds k with rfl | rfl | rfl | rfl | rfl | rfl | ⟨n1, n2, n3, n4, n5, n6, n7⟩
  · rw [overT_1]
    have hc := fun W => ofKind_any 4 ⟨1, s⟩ W hl
    unfold TyD.vals at hc
    have HC := Lib.hid hc
    clear hc
    unfold TyD.vals
    go_enter Tryz.func252, Tryz.ntmps252
    go_wp2_with fail
    refine (HC.out _).mono ?_
    rintro e w1 ⟨rfl, x1⟩
    obtain ⟨g1, g2, hlt, hx⟩ := two_ext x1
    have f0 : w1.frozen? ⟨w.heap.size + 1, 0, none⟩ = false := by simp [World.frozen?, g2]
    have f1 : w1.frozen? ⟨w.heap.size + 1, 1, none⟩ = false := by simp [World.frozen?, g2]
    have hg2 : w1.heap[w.heap.size + 1]? = some (.cells #[.int .i64 0, .string ⟨#[]⟩] 41 (0, 0)) := g2
    have d0 : w1.cell? ⟨w.heap.size + 1, 0, none⟩ = some (.int .i64 0) := by rw [cell_of_row w1 _ _ _ _ _ hg2]; rfl
    have d1 : w1.cell? ⟨w.heap.size + 1, 1, none⟩ = some (.string ⟨#[]⟩) := by rw [cell_of_row w1 _ _ _ _ _ hg2]; rfl
    clear g1 g2 hg2
    have HX := Lib.hid hx
    clear x1 hx
    go_wp2
    refine bodyPost_ret (v := .tuple #[.agg (TyD.vals ⟨4, s⟩), .bool true]) (by unfold TyD.vals; simp [results, Tryz.results252, go_sem, d0, d1]; try exact ⟨rfl, rfl⟩) rfl ⟨rfl, Ext.set_ (Ext.set_ HX.out (Nat.le_succ _) _) (Nat.le_succ _) _⟩
  · rw [overT_2]
    have hc := fun W => ofKind_any 5 ⟨2, s⟩ W hl
    unfold TyD.vals at hc
    have HC := Lib.hid hc
    clear hc
    unfold TyD.vals
    go_enter Tryz.func252, Tryz.ntmps252
    go_wp2_with fail
    refine (HC.out _).mono ?_
    rintro e w1 ⟨rfl, x1⟩
    obtain ⟨g1, g2, hlt, hx⟩ := two_ext x1
    have f0 : w1.frozen? ⟨w.heap.size + 1, 0, none⟩ = false := by simp [World.frozen?, g2]
    have f1 : w1.frozen? ⟨w.heap.size + 1, 1, none⟩ = false := by simp [World.frozen?, g2]
    have hg2 : w1.heap[w.heap.size + 1]? = some (.cells #[.int .i64 0, .string ⟨#[]⟩] 41 (0, 0)) := g2
    have d0 : w1.cell? ⟨w.heap.size + 1, 0, none⟩ = some (.int .i64 0) := by rw [cell_of_row w1 _ _ _ _ _ hg2]; rfl
    have d1 : w1.cell? ⟨w.heap.size + 1, 1, none⟩ = some (.string ⟨#[]⟩) := by rw [cell_of_row w1 _ _ _ _ _ hg2]; rfl
    clear g1 g2 hg2
    have HX := Lib.hid hx
    clear x1 hx
    go_wp2
    refine bodyPost_ret (v := .tuple #[.agg (TyD.vals ⟨5, s⟩), .bool true]) (by unfold TyD.vals; simp [results, Tryz.results252, go_sem, d0, d1]; try exact ⟨rfl, rfl⟩) rfl ⟨rfl, Ext.set_ (Ext.set_ HX.out (Nat.le_succ _) _) (Nat.le_succ _) _⟩
  · rw [overT_3]
    have hc := fun W => ofKind_any 6 ⟨3, s⟩ W hl
    unfold TyD.vals at hc
    have HC := Lib.hid hc
    clear hc
    unfold TyD.vals
    go_enter Tryz.func252, Tryz.ntmps252
    go_wp2_with fail
    refine (HC.out _).mono ?_
    rintro e w1 ⟨rfl, x1⟩
    obtain ⟨g1, g2, hlt, hx⟩ := two_ext x1
    have f0 : w1.frozen? ⟨w.heap.size + 1, 0, none⟩ = false := by simp [World.frozen?, g2]
    have f1 : w1.frozen? ⟨w.heap.size + 1, 1, none⟩ = false := by simp [World.frozen?, g2]
    have hg2 : w1.heap[w.heap.size + 1]? = some (.cells #[.int .i64 0, .string ⟨#[]⟩] 41 (0, 0)) := g2
    have d0 : w1.cell? ⟨w.heap.size + 1, 0, none⟩ = some (.int .i64 0) := by rw [cell_of_row w1 _ _ _ _ _ hg2]; rfl
    have d1 : w1.cell? ⟨w.heap.size + 1, 1, none⟩ = some (.string ⟨#[]⟩) := by rw [cell_of_row w1 _ _ _ _ _ hg2]; rfl
    clear g1 g2 hg2
    have HX := Lib.hid hx
    clear x1 hx
    go_wp2
    refine bodyPost_ret (v := .tuple #[.agg (TyD.vals ⟨6, s⟩), .bool true]) (by unfold TyD.vals; simp [results, Tryz.results252, go_sem, d0, d1]; try exact ⟨rfl, rfl⟩) rfl ⟨rfl, Ext.set_ (Ext.set_ HX.out (Nat.le_succ _) _) (Nat.le_succ _) _⟩
  · rw [overT_4]
    unfold TyD.vals
    go_enter Tryz.func252, Tryz.ntmps252
    go_wp2
    refine bodyPost_ret (v := .tuple #[.agg (TyD.vals t0D), .bool false]) (by unfold TyD.vals; simp [results, Tryz.results252, go_sem]; try exact ⟨rfl, rfl⟩) rfl ⟨rfl, ?_⟩
    first | exact Ext.refl w | exact (Ext.refl w).alloc _ | exact ((Ext.refl w).alloc _).alloc _ | exact (((Ext.refl w).alloc _).alloc _).alloc _
  · rw [overT_5]
    unfold TyD.vals
    go_enter Tryz.func252, Tryz.ntmps252
    go_wp2
    refine bodyPost_ret (v := .tuple #[.agg (TyD.vals t0D), .bool false]) (by unfold TyD.vals; simp [results, Tryz.results252, go_sem]; try exact ⟨rfl, rfl⟩) rfl ⟨rfl, ?_⟩
    first | exact Ext.refl w | exact (Ext.refl w).alloc _ | exact ((Ext.refl w).alloc _).alloc _ | exact (((Ext.refl w).alloc _).alloc _).alloc _
  · rw [overT_6]
    unfold TyD.vals
    go_enter Tryz.func252, Tryz.ntmps252
    go_wp2
    refine bodyPost_ret (v := .tuple #[.agg (TyD.vals t0D), .bool false]) (by unfold TyD.vals; simp [results, Tryz.results252, go_sem]; try exact ⟨rfl, rfl⟩) rfl ⟨rfl, ?_⟩
    first | exact Ext.refl w | exact (Ext.refl w).alloc _ | exact ((Ext.refl w).alloc _).alloc _ | exact (((Ext.refl w).alloc _).alloc _).alloc _
  · rw [overT_0 n1 n2 n3 n4 n5 n6]
    unfold TyD.vals
    go_enter Tryz.func252, Tryz.ntmps252
    go_wp2
    refine bodyPost_ret (v := .tuple #[.agg (TyD.vals t0D), .bool false]) (by unfold TyD.vals; simp [results, Tryz.results252, go_sem]; try exact ⟨rfl, rfl⟩) rfl ⟨rfl, ?_⟩
    first | exact Ext.refl w | exact (Ext.refl w).alloc _ | exact ((Ext.refl w).alloc _).alloc _ | exact (((Ext.refl w).alloc _).alloc _).alloc _
end Go.Proofs.YtokmeomjdpfknaaGreatDoor
/- The project's ownD text of a type, walked. -/
namespace Go.Proofs.YtokmeomjdpfknaaGreatDoor
open Go.RowKit
set_option linter.unusedVariables false

set_option maxHeartbeats 8000000 in
theorem written_lo (t : TyD) (w : World) (hl : t.s.length ≤ 140737488351232) (hlo : ¬ (t.k = 4 ∨ t.k = 5 ∨ t.k = 6)) :
    Calls Tryz.prog 165 #[.agg t.vals] w fun e w' => e = .returned (.string (bs (textT t))) ∧ Ext w w' := by
  obtain ⟨k, s⟩ := t
  have hsl : s.length ≤ 140737488351232 := hl
  have hsz : (bs s).size = s.length := rfl
  rcases kinds k with rfl | rfl | rfl | rfl | rfl | rfl | ⟨n1, n2, n3, n4, n5, n6, n7⟩
  · rw [textT_1]
    have hc := fun W => Elem_any ⟨1, s⟩ W hl
    rw [elemT_1] at hc
    unfold TyD.vals at hc
    have HC := Lib.hid hc
    clear hc
    clear hlo
    unfold TyD.vals
    go_enter Tryz.func165, Tryz.ntmps165
    go_wp2_with fail
    refine (HC.out _).mono ?_
    rintro e w1 ⟨rfl, x1⟩
    have X1 := Lib.hid (((Ext.refl w).alloc _).trans x1)
    have hk := x1.block w.heap.size (by simp)
    have a0 := x1.cell (p := ⟨w.heap.size, 0, none⟩) (by simp)
    have a1 := x1.cell (p := ⟨w.heap.size, 1, none⟩) (by simp)
    rw [cell_of_row _ _ _ _ _ _ (heap_alloc_new w _)] at a0 a1
    simp at a0 a1
    have hlt : w.heap.size < w1.heap.size := by have := x1.size; simp at this; omega
    clear x1 hk
    go_wp2
    go_ret
    exact ⟨rfl, X1.out.alloc _⟩
  · rw [textT_2]
    have hc := fun W => Elem_any ⟨2, s⟩ W hl
    rw [elemT_2] at hc
    unfold TyD.vals at hc
    have HC := Lib.hid hc
    clear hc
    clear hlo
    unfold TyD.vals
    go_enter Tryz.func165, Tryz.ntmps165
    go_wp2_with fail
    refine (HC.out _).mono ?_
    rintro e w1 ⟨rfl, x1⟩
    have X1 := Lib.hid (((Ext.refl w).alloc _).trans x1)
    have hk := x1.block w.heap.size (by simp)
    have a0 := x1.cell (p := ⟨w.heap.size, 0, none⟩) (by simp)
    have a1 := x1.cell (p := ⟨w.heap.size, 1, none⟩) (by simp)
    rw [cell_of_row _ _ _ _ _ _ (heap_alloc_new w _)] at a0 a1
    simp at a0 a1
    have hlt : w.heap.size < w1.heap.size := by have := x1.size; simp at this; omega
    clear x1 hk
    go_wp2
    go_ret
    exact ⟨rfl, X1.out.alloc _⟩
  · rw [textT_3]
    have hc := fun W => Elem_any ⟨3, s⟩ W hl
    rw [elemT_3] at hc
    unfold TyD.vals at hc
    have HC := Lib.hid hc
    clear hc
    have b1 : ∀ W, (Op.stringOp .add ⟨#[76]⟩ (bs s)).run Tryz.prog W = .ok (.string (bs (76 :: s))) W := fun W => add_bs ⟨#[76]⟩ (bs s) [76] s rfl rfl (by simp only [List.length_cons, List.length_nil]; omega) W
    have b2 : ∀ W, (Op.stringOp .add (bs (76 :: s)) ⟨#[59]⟩).run Tryz.prog W = .ok (.string (bs (76 :: (s ++ [59])))) W := fun W => add_bs (bs (76 :: s)) ⟨#[59]⟩ (76 :: s) [59] rfl rfl (by simp; omega) W
    clear hlo
    unfold TyD.vals
    go_enter Tryz.func165, Tryz.ntmps165
    go_wp2_with fail
    refine (HC.out _).mono ?_
    rintro e w1 ⟨rfl, x1⟩
    have X1 := Lib.hid (((Ext.refl w).alloc _).trans x1)
    have hk := x1.block w.heap.size (by simp)
    have a0 := x1.cell (p := ⟨w.heap.size, 0, none⟩) (by simp)
    have a1 := x1.cell (p := ⟨w.heap.size, 1, none⟩) (by simp)
    rw [cell_of_row _ _ _ _ _ _ (heap_alloc_new w _)] at a0 a1
    simp at a0 a1
    have hlt : w.heap.size < w1.heap.size := by have := x1.size; simp at this; omega
    clear x1 hk
    go_wp2
    go_ret
    exact ⟨rfl, X1.out.alloc _⟩
  · exact absurd (by simp) hlo
  · exact absurd (by simp) hlo
  · exact absurd (by simp) hlo
  · rw [textT_0 n1 n2 n3 n4 n5 n6]
    have hc := fun W => Elem_any ⟨k, s⟩ W hl
    rw [elemT_0 n1 n2 n3 n4 n5 n6] at hc
    unfold TyD.vals at hc
    have HC := Lib.hid hc
    clear hc
    clear hlo
    unfold TyD.vals
    go_enter Tryz.func165, Tryz.ntmps165
    go_wp2_with fail
    refine (HC.out _).mono ?_
    rintro e w1 ⟨rfl, x1⟩
    have X1 := Lib.hid (((Ext.refl w).alloc _).trans x1)
    have hk := x1.block w.heap.size (by simp)
    have a0 := x1.cell (p := ⟨w.heap.size, 0, none⟩) (by simp)
    have a1 := x1.cell (p := ⟨w.heap.size, 1, none⟩) (by simp)
    rw [cell_of_row _ _ _ _ _ _ (heap_alloc_new w _)] at a0 a1
    simp at a0 a1
    have hlt : w.heap.size < w1.heap.size := by have := x1.size; simp at this; omega
    clear x1 hk
    go_wp2
    go_ret
    exact ⟨rfl, X1.out.alloc _⟩
set_option maxHeartbeats 8000000 in
theorem written_any (t : TyD) (w : World) (hl : t.s.length ≤ 140737488351232) :
    Calls Tryz.prog 165 #[.agg t.vals] w fun e w' => e = .returned (.string (bs (textT t))) ∧ Ext w w' := by
  by_cases hlo : t.k = 4 ∨ t.k = 5 ∨ t.k = 6
  · obtain ⟨k, s⟩ := t
    have hsl : s.length ≤ 140737488351232 := hl
    rcases hlo with rfl | rfl | rfl
    · rw [textT_4]
      have hc := fun W => Elem_any ⟨4, s⟩ W hl
      rw [elemT_4] at hc
      unfold TyD.vals at hc
      have HC := Lib.hid hc
      clear hc
      have hw := fun W => written_lo ⟨1, s⟩ W hl (by simp)
      rw [textT_1] at hw
      unfold TyD.vals at hw
      have HW := Lib.hid hw
      clear hw
      have b1 : ∀ W, (Op.stringOp .add ⟨#[91]⟩ (bs [73])).run Tryz.prog W = .ok (.string (bs (91 :: [73]))) W := fun W => add_bs ⟨#[91]⟩ (bs [73]) [91] [73] rfl rfl (by simp only [List.length_cons, List.length_nil]; omega) W
      unfold TyD.vals
      go_enter Tryz.func165, Tryz.ntmps165
      go_wp2_with fail
      refine (HC.out _).mono ?_
      rintro e w1 ⟨rfl, x1⟩
      have X1 := Lib.hid (((Ext.refl w).alloc _).trans x1)
      have hk := x1.block w.heap.size (by simp)
      have a0 := x1.cell (p := ⟨w.heap.size, 0, none⟩) (by simp)
      have a1 := x1.cell (p := ⟨w.heap.size, 1, none⟩) (by simp)
      rw [cell_of_row _ _ _ _ _ _ (heap_alloc_new w _)] at a0 a1
      simp at a0 a1
      have hlt : w.heap.size < w1.heap.size := by have := x1.size; simp at this; omega
      clear x1 hk
      go_wp2_with fail
      refine (HW.out _).mono ?_
      rintro e w2 ⟨rfl, x2⟩
      go_wp2
      go_ret
      exact ⟨rfl, (X1.out.alloc _).trans x2⟩
    · rw [textT_5]
      have hc := fun W => Elem_any ⟨5, s⟩ W hl
      rw [elemT_5] at hc
      unfold TyD.vals at hc
      have HC := Lib.hid hc
      clear hc
      have hw := fun W => written_lo ⟨2, s⟩ W hl (by simp)
      rw [textT_2] at hw
      unfold TyD.vals at hw
      have HW := Lib.hid hw
      clear hw
      have b1 : ∀ W, (Op.stringOp .add ⟨#[91]⟩ (bs [74])).run Tryz.prog W = .ok (.string (bs (91 :: [74]))) W := fun W => add_bs ⟨#[91]⟩ (bs [74]) [91] [74] rfl rfl (by simp only [List.length_cons, List.length_nil]; omega) W
      unfold TyD.vals
      go_enter Tryz.func165, Tryz.ntmps165
      go_wp2_with fail
      refine (HC.out _).mono ?_
      rintro e w1 ⟨rfl, x1⟩
      have X1 := Lib.hid (((Ext.refl w).alloc _).trans x1)
      have hk := x1.block w.heap.size (by simp)
      have a0 := x1.cell (p := ⟨w.heap.size, 0, none⟩) (by simp)
      have a1 := x1.cell (p := ⟨w.heap.size, 1, none⟩) (by simp)
      rw [cell_of_row _ _ _ _ _ _ (heap_alloc_new w _)] at a0 a1
      simp at a0 a1
      have hlt : w.heap.size < w1.heap.size := by have := x1.size; simp at this; omega
      clear x1 hk
      go_wp2_with fail
      refine (HW.out _).mono ?_
      rintro e w2 ⟨rfl, x2⟩
      go_wp2
      go_ret
      exact ⟨rfl, (X1.out.alloc _).trans x2⟩
    · rw [textT_6]
      have hc := fun W => Elem_any ⟨6, s⟩ W hl
      rw [elemT_6] at hc
      unfold TyD.vals at hc
      have HC := Lib.hid hc
      clear hc
      have hw := fun W => written_lo ⟨3, s⟩ W hl (by simp)
      rw [textT_3] at hw
      unfold TyD.vals at hw
      have HW := Lib.hid hw
      clear hw
      have b1 : ∀ W, (Op.stringOp .add ⟨#[91]⟩ (bs (76 :: (s ++ [59])))).run Tryz.prog W = .ok (.string (bs (91 :: (76 :: (s ++ [59]))))) W := fun W => add_bs ⟨#[91]⟩ (bs (76 :: (s ++ [59]))) [91] (76 :: (s ++ [59])) rfl rfl (by simp only [List.length_append, List.length_cons, List.length_nil]; omega) W
      unfold TyD.vals
      go_enter Tryz.func165, Tryz.ntmps165
      go_wp2_with fail
      refine (HC.out _).mono ?_
      rintro e w1 ⟨rfl, x1⟩
      have X1 := Lib.hid (((Ext.refl w).alloc _).trans x1)
      have hk := x1.block w.heap.size (by simp)
      have a0 := x1.cell (p := ⟨w.heap.size, 0, none⟩) (by simp)
      have a1 := x1.cell (p := ⟨w.heap.size, 1, none⟩) (by simp)
      rw [cell_of_row _ _ _ _ _ _ (heap_alloc_new w _)] at a0 a1
      simp at a0 a1
      have hlt : w.heap.size < w1.heap.size := by have := x1.size; simp at this; omega
      clear x1 hk
      go_wp2_with fail
      refine (HW.out _).mono ?_
      rintro e w2 ⟨rfl, x2⟩
      go_wp2
      go_ret
      exact ⟨rfl, (X1.out.alloc _).trans x2⟩
  · exact written_lo t w hl hlo
set_option maxHeartbeats 8000000 in
theorem WriteType_any (t : TyD) (w : World) (hl : t.s.length ≤ 140737488351232) :
    Calls Tryz.prog 118 #[.agg t.vals] w fun e w' => e = .returned (.tuple #[.string (bs (writeT t).1), .int .i64 (writeT t).2]) ∧ Ext w w' := by
  have hc := fun W => CheckType_any t W hl
  have ht := fun W => written_any t W hl
  unfold TyD.vals at hc ht ⊢
  have HC := Lib.hid hc
  have HT := Lib.hid ht
  clear hc ht
  cases ho : okT t
  · rw [show writeT t = ([], 2) by rw [writeT, ho]; rfl]
    have h2 := Lib.hid (checkT_no ho)
    clear ho
    go_enter Tryz.func118, Tryz.ntmps118
    go_wp2_with fail
    refine (HC.out _).mono ?_
    rw [h2.out]
    rintro e w1 ⟨rfl, x1⟩
    go_wp2
    go_ret2
    exact ⟨rfl, Ext.trans (by first | exact Ext.refl w | exact (Ext.refl w).alloc _) x1⟩
  · rw [show writeT t = (textT t, 0) by rw [writeT, ho]; rfl]
    have h2 := Lib.hid (checkT_yes ho)
    clear ho
    go_enter Tryz.func118, Tryz.ntmps118
    go_wp2_with fail
    refine (HC.out _).mono ?_
    rw [h2.out]
    rintro e w1 ⟨rfl, x1⟩
    have g1 : w.heap.size < w1.heap.size := by have := x1.size; simp at this; omega
    have at1 := AtTD.ext (AtTD.of (t := t) (heap_alloc_new _ _)) x1 (by simp)
    obtain ⟨z0, z1⟩ := id at1
    go_wp2_with fail
    refine (HT.out _).mono ?_
    rintro e w2 ⟨rfl, x2⟩
    go_wp2
    go_ret2
    exact ⟨rfl, Ext.trans (by first | exact Ext.refl w | exact (Ext.refl w).alloc _) (x1.trans x2)⟩
end Go.Proofs.YtokmeomjdpfknaaGreatDoor
/- The project's ownD answers of protos, walked: may it be, how many words, are two the same. -/
namespace Go.Proofs.YtokmeomjdpfknaaGreatDoor
open Go.RowKit
set_option linter.unusedVariables false

set_option maxHeartbeats 4000000 in
theorem CheckProto_any (v : Value) (p : Pr) (w : World) (h : RowT w v p.args) (hret : p.ret.s.length ≤ 140737488351232) :
    Calls Tryz.prog 137 #[.agg (p.vals v)] w fun e w' => e = .returned (.int .i64 (checkP p)) ∧ Ext w w' := by
  unfold Pr.vals
  obtain ⟨A, c, rfl, hc, hm, ha, hf, hg⟩ := h
  unfold maxLen at hm
  by_cases h16 : 16 < p.args.length
  · rw [checkP_long h16]
    clear hg hf ha
    go_enter Tryz.func137, Tryz.ntmps137
    go_wp2
    go_ret
    exact ⟨rfl, (Ext.refl w).alloc _⟩
  · have hne : ∀ W, (binOp .eql 41 (.agg #[.int .i64 p.ret.k, .string (bs p.ret.s)]) (.agg #[.int .i64 0, .string ⟨#[]⟩])).run Tryz.prog W = .ok (.bool (eqT p.ret t0D)) W := fun W => run_eqT p.ret t0D W
    have HR := fun W => CheckType_any p.ret W hret
    unfold TyD.vals at HR
    have HR := Lib.hid HR
    obtain ⟨n, hn⟩ : ∃ n, n = p.args.length := ⟨_, rfl⟩
    rw [← hn] at hc hg h16 ⊢
    have Hn := Lib.hid hn
    clear hn ha
    have hf := Lib.hid hf
    go_enter Tryz.func137, Tryz.ntmps137
    go_wp2
    obtain ⟨w2, hw2⟩ : ∃ w2, w2 = w.alloc (.cells #[.int .i64 p.ret.k, .string (bs p.ret.s), .slice A n c] 44) := ⟨_, rfl⟩
    have z5 : w2.cell? ⟨w.heap.size, 0, none⟩ = some (.int .i64 p.ret.k) := by rw [hw2, cell_of_row _ _ _ _ _ _ (heap_alloc_new _ _)]; rfl
    have z6 : w2.cell? ⟨w.heap.size, 1, none⟩ = some (.string (bs p.ret.s)) := by rw [hw2, cell_of_row _ _ _ _ _ _ (heap_alloc_new _ _)]; rfl
    have hlt2 : w.heap.size < w2.heap.size := by rw [hw2]; simp
    have X2 : Ext w w2 := by rw [hw2]; exact (Ext.refl w).alloc _
    rw [← hw2]
    clear hw2
    have X2 := Lib.hid X2
    go_loopw [13] (fun i wr => ∃ k : Nat, k ≤ n ∧ i = .int .i64 k ∧ Hid (∀ j, j < k → okT (gtD p.args j) = true) ∧ Ext w2 wr) (fun i _ => n - (intOf i).toNat)
    case atStart => exact ⟨0, by omega, rfl, Lib.hid (fun j h => absurd h (Nat.not_lt_zero _)), Ext.refl _⟩
    case round =>
      obtain ⟨k, hk, rfl, Ht, hx⟩ := hrel
      by_cases hlt : k < n
      · obtain ⟨b1, o1, rfl, hb1, hx1⟩ := hg (by omega)
        obtain ⟨y0, y1⟩ := (hx1 k hlt).ext (X2.out.trans hx) hb1
        clear hx1 hne
        have HC := fun W => CheckType_any (gtD p.args k) W (hf.out _ (gt_mem (by have := Hn.out; omega))).2
        unfold TyD.vals at HC
        have HC := Lib.hid HC
        cases ho : okT (gtD p.args k)
        · have H2 := Lib.hid (checkT_no ho)
          have HE := Lib.hid (checkP_arg (p := p) (by have := Hn.out; omega) (by have := Hn.out; omega) ho)
          clear ho
          go_wp2_with fail
          refine (HC.out _).mono ?_
          rw [H2.out]
          rintro e w3 ⟨rfl, x3⟩
          go_wp2
          go_ret
          rw [HE.out]
          exact ⟨rfl, X2.out.trans ((hx.alloc _).trans x3)⟩
        · have H2 := Lib.hid (checkT_yes ho)
          have HO := Lib.hid ho
          clear ho
          go_wp2_with fail
          refine (HC.out _).mono ?_
          rw [H2.out]
          rintro e w3 ⟨rfl, x3⟩
          go_wp2
          refine ⟨⟨k + 1, by omega, by go_num, Lib.hid (fun j hj => ?_), (hx.alloc _).trans x3⟩, by simp [intOf]; omega⟩
          by_cases hjk : j < k
          · exact Ht.out j hjk
          · obtain rfl : j = k := by omega
            exact HO.out
      · obtain rfl : k = n := by omega
        have y5 := (hx.cell (p := ⟨w.heap.size, 0, none⟩) hlt2).trans z5
        have y6 := (hx.cell (p := ⟨w.heap.size, 1, none⟩) hlt2).trans z6
        have all : ∀ j, j < p.args.length → okT (gtD p.args j) = true := fun j hj => Ht.out j (by have := Hn.out; omega)
        have HAll := Lib.hid all
        have h16' : ¬ 16 < p.args.length := by have := Hn.out; omega
        have H16 := Lib.hid h16'
        clear all h16' z5 z6
        by_cases h0 : p.ret = t0D
        · rw [show eqT p.ret t0D = true by simp [eqT, h0]] at hne
          have HE := Lib.hid (checkP_yes H16.out (.inl h0) HAll.out)
          clear h0
          go_wp2
          go_ret
          rw [HE.out]
          exact ⟨rfl, X2.out.trans hx⟩
        · rw [show eqT p.ret t0D = false by simp [eqT, h0]] at hne
          cases ho : okT p.ret
          · have H2 := Lib.hid (checkT_no ho)
            have HE := Lib.hid (checkP_ret H16.out h0 ho)
            clear h0 ho
            go_wp2_with fail
            refine (HR.out _).mono ?_
            rw [H2.out]
            rintro e w3 ⟨rfl, x3⟩
            go_wp2
            go_ret
            rw [HE.out]
            exact ⟨rfl, X2.out.trans (hx.trans x3)⟩
          · have H2 := Lib.hid (checkT_yes ho)
            have HE := Lib.hid (checkP_yes H16.out (.inr ho) HAll.out)
            clear h0 ho
            go_wp2_with fail
            refine (HR.out _).mono ?_
            rw [H2.out]
            rintro e w3 ⟨rfl, x3⟩
            go_wp2
            go_ret
            rw [HE.out]
            exact ⟨rfl, X2.out.trans (hx.trans x3)⟩
def eqLD (l m : List TyD) : Bool := decide (l = m)
set_option maxHeartbeats 4000000 in
theorem equalT_any (v1 v2 : Value) (l1 l2 : List TyD) (w : World) (h1 : RowT w v1 l1) (h2 : RowT w v2 l2) :
    Calls Tryz.prog 143 #[v1, v2] w fun e w' => e = .returned (.bool (eqLD l1 l2)) ∧ ∃ m, w' = w.drewN m := by
  obtain ⟨A1, c1, rfl, hc1, hm1, ha1, hf1, hg1⟩ := h1
  obtain ⟨A2, c2, rfl, hc2, hm2, ha2, hf2, hg2⟩ := h2
  unfold maxLen at hm1 hm2
  by_cases hl : l1.length = l2.length
  · obtain ⟨n, hn⟩ : ∃ n, n = l1.length := ⟨_, rfl⟩
    rw [← hn] at hc1 hg1 ⊢
    rw [← hl, ← hn] at hc2 hg2 ⊢
    have Hn := Lib.hid hn
    have Hl := Lib.hid hl
    clear hn hl ha1 ha2 hf1 hf2
    go_enter Tryz.func143, Tryz.ntmps143
    go_wp2
    go_loopw [13] (fun i wr => ∃ k m : Nat, k ≤ n ∧ i = .int .i64 k ∧ wr = w.drewN m ∧ Hid (l1.take k = l2.take k)) (fun i _ => n - (intOf i).toNat)
    case atStart => exact ⟨0, 0, by omega, rfl, rfl, Lib.hid rfl⟩
    case round =>
      obtain ⟨k, m, hk, rfl, rfl, Ht⟩ := hrel
      by_cases hlt : k < n
      · obtain ⟨b1, o1, rfl, hb1, hx1⟩ := hg1 (by omega)
        obtain ⟨b2, o2, rfl, hb2, hx2⟩ := hg2 (by omega)
        obtain ⟨y0, y1⟩ := hx1 k hlt
        obtain ⟨u0, u1⟩ := hx2 k hlt
        have hne := fun W => run_neqT (gtD l1 k) (gtD l2 k) W
        unfold TyD.vals at hne
        clear hx1 hx2
        by_cases he : gtD l1 k = gtD l2 k
        · rw [show eqT (gtD l1 k) (gtD l2 k) = true by simp [eqT, he]] at hne
          have HE := Lib.hid he
          clear he
          go_wp2
          go_quiet (fail)
          go_wp2
          refine ⟨⟨k + 1, m + nq, by omega, by go_num, rfl, Lib.hid ?_⟩, by simp [intOf]; omega⟩
          rw [takeT_one (by have := Hn.out; omega), takeT_one (by have := Hn.out; have := Hl.out; omega), Ht.out, HE.out]
        · rw [show eqT (gtD l1 k) (gtD l2 k) = false by simp [eqT, he]] at hne
          have HE := Lib.hid (show eqLD l1 l2 = false by simp only [eqLD, decide_eq_false_iff_not]; exact fun e => he (by rw [e]))
          clear he
          go_wp2
          go_quiet (fail)
          go_wp2
          go_ret
          exact ⟨ret_bD HE.out.symm, _, World.drewN_drewN _ _ _⟩
      · obtain rfl : k = n := by omega
        go_wp2
        go_ret
        refine ⟨ret_bD ?_, _, rfl⟩
        have := Ht.out
        rw [Hn.out] at this
        rw [List.take_length, Hl.out, List.take_length] at this
        exact (decide_eq_true this).symm
  · have hb : ((l1.length : Int) != (l2.length : Int)) = true := by simp; omega
    have HE := Lib.hid (show eqLD l1 l2 = false by simp only [eqLD, decide_eq_false_iff_not]; exact fun e => hl (by rw [e]))
    rw [HE.out]
    clear hg1 hg2 hl ha1 ha2 hf1 hf2
    go_enter Tryz.func143, Tryz.ntmps143
    go_wp2
    go_ret
    exact ⟨rfl, 0, rfl⟩
set_option maxHeartbeats 2000000 in
theorem SameProto_any (v1 v2 : Value) (p q : Pr) (w : World) (h1 : RowT w v1 p.args) (h2 : RowT w v2 q.args) :
    Calls Tryz.prog 86 #[.agg (p.vals v1), .agg (q.vals v2)] w fun e w' => e = .returned (.bool (eqP p q)) ∧ Ext w w' := by
  have hne := fun W => run_eqT p.ret q.ret W
  have hq := fun W (x : Ext w W) => equalT_any v1 v2 p.args q.args W (h1.ext x) (h2.ext x)
  unfold Pr.vals
  unfold TyD.vals at hne
  have HQ := Lib.hid hq
  obtain ⟨A1, c1, rfl, -⟩ := h1
  obtain ⟨A2, c2, rfl, -⟩ := h2
  by_cases hr : p.ret = q.ret
  · rw [show eqT p.ret q.ret = true by simp [eqT, hr]] at hne
    have HE := Lib.hid (show eqLD p.args q.args = eqP p q by
      by_cases ha : p.args = q.args
      · rw [eqP_yes hr ha, eqLD, ha]; simp
      · rw [eqP_args ha, eqLD]; simpa using ha)
    clear hr hq
    go_enter Tryz.func86, Tryz.ntmps86
    go_wp2_with fail
    refine (HQ.out _ (by first | exact ext_twoD _ _ _ | exact (ext_twoD _ _ _).drewN _)).mono ?_
    rw [HE.out]
    rintro e w3 ⟨rfl, m, rfl⟩
    go_wp2
    go_ret
    exact ⟨rfl, by first | exact (ext_twoD _ _ _).drewN _ | exact ((ext_twoD _ _ _).drewN _).drewN _⟩
  · rw [show eqT p.ret q.ret = false by simp [eqT, hr]] at hne
    have HE := Lib.hid (eqP_ret (p := p) (q := q) hr)
    rw [HE.out]
    clear hr hq
    go_enter Tryz.func86, Tryz.ntmps86
    go_wp2
    go_ret
    exact ⟨rfl, by first | exact ext_twoD _ _ _ | exact (ext_twoD _ _ _).drewN _⟩
end Go.Proofs.YtokmeomjdpfknaaGreatDoor
