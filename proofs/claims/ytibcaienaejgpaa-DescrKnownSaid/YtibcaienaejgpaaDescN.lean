/- The project's own answers of types, walked: kinds of values, words, arrays, how a type is written. -/
import Derived.Test.YtibcaienaejgpaaDescM
namespace Go.Proofs.Ytibcaienaejgpaa
open Go.RowKit
set_option linter.unusedVariables false

theorem ofKind_any (k : Int) (t : Ty) (w : World) (hl : t.s.length ≤ 140737488351232) :
    Calls Try.prog 52 #[.int .i64 k, .agg t.vals] w fun e w' => e = .returned (.agg (Ty.vals ⟨k, t.s⟩)) ∧ Ext w w' := by
  obtain ⟨k0, s⟩ := t
  have hc := fun W => sclone_any (bs s) W hl
  have HC := Lib.hid hc
  clear hc
  unfold Ty.vals
  go_enter Try.func52, Try.ntmps52
  go_wp2_with fail
  refine (HC.out _).mono ?_
  rintro e w1 ⟨rfl, x1⟩
  obtain ⟨g1, g2, hlt, hx⟩ := two_ext x1
  have f0 : w1.frozen? ⟨w.heap.size + 1, 0, none⟩ = false := by simp [World.frozen?, g2]
  have f1 : w1.frozen? ⟨w.heap.size + 1, 1, none⟩ = false := by simp [World.frozen?, g2]
  have hg2 : w1.heap[w.heap.size + 1]? = some (.cells #[.int .i64 0, .string ⟨#[]⟩] 23 (0, 0)) := g2
  have d0 : w1.cell? ⟨w.heap.size + 1, 0, none⟩ = some (.int .i64 0) := by rw [cell_of_row w1 _ _ _ _ _ hg2]; rfl
  have d1 : w1.cell? ⟨w.heap.size + 1, 1, none⟩ = some (.string ⟨#[]⟩) := by rw [cell_of_row w1 _ _ _ _ _ hg2]; rfl
  clear g1 g2 hg2
  have HX := Lib.hid hx
  clear x1 hx
  go_wp2
  refine bodyPost_ret (v := .agg (Ty.vals ⟨k, s⟩)) (by unfold Ty.vals; simp [results, Try.results52, go_sem, d0, d1]; try exact ⟨rfl, rfl⟩) rfl ⟨rfl, Ext.set_ (Ext.set_ HX.out (Nat.le_succ _) _) (Nat.le_succ _) _⟩
set_option maxHeartbeats 8000000 in
theorem Elem_any (t : Ty) (w : World) (hl : t.s.length ≤ 140737488351232) :
    Calls Try.prog 22 #[.agg t.vals] w fun e w' => e = .returned (.tuple #[.agg (elemT t).1.vals, .bool (elemT t).2]) ∧ Ext w w' := by
  obtain ⟨k, s⟩ := t
  have hbs : s.length ≤ 140737488351232 := hl
  rcases kinds k with rfl | rfl | rfl | rfl | rfl | rfl | ⟨n1, n2, n3, n4, n5, n6, n7⟩
  · rw [elemT_1]
    unfold Ty.vals
    go_enter Try.func22, Try.ntmps22
    go_wp2
    refine bodyPost_ret (v := .tuple #[.agg (Ty.vals t0), .bool false]) (by unfold Ty.vals; simp [results, Try.results22, go_sem]; try exact ⟨rfl, rfl⟩) rfl ⟨rfl, ?_⟩
    first | exact Ext.refl w | exact (Ext.refl w).alloc _ | exact ((Ext.refl w).alloc _).alloc _ | exact (((Ext.refl w).alloc _).alloc _).alloc _
  · rw [elemT_2]
    unfold Ty.vals
    go_enter Try.func22, Try.ntmps22
    go_wp2
    refine bodyPost_ret (v := .tuple #[.agg (Ty.vals t0), .bool false]) (by unfold Ty.vals; simp [results, Try.results22, go_sem]; try exact ⟨rfl, rfl⟩) rfl ⟨rfl, ?_⟩
    first | exact Ext.refl w | exact (Ext.refl w).alloc _ | exact ((Ext.refl w).alloc _).alloc _ | exact (((Ext.refl w).alloc _).alloc _).alloc _
  · rw [elemT_3]
    unfold Ty.vals
    go_enter Try.func22, Try.ntmps22
    go_wp2
    refine bodyPost_ret (v := .tuple #[.agg (Ty.vals t0), .bool false]) (by unfold Ty.vals; simp [results, Try.results22, go_sem]; try exact ⟨rfl, rfl⟩) rfl ⟨rfl, ?_⟩
    first | exact Ext.refl w | exact (Ext.refl w).alloc _ | exact ((Ext.refl w).alloc _).alloc _ | exact (((Ext.refl w).alloc _).alloc _).alloc _
  · rw [elemT_4]
    have hc := fun W => ofKind_any 1 ⟨4, s⟩ W hl
    unfold Ty.vals at hc
    have HC := Lib.hid hc
    clear hc
    unfold Ty.vals
    go_enter Try.func22, Try.ntmps22
    go_wp2_with fail
    refine (HC.out _).mono ?_
    rintro e w1 ⟨rfl, x1⟩
    obtain ⟨g1, g2, hlt, hx⟩ := two_ext x1
    have f0 : w1.frozen? ⟨w.heap.size + 1, 0, none⟩ = false := by simp [World.frozen?, g2]
    have f1 : w1.frozen? ⟨w.heap.size + 1, 1, none⟩ = false := by simp [World.frozen?, g2]
    have hg2 : w1.heap[w.heap.size + 1]? = some (.cells #[.int .i64 0, .string ⟨#[]⟩] 23 (0, 0)) := g2
    have d0 : w1.cell? ⟨w.heap.size + 1, 0, none⟩ = some (.int .i64 0) := by rw [cell_of_row w1 _ _ _ _ _ hg2]; rfl
    have d1 : w1.cell? ⟨w.heap.size + 1, 1, none⟩ = some (.string ⟨#[]⟩) := by rw [cell_of_row w1 _ _ _ _ _ hg2]; rfl
    clear g1 g2 hg2
    have HX := Lib.hid hx
    clear x1 hx
    go_wp2
    refine bodyPost_ret (v := .tuple #[.agg (Ty.vals ⟨1, s⟩), .bool true]) (by unfold Ty.vals; simp [results, Try.results22, go_sem, d0, d1]; try exact ⟨rfl, rfl⟩) rfl ⟨rfl, Ext.set_ (Ext.set_ HX.out (Nat.le_succ _) _) (Nat.le_succ _) _⟩
  · rw [elemT_5]
    have hc := fun W => ofKind_any 2 ⟨5, s⟩ W hl
    unfold Ty.vals at hc
    have HC := Lib.hid hc
    clear hc
    unfold Ty.vals
    go_enter Try.func22, Try.ntmps22
    go_wp2_with fail
    refine (HC.out _).mono ?_
    rintro e w1 ⟨rfl, x1⟩
    obtain ⟨g1, g2, hlt, hx⟩ := two_ext x1
    have f0 : w1.frozen? ⟨w.heap.size + 1, 0, none⟩ = false := by simp [World.frozen?, g2]
    have f1 : w1.frozen? ⟨w.heap.size + 1, 1, none⟩ = false := by simp [World.frozen?, g2]
    have hg2 : w1.heap[w.heap.size + 1]? = some (.cells #[.int .i64 0, .string ⟨#[]⟩] 23 (0, 0)) := g2
    have d0 : w1.cell? ⟨w.heap.size + 1, 0, none⟩ = some (.int .i64 0) := by rw [cell_of_row w1 _ _ _ _ _ hg2]; rfl
    have d1 : w1.cell? ⟨w.heap.size + 1, 1, none⟩ = some (.string ⟨#[]⟩) := by rw [cell_of_row w1 _ _ _ _ _ hg2]; rfl
    clear g1 g2 hg2
    have HX := Lib.hid hx
    clear x1 hx
    go_wp2
    refine bodyPost_ret (v := .tuple #[.agg (Ty.vals ⟨2, s⟩), .bool true]) (by unfold Ty.vals; simp [results, Try.results22, go_sem, d0, d1]; try exact ⟨rfl, rfl⟩) rfl ⟨rfl, Ext.set_ (Ext.set_ HX.out (Nat.le_succ _) _) (Nat.le_succ _) _⟩
  · rw [elemT_6]
    have hc := fun W => ofKind_any 3 ⟨6, s⟩ W hl
    unfold Ty.vals at hc
    have HC := Lib.hid hc
    clear hc
    unfold Ty.vals
    go_enter Try.func22, Try.ntmps22
    go_wp2_with fail
    refine (HC.out _).mono ?_
    rintro e w1 ⟨rfl, x1⟩
    obtain ⟨g1, g2, hlt, hx⟩ := two_ext x1
    have f0 : w1.frozen? ⟨w.heap.size + 1, 0, none⟩ = false := by simp [World.frozen?, g2]
    have f1 : w1.frozen? ⟨w.heap.size + 1, 1, none⟩ = false := by simp [World.frozen?, g2]
    have hg2 : w1.heap[w.heap.size + 1]? = some (.cells #[.int .i64 0, .string ⟨#[]⟩] 23 (0, 0)) := g2
    have d0 : w1.cell? ⟨w.heap.size + 1, 0, none⟩ = some (.int .i64 0) := by rw [cell_of_row w1 _ _ _ _ _ hg2]; rfl
    have d1 : w1.cell? ⟨w.heap.size + 1, 1, none⟩ = some (.string ⟨#[]⟩) := by rw [cell_of_row w1 _ _ _ _ _ hg2]; rfl
    clear g1 g2 hg2
    have HX := Lib.hid hx
    clear x1 hx
    go_wp2
    refine bodyPost_ret (v := .tuple #[.agg (Ty.vals ⟨3, s⟩), .bool true]) (by unfold Ty.vals; simp [results, Try.results22, go_sem, d0, d1]; try exact ⟨rfl, rfl⟩) rfl ⟨rfl, Ext.set_ (Ext.set_ HX.out (Nat.le_succ _) _) (Nat.le_succ _) _⟩
  · rw [elemT_0 n1 n2 n3 n4 n5 n6]
    unfold Ty.vals
    go_enter Try.func22, Try.ntmps22
    go_wp2
    refine bodyPost_ret (v := .tuple #[.agg (Ty.vals t0), .bool false]) (by unfold Ty.vals; simp [results, Try.results22, go_sem]; try exact ⟨rfl, rfl⟩) rfl ⟨rfl, ?_⟩
    first | exact Ext.refl w | exact (Ext.refl w).alloc _ | exact ((Ext.refl w).alloc _).alloc _ | exact (((Ext.refl w).alloc _).alloc _).alloc _
set_option maxHeartbeats 8000000 in
theorem Over_any (t : Ty) (w : World) (hl : t.s.length ≤ 140737488351232) :
    Calls Try.prog 24 #[.agg t.vals] w fun e w' => e = .returned (.tuple #[.agg (overT t).1.vals, .bool (overT t).2]) ∧ Ext w w' := by
  obtain ⟨k, s⟩ := t
  have hbs : s.length ≤ 140737488351232 := hl
  rcases kinds k with rfl | rfl | rfl | rfl | rfl | rfl | ⟨n1, n2, n3, n4, n5, n6, n7⟩
  · rw [overT_1]
    have hc := fun W => ofKind_any 4 ⟨1, s⟩ W hl
    unfold Ty.vals at hc
    have HC := Lib.hid hc
    clear hc
    unfold Ty.vals
    go_enter Try.func24, Try.ntmps24
    go_wp2_with fail
    refine (HC.out _).mono ?_
    rintro e w1 ⟨rfl, x1⟩
    obtain ⟨g1, g2, hlt, hx⟩ := two_ext x1
    have f0 : w1.frozen? ⟨w.heap.size + 1, 0, none⟩ = false := by simp [World.frozen?, g2]
    have f1 : w1.frozen? ⟨w.heap.size + 1, 1, none⟩ = false := by simp [World.frozen?, g2]
    have hg2 : w1.heap[w.heap.size + 1]? = some (.cells #[.int .i64 0, .string ⟨#[]⟩] 23 (0, 0)) := g2
    have d0 : w1.cell? ⟨w.heap.size + 1, 0, none⟩ = some (.int .i64 0) := by rw [cell_of_row w1 _ _ _ _ _ hg2]; rfl
    have d1 : w1.cell? ⟨w.heap.size + 1, 1, none⟩ = some (.string ⟨#[]⟩) := by rw [cell_of_row w1 _ _ _ _ _ hg2]; rfl
    clear g1 g2 hg2
    have HX := Lib.hid hx
    clear x1 hx
    go_wp2
    refine bodyPost_ret (v := .tuple #[.agg (Ty.vals ⟨4, s⟩), .bool true]) (by unfold Ty.vals; simp [results, Try.results24, go_sem, d0, d1]; try exact ⟨rfl, rfl⟩) rfl ⟨rfl, Ext.set_ (Ext.set_ HX.out (Nat.le_succ _) _) (Nat.le_succ _) _⟩
  · rw [overT_2]
    have hc := fun W => ofKind_any 5 ⟨2, s⟩ W hl
    unfold Ty.vals at hc
    have HC := Lib.hid hc
    clear hc
    unfold Ty.vals
    go_enter Try.func24, Try.ntmps24
    go_wp2_with fail
    refine (HC.out _).mono ?_
    rintro e w1 ⟨rfl, x1⟩
    obtain ⟨g1, g2, hlt, hx⟩ := two_ext x1
    have f0 : w1.frozen? ⟨w.heap.size + 1, 0, none⟩ = false := by simp [World.frozen?, g2]
    have f1 : w1.frozen? ⟨w.heap.size + 1, 1, none⟩ = false := by simp [World.frozen?, g2]
    have hg2 : w1.heap[w.heap.size + 1]? = some (.cells #[.int .i64 0, .string ⟨#[]⟩] 23 (0, 0)) := g2
    have d0 : w1.cell? ⟨w.heap.size + 1, 0, none⟩ = some (.int .i64 0) := by rw [cell_of_row w1 _ _ _ _ _ hg2]; rfl
    have d1 : w1.cell? ⟨w.heap.size + 1, 1, none⟩ = some (.string ⟨#[]⟩) := by rw [cell_of_row w1 _ _ _ _ _ hg2]; rfl
    clear g1 g2 hg2
    have HX := Lib.hid hx
    clear x1 hx
    go_wp2
    refine bodyPost_ret (v := .tuple #[.agg (Ty.vals ⟨5, s⟩), .bool true]) (by unfold Ty.vals; simp [results, Try.results24, go_sem, d0, d1]; try exact ⟨rfl, rfl⟩) rfl ⟨rfl, Ext.set_ (Ext.set_ HX.out (Nat.le_succ _) _) (Nat.le_succ _) _⟩
  · rw [overT_3]
    have hc := fun W => ofKind_any 6 ⟨3, s⟩ W hl
    unfold Ty.vals at hc
    have HC := Lib.hid hc
    clear hc
    unfold Ty.vals
    go_enter Try.func24, Try.ntmps24
    go_wp2_with fail
    refine (HC.out _).mono ?_
    rintro e w1 ⟨rfl, x1⟩
    obtain ⟨g1, g2, hlt, hx⟩ := two_ext x1
    have f0 : w1.frozen? ⟨w.heap.size + 1, 0, none⟩ = false := by simp [World.frozen?, g2]
    have f1 : w1.frozen? ⟨w.heap.size + 1, 1, none⟩ = false := by simp [World.frozen?, g2]
    have hg2 : w1.heap[w.heap.size + 1]? = some (.cells #[.int .i64 0, .string ⟨#[]⟩] 23 (0, 0)) := g2
    have d0 : w1.cell? ⟨w.heap.size + 1, 0, none⟩ = some (.int .i64 0) := by rw [cell_of_row w1 _ _ _ _ _ hg2]; rfl
    have d1 : w1.cell? ⟨w.heap.size + 1, 1, none⟩ = some (.string ⟨#[]⟩) := by rw [cell_of_row w1 _ _ _ _ _ hg2]; rfl
    clear g1 g2 hg2
    have HX := Lib.hid hx
    clear x1 hx
    go_wp2
    refine bodyPost_ret (v := .tuple #[.agg (Ty.vals ⟨6, s⟩), .bool true]) (by unfold Ty.vals; simp [results, Try.results24, go_sem, d0, d1]; try exact ⟨rfl, rfl⟩) rfl ⟨rfl, Ext.set_ (Ext.set_ HX.out (Nat.le_succ _) _) (Nat.le_succ _) _⟩
  · rw [overT_4]
    unfold Ty.vals
    go_enter Try.func24, Try.ntmps24
    go_wp2
    refine bodyPost_ret (v := .tuple #[.agg (Ty.vals t0), .bool false]) (by unfold Ty.vals; simp [results, Try.results24, go_sem]; try exact ⟨rfl, rfl⟩) rfl ⟨rfl, ?_⟩
    first | exact Ext.refl w | exact (Ext.refl w).alloc _ | exact ((Ext.refl w).alloc _).alloc _ | exact (((Ext.refl w).alloc _).alloc _).alloc _
  · rw [overT_5]
    unfold Ty.vals
    go_enter Try.func24, Try.ntmps24
    go_wp2
    refine bodyPost_ret (v := .tuple #[.agg (Ty.vals t0), .bool false]) (by unfold Ty.vals; simp [results, Try.results24, go_sem]; try exact ⟨rfl, rfl⟩) rfl ⟨rfl, ?_⟩
    first | exact Ext.refl w | exact (Ext.refl w).alloc _ | exact ((Ext.refl w).alloc _).alloc _ | exact (((Ext.refl w).alloc _).alloc _).alloc _
  · rw [overT_6]
    unfold Ty.vals
    go_enter Try.func24, Try.ntmps24
    go_wp2
    refine bodyPost_ret (v := .tuple #[.agg (Ty.vals t0), .bool false]) (by unfold Ty.vals; simp [results, Try.results24, go_sem]; try exact ⟨rfl, rfl⟩) rfl ⟨rfl, ?_⟩
    first | exact Ext.refl w | exact (Ext.refl w).alloc _ | exact ((Ext.refl w).alloc _).alloc _ | exact (((Ext.refl w).alloc _).alloc _).alloc _
  · rw [overT_0 n1 n2 n3 n4 n5 n6]
    unfold Ty.vals
    go_enter Try.func24, Try.ntmps24
    go_wp2
    refine bodyPost_ret (v := .tuple #[.agg (Ty.vals t0), .bool false]) (by unfold Ty.vals; simp [results, Try.results24, go_sem]; try exact ⟨rfl, rfl⟩) rfl ⟨rfl, ?_⟩
    first | exact Ext.refl w | exact (Ext.refl w).alloc _ | exact ((Ext.refl w).alloc _).alloc _ | exact (((Ext.refl w).alloc _).alloc _).alloc _
set_option maxHeartbeats 8000000 in
theorem Val_any (t : Ty) (w : World) :
    Calls Try.prog 30 #[.agg t.vals] w fun e w' => e = .returned (.int .i64 (valT t)) ∧ Ext w w' := by
  obtain ⟨k, s⟩ := t
  rcases kinds k with rfl | rfl | rfl | rfl | rfl | rfl | ⟨n1, n2, n3, n4, n5, n6, n7⟩
  · rw [valT_1]
    unfold Ty.vals
    go_enter Try.func30, Try.ntmps30
    go_wp2
    go_ret
    exact ⟨rfl, (Ext.refl w).alloc _⟩
  · rw [valT_2]
    unfold Ty.vals
    go_enter Try.func30, Try.ntmps30
    go_wp2
    go_ret
    exact ⟨rfl, (Ext.refl w).alloc _⟩
  · rw [valT_3]
    unfold Ty.vals
    go_enter Try.func30, Try.ntmps30
    go_wp2
    go_ret
    exact ⟨rfl, (Ext.refl w).alloc _⟩
  · rw [valT_4]
    unfold Ty.vals
    go_enter Try.func30, Try.ntmps30
    go_wp2
    go_ret
    exact ⟨rfl, (Ext.refl w).alloc _⟩
  · rw [valT_5]
    unfold Ty.vals
    go_enter Try.func30, Try.ntmps30
    go_wp2
    go_ret
    exact ⟨rfl, (Ext.refl w).alloc _⟩
  · rw [valT_6]
    unfold Ty.vals
    go_enter Try.func30, Try.ntmps30
    go_wp2
    go_ret
    exact ⟨rfl, (Ext.refl w).alloc _⟩
  · rw [valT_0 n1 n2 n3 n4 n5 n6]
    unfold Ty.vals
    go_enter Try.func30, Try.ntmps30
    go_wp2
    go_ret
    exact ⟨rfl, (Ext.refl w).alloc _⟩
set_option maxHeartbeats 8000000 in
theorem Words_any (t : Ty) (w : World) :
    Calls Try.prog 28 #[.agg t.vals] w fun e w' => e = .returned (.int .i64 (wordsT t)) ∧ Ext w w' := by
  have hc := fun W => Val_any t W
  obtain ⟨k, s⟩ := t
  unfold Ty.vals at hc
  rcases kinds k with rfl | rfl | rfl | rfl | rfl | rfl | ⟨n1, n2, n3, n4, n5, n6, n7⟩
  · rw [wordsT_1]
    rw [valT_1] at hc
    have HC := Lib.hid hc
    clear hc
    unfold Ty.vals
    go_enter Try.func28, Try.ntmps28
    go_wp2_with fail
    refine (HC.out _).mono ?_
    rintro e w1 ⟨rfl, x1⟩
    go_wp2
    go_ret
    exact ⟨rfl, ((Ext.refl w).alloc _).trans x1⟩
  · rw [wordsT_2]
    rw [valT_2] at hc
    have HC := Lib.hid hc
    clear hc
    unfold Ty.vals
    go_enter Try.func28, Try.ntmps28
    go_wp2_with fail
    refine (HC.out _).mono ?_
    rintro e w1 ⟨rfl, x1⟩
    go_wp2
    go_ret
    exact ⟨rfl, ((Ext.refl w).alloc _).trans x1⟩
  · rw [wordsT_3]
    rw [valT_3] at hc
    have HC := Lib.hid hc
    clear hc
    unfold Ty.vals
    go_enter Try.func28, Try.ntmps28
    go_wp2_with fail
    refine (HC.out _).mono ?_
    rintro e w1 ⟨rfl, x1⟩
    go_wp2
    go_ret
    exact ⟨rfl, ((Ext.refl w).alloc _).trans x1⟩
  · rw [wordsT_4]
    rw [valT_4] at hc
    have HC := Lib.hid hc
    clear hc
    unfold Ty.vals
    go_enter Try.func28, Try.ntmps28
    go_wp2_with fail
    refine (HC.out _).mono ?_
    rintro e w1 ⟨rfl, x1⟩
    go_wp2
    go_ret
    exact ⟨rfl, ((Ext.refl w).alloc _).trans x1⟩
  · rw [wordsT_5]
    rw [valT_5] at hc
    have HC := Lib.hid hc
    clear hc
    unfold Ty.vals
    go_enter Try.func28, Try.ntmps28
    go_wp2_with fail
    refine (HC.out _).mono ?_
    rintro e w1 ⟨rfl, x1⟩
    go_wp2
    go_ret
    exact ⟨rfl, ((Ext.refl w).alloc _).trans x1⟩
  · rw [wordsT_6]
    rw [valT_6] at hc
    have HC := Lib.hid hc
    clear hc
    unfold Ty.vals
    go_enter Try.func28, Try.ntmps28
    go_wp2_with fail
    refine (HC.out _).mono ?_
    rintro e w1 ⟨rfl, x1⟩
    go_wp2
    go_ret
    exact ⟨rfl, ((Ext.refl w).alloc _).trans x1⟩
  · rw [wordsT_0 n1 n2 n3 n4 n5 n6]
    rw [valT_0 n1 n2 n3 n4 n5 n6] at hc
    have HC := Lib.hid hc
    clear hc
    unfold Ty.vals
    go_enter Try.func28, Try.ntmps28
    go_wp2_with fail
    refine (HC.out _).mono ?_
    rintro e w1 ⟨rfl, x1⟩
    go_wp2
    go_ret
    exact ⟨rfl, ((Ext.refl w).alloc _).trans x1⟩
end Go.Proofs.Ytibcaienaejgpaa
