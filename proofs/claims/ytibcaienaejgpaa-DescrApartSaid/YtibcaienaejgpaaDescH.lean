/- The document's own take, walked: the type that a text begins with. -/
import Derived.Test.YtibcaienaejgpaaDescG
namespace Go.Proofs.Ytibcaienaejgpaa
open Go.RowKit
set_option linter.unusedVariables false

def TakeAns (l : List UInt8) (w : World) (e : Ending) (w' : World) : Prop := e = .returned (.tuple #[.agg (takeT l).1.vals, .int .i64 (takeT l).2]) ∧ Ext w w'
theorem ext_any (w : World) (o p q : Obj) : Ext w w ∧ Ext w (w.alloc o) ∧ Ext w ((w.alloc o).alloc p) ∧ Ext w (((w.alloc o).alloc p).alloc q) :=
  ⟨Ext.refl w, (Ext.refl w).alloc _, ((Ext.refl w).alloc _).alloc _, (((Ext.refl w).alloc _).alloc _).alloc _⟩
theorem two_ext {w w1 : World} {o p : Obj} (h : Ext ((w.alloc o).alloc p) w1) : w1.heap[w.heap.size]? = some o ∧ w1.heap[w.heap.size + 1]? = some p ∧ w.heap.size + 1 < w1.heap.size ∧ Ext w w1 := by
  have h2 : (w.alloc o).heap.size = w.heap.size + 1 := by simp
  have h3 : ((w.alloc o).alloc p).heap.size = w.heap.size + 2 := by simp
  have h1 := heap_alloc_new (w.alloc o) p
  rw [h2] at h1
  have hs := h.size
  refine ⟨?_, ?_, by omega, (ext_two w o p).trans h⟩
  · rw [h.block w.heap.size (by omega), heap_alloc_old _ _ (by omega), heap_alloc_new]
  · rw [h.block (w.heap.size + 1) (by omega), h1]

set_option maxHeartbeats 1500000 in
theorem take_nil (w : World) : Calls Try.prog 45 #[.string (bs [])] w (TakeAns [] w) := by
  have ht : takeT [] = (t0, 0) := rfl
  unfold TakeAns
  rw [ht]
  clear ht
  have hsz : (bs []).size = 0 := rfl
  go_enter Try.func45, Try.ntmps45
  go_wp2
  refine bodyPost_ret (v := .tuple #[.agg (Ty.vals t0), .int .i64 0]) (by unfold Ty.vals; simp [results, Try.results45, go_sem]; try exact ⟨rfl, rfl⟩) rfl ⟨rfl, ?_⟩
  first | exact Ext.refl w | exact (Ext.refl w).alloc _ | exact ((Ext.refl w).alloc _).alloc _ | exact (((Ext.refl w).alloc _).alloc _).alloc _

set_option maxHeartbeats 1500000 in
theorem take_open (w : World) : Calls Try.prog 45 #[.string (bs [91])] w (TakeAns [91] w) := by
  have ht : takeT [91] = (t0, 0) := rfl
  unfold TakeAns
  rw [ht]
  clear ht
  have hsz : (bs [91]).size = 1 := rfl
  have i0 : ∀ W, (Instr.index 9 (.string (bs [91])) (.int .i64 0)).run Try.prog W = .ok (.int .u8 91) W := fun W => run_bs (k := 0) (by simp) rfl W
  go_enter Try.func45, Try.ntmps45
  go_wp2
  refine bodyPost_ret (v := .tuple #[.agg (Ty.vals t0), .int .i64 0]) (by unfold Ty.vals; simp [results, Try.results45, go_sem]; try exact ⟨rfl, rfl⟩) rfl ⟨rfl, ?_⟩
  first | exact Ext.refl w | exact (Ext.refl w).alloc _ | exact ((Ext.refl w).alloc _).alloc _ | exact (((Ext.refl w).alloc _).alloc _).alloc _

set_option maxHeartbeats 1500000 in
theorem take_73 (r : List UInt8) (hr : r.length ≤ 140737488351232) (w : World) : Calls Try.prog 45 #[.string (bs (73 :: r))] w (TakeAns (73 :: r) w) := by
  have ht : takeT (73 :: r) = (⟨1, []⟩, 1) := rfl
  unfold TakeAns
  rw [ht]
  clear ht
  have hsz : (bs (73 :: r)).size = r.length + 1 := rfl
  have i0 : ∀ W, (Instr.index 9 (.string (bs (73 :: r))) (.int .i64 0)).run Try.prog W = .ok (.int .u8 73) W := fun W => run_bs (k := 0) (by simp) rfl W
  have hc := fun W => refCheckType_any ⟨1, []⟩ W (by decide)
  unfold Ty.vals at hc
  have HC := Lib.hid hc
  clear hc
  go_enter Try.func45, Try.ntmps45
  go_wp2_with fail
  refine (HC.out _).mono ?_
  rw [show checkT ⟨1, []⟩ = 0 from rfl]
  rintro e w1 ⟨rfl, x1⟩
  obtain ⟨k1, k2, ks, X⟩ := two_ext x1
  obtain ⟨y0, y1⟩ := AtT.of (t := t0) (by exact k1)
  obtain ⟨z0, z1⟩ := AtT.of (t := ⟨1, []⟩) (by exact k2)
  have fz1 : ∀ j, w1.frozen? ⟨w.heap.size, j, none⟩ = false := fun j => by simp [World.frozen?, k1]
  have fz2 : ∀ j, w1.frozen? ⟨w.heap.size + 1, j, none⟩ = false := fun j => by simp [World.frozen?, k2]
  have X := Lib.hid X
  simp only [t0] at y0 y1
  simp only at z0 z1
  clear k1 k2 x1
  go_wp2
  refine bodyPost_ret (v := .tuple #[.agg (Ty.vals ⟨1, []⟩), .int .i64 1]) (by unfold Ty.vals; simp [results, Try.results45, go_sem, y0, y1]; try exact ⟨rfl, rfl⟩) rfl ⟨rfl, ?_⟩
  first | exact Ext.set_ (Ext.set_ (X.out) (Nat.le_refl _) _) (Nat.le_refl _) _ | exact X.out | exact Ext.refl w | exact (Ext.refl w).alloc _ | exact ((Ext.refl w).alloc _).alloc _ | exact (((Ext.refl w).alloc _).alloc _).alloc _
set_option maxHeartbeats 1500000 in
theorem take_a73 (r : List UInt8) (hr : r.length ≤ 140737488351232) (w : World) : Calls Try.prog 45 #[.string (bs (91 :: 73 :: r))] w (TakeAns (91 :: 73 :: r) w) := by
  have ht : takeT (91 :: 73 :: r) = (⟨4, []⟩, 2) := rfl
  unfold TakeAns
  rw [ht]
  clear ht
  have hsz : (bs (91 :: 73 :: r)).size = r.length + 2 := rfl
  have i0 : ∀ W, (Instr.index 9 (.string (bs (91 :: 73 :: r))) (.int .i64 0)).run Try.prog W = .ok (.int .u8 91) W := fun W => run_bs (k := 0) (by simp) rfl W
  have i1 : ∀ W, (Instr.index 9 (.string (bs (91 :: 73 :: r))) (.int .i64 1)).run Try.prog W = .ok (.int .u8 73) W := fun W => run_bs (k := 1) (by simp) rfl W
  have hc := fun W => refCheckType_any ⟨4, []⟩ W (by decide)
  unfold Ty.vals at hc
  have HC := Lib.hid hc
  clear hc
  go_enter Try.func45, Try.ntmps45
  go_wp2_with fail
  refine (HC.out _).mono ?_
  rw [show checkT ⟨4, []⟩ = 0 from rfl]
  rintro e w1 ⟨rfl, x1⟩
  obtain ⟨k1, k2, ks, X⟩ := two_ext x1
  obtain ⟨y0, y1⟩ := AtT.of (t := t0) (by exact k1)
  obtain ⟨z0, z1⟩ := AtT.of (t := ⟨4, []⟩) (by exact k2)
  have fz1 : ∀ j, w1.frozen? ⟨w.heap.size, j, none⟩ = false := fun j => by simp [World.frozen?, k1]
  have fz2 : ∀ j, w1.frozen? ⟨w.heap.size + 1, j, none⟩ = false := fun j => by simp [World.frozen?, k2]
  have X := Lib.hid X
  simp only [t0] at y0 y1
  simp only at z0 z1
  clear k1 k2 x1
  go_wp2
  refine bodyPost_ret (v := .tuple #[.agg (Ty.vals ⟨4, []⟩), .int .i64 2]) (by unfold Ty.vals; simp [results, Try.results45, go_sem, y0, y1]; try exact ⟨rfl, rfl⟩) rfl ⟨rfl, ?_⟩
  first | exact Ext.set_ (Ext.set_ (X.out) (Nat.le_refl _) _) (Nat.le_refl _) _ | exact X.out | exact Ext.refl w | exact (Ext.refl w).alloc _ | exact ((Ext.refl w).alloc _).alloc _ | exact (((Ext.refl w).alloc _).alloc _).alloc _
set_option maxHeartbeats 1500000 in
theorem take_74 (r : List UInt8) (hr : r.length ≤ 140737488351232) (w : World) : Calls Try.prog 45 #[.string (bs (74 :: r))] w (TakeAns (74 :: r) w) := by
  have ht : takeT (74 :: r) = (⟨2, []⟩, 1) := rfl
  unfold TakeAns
  rw [ht]
  clear ht
  have hsz : (bs (74 :: r)).size = r.length + 1 := rfl
  have i0 : ∀ W, (Instr.index 9 (.string (bs (74 :: r))) (.int .i64 0)).run Try.prog W = .ok (.int .u8 74) W := fun W => run_bs (k := 0) (by simp) rfl W
  have hc := fun W => refCheckType_any ⟨2, []⟩ W (by decide)
  unfold Ty.vals at hc
  have HC := Lib.hid hc
  clear hc
  go_enter Try.func45, Try.ntmps45
  go_wp2_with fail
  refine (HC.out _).mono ?_
  rw [show checkT ⟨2, []⟩ = 0 from rfl]
  rintro e w1 ⟨rfl, x1⟩
  obtain ⟨k1, k2, ks, X⟩ := two_ext x1
  obtain ⟨y0, y1⟩ := AtT.of (t := t0) (by exact k1)
  obtain ⟨z0, z1⟩ := AtT.of (t := ⟨2, []⟩) (by exact k2)
  have fz1 : ∀ j, w1.frozen? ⟨w.heap.size, j, none⟩ = false := fun j => by simp [World.frozen?, k1]
  have fz2 : ∀ j, w1.frozen? ⟨w.heap.size + 1, j, none⟩ = false := fun j => by simp [World.frozen?, k2]
  have X := Lib.hid X
  simp only [t0] at y0 y1
  simp only at z0 z1
  clear k1 k2 x1
  go_wp2
  refine bodyPost_ret (v := .tuple #[.agg (Ty.vals ⟨2, []⟩), .int .i64 1]) (by unfold Ty.vals; simp [results, Try.results45, go_sem, y0, y1]; try exact ⟨rfl, rfl⟩) rfl ⟨rfl, ?_⟩
  first | exact Ext.set_ (Ext.set_ (X.out) (Nat.le_refl _) _) (Nat.le_refl _) _ | exact X.out | exact Ext.refl w | exact (Ext.refl w).alloc _ | exact ((Ext.refl w).alloc _).alloc _ | exact (((Ext.refl w).alloc _).alloc _).alloc _
set_option maxHeartbeats 1500000 in
theorem take_a74 (r : List UInt8) (hr : r.length ≤ 140737488351232) (w : World) : Calls Try.prog 45 #[.string (bs (91 :: 74 :: r))] w (TakeAns (91 :: 74 :: r) w) := by
  have ht : takeT (91 :: 74 :: r) = (⟨5, []⟩, 2) := rfl
  unfold TakeAns
  rw [ht]
  clear ht
  have hsz : (bs (91 :: 74 :: r)).size = r.length + 2 := rfl
  have i0 : ∀ W, (Instr.index 9 (.string (bs (91 :: 74 :: r))) (.int .i64 0)).run Try.prog W = .ok (.int .u8 91) W := fun W => run_bs (k := 0) (by simp) rfl W
  have i1 : ∀ W, (Instr.index 9 (.string (bs (91 :: 74 :: r))) (.int .i64 1)).run Try.prog W = .ok (.int .u8 74) W := fun W => run_bs (k := 1) (by simp) rfl W
  have hc := fun W => refCheckType_any ⟨5, []⟩ W (by decide)
  unfold Ty.vals at hc
  have HC := Lib.hid hc
  clear hc
  go_enter Try.func45, Try.ntmps45
  go_wp2_with fail
  refine (HC.out _).mono ?_
  rw [show checkT ⟨5, []⟩ = 0 from rfl]
  rintro e w1 ⟨rfl, x1⟩
  obtain ⟨k1, k2, ks, X⟩ := two_ext x1
  obtain ⟨y0, y1⟩ := AtT.of (t := t0) (by exact k1)
  obtain ⟨z0, z1⟩ := AtT.of (t := ⟨5, []⟩) (by exact k2)
  have fz1 : ∀ j, w1.frozen? ⟨w.heap.size, j, none⟩ = false := fun j => by simp [World.frozen?, k1]
  have fz2 : ∀ j, w1.frozen? ⟨w.heap.size + 1, j, none⟩ = false := fun j => by simp [World.frozen?, k2]
  have X := Lib.hid X
  simp only [t0] at y0 y1
  simp only at z0 z1
  clear k1 k2 x1
  go_wp2
  refine bodyPost_ret (v := .tuple #[.agg (Ty.vals ⟨5, []⟩), .int .i64 2]) (by unfold Ty.vals; simp [results, Try.results45, go_sem, y0, y1]; try exact ⟨rfl, rfl⟩) rfl ⟨rfl, ?_⟩
  first | exact Ext.set_ (Ext.set_ (X.out) (Nat.le_refl _) _) (Nat.le_refl _) _ | exact X.out | exact Ext.refl w | exact (Ext.refl w).alloc _ | exact ((Ext.refl w).alloc _).alloc _ | exact (((Ext.refl w).alloc _).alloc _).alloc _
set_option maxHeartbeats 1500000 in
theorem take_odd (c : UInt8) (h1 : ((c.toNat : Int) == 73) = false) (h2 : ((c.toNat : Int) == 74) = false) (h3 : ((c.toNat : Int) == 76) = false) (h4 : ((c.toNat : Int) == 91) = false) (r : List UInt8) (hr : r.length ≤ 140737488351232) (w : World) : Calls Try.prog 45 #[.string (bs (c :: r))] w (TakeAns (c :: r) w) := by
  have ht : takeT (c :: r) = (t0, 0) := by
    simp only [beq_eq_false_iff_ne, ne_eq] at h1 h2 h3 h4
    rw [takeT, if_neg (show ¬ c = 91 by rintro rfl; exact h4 rfl)]
    simp only [takeA]
    rw [if_neg (show ¬ c = 73 by rintro rfl; exact h1 rfl), if_neg (show ¬ c = 74 by rintro rfl; exact h2 rfl), if_neg (show ¬ c = 76 by rintro rfl; exact h3 rfl)]
  unfold TakeAns
  rw [ht]
  clear ht
  have hsz : (bs (c :: r)).size = r.length + 1 := rfl
  have i0 : ∀ W, (Instr.index 9 (.string (bs (c :: r))) (.int .i64 0)).run Try.prog W = .ok (.int .u8 c.toNat) W := fun W => run_bs (k := 0) (by simp) rfl W
  go_enter Try.func45, Try.ntmps45
  go_wp2
  refine bodyPost_ret (v := .tuple #[.agg (Ty.vals t0), .int .i64 0]) (by unfold Ty.vals; simp [results, Try.results45, go_sem]; try exact ⟨rfl, rfl⟩) rfl ⟨rfl, ?_⟩
  first | exact Ext.refl w | exact (Ext.refl w).alloc _ | exact ((Ext.refl w).alloc _).alloc _ | exact (((Ext.refl w).alloc _).alloc _).alloc _

set_option maxHeartbeats 1500000 in
theorem take_aodd (c : UInt8) (h1 : ((c.toNat : Int) == 73) = false) (h2 : ((c.toNat : Int) == 74) = false) (h3 : ((c.toNat : Int) == 76) = false) (r : List UInt8) (hr : r.length ≤ 140737488351232) (w : World) : Calls Try.prog 45 #[.string (bs (91 :: c :: r))] w (TakeAns (91 :: c :: r) w) := by
  have ht : takeT (91 :: c :: r) = (t0, 0) := by
    simp only [beq_eq_false_iff_ne, ne_eq] at h1 h2 h3
    have e : takeA (c :: r) = (t0, 0) := by
      rw [takeA, if_neg (show ¬ c = 73 by rintro rfl; exact h1 rfl), if_neg (show ¬ c = 74 by rintro rfl; exact h2 rfl), if_neg (show ¬ c = 76 by rintro rfl; exact h3 rfl)]
    rw [takeT, if_pos rfl, if_pos (by rw [e])]
  unfold TakeAns
  rw [ht]
  clear ht
  have hsz : (bs (91 :: c :: r)).size = r.length + 2 := rfl
  have i0 : ∀ W, (Instr.index 9 (.string (bs (91 :: c :: r))) (.int .i64 0)).run Try.prog W = .ok (.int .u8 91) W := fun W => run_bs (k := 0) (by simp) rfl W
  have i1 : ∀ W, (Instr.index 9 (.string (bs (91 :: c :: r))) (.int .i64 1)).run Try.prog W = .ok (.int .u8 c.toNat) W := fun W => run_bs (k := 1) (by simp) rfl W
  go_enter Try.func45, Try.ntmps45
  go_wp2
  refine bodyPost_ret (v := .tuple #[.agg (Ty.vals t0), .int .i64 0]) (by unfold Ty.vals; simp [results, Try.results45, go_sem]; try exact ⟨rfl, rfl⟩) rfl ⟨rfl, ?_⟩
  first | exact Ext.refl w | exact (Ext.refl w).alloc _ | exact ((Ext.refl w).alloc _).alloc _ | exact (((Ext.refl w).alloc _).alloc _).alloc _

end Go.Proofs.Ytibcaienaejgpaa
