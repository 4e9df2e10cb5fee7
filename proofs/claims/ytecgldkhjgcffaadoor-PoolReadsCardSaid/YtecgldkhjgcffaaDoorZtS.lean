/- Several texts of this proof, one behind the other. -/
import Derived.Test.YtecgldkhjgcffaaDoorZtR
import Derived.Test.YtecgldkhjgcffaaDoorZtP
import Derived.Test.YtecgldkhjgcffaaDoorZtK
import Derived.Test.YtecgldkhjgcffaaDoorZtA
/- A reader of bytes: the document's, walked: one constant. -/
namespace Go.Proofs.YtecgldkhjgcffaaDoor
open Go.RowKit
set_option linter.unusedVariables false

/-- What taking a constant off leaves: it, what is left, the first error. -/
def rdOne (l : List Int) : Cst × List Int × Int :=
  if l = [] then (c0, [], 3)
  else if gi l 0 = 1 then (⟨1, (rdT (l.drop 1) 0).1, 0, 0, 0, 0⟩, (rdT (l.drop 1) 0).2)
  else if gi l 0 = 2 ∨ gi l 0 = 3 then (⟨gi l 0, .empty, (rdS (l.drop 1) 0).1, 0, 0, 0⟩, (rdS (l.drop 1) 0).2)
  else if gi l 0 = 4 then (⟨4, .empty, 0, (rdU (l.drop 1) 0).1, 0, 0⟩, (rdU (l.drop 1) 0).2)
  else if gi l 0 = 5 ∨ gi l 0 = 6 then
    (⟨gi l 0, .empty, 0, (rdU (l.drop 1) 0).1, (rdU (rdU (l.drop 1) 0).2.1 (rdU (l.drop 1) 0).2.2).1, (rdU (rdU (rdU (l.drop 1) 0).2.1 (rdU (l.drop 1) 0).2.2).2.1 (rdU (rdU (l.drop 1) 0).2.1 (rdU (l.drop 1) 0).2.2).2.2).1⟩,
      (rdU (rdU (rdU (l.drop 1) 0).2.1 (rdU (l.drop 1) 0).2.2).2.1 (rdU (rdU (l.drop 1) 0).2.1 (rdU (l.drop 1) 0).2.2).2.2).2)
  else (⟨gi l 0, .empty, 0, 0, 0, 0⟩, l.drop 1, 4)

theorem grown_then {w w1 w2 : World} {r : Option Nat} (h : w.grownBy w1 r) (e : Ext w1 w2) : w.grownBy w2 r :=
  ⟨e.os.trans h.os, e.tape.trans h.tape, e.output.trans h.output, Nat.le_trans h.size e.size, fun i hi hne => (e.block i (Nat.lt_of_lt_of_le hi h.size)).trans (h.block i hi hne)⟩
theorem grown_two {w w1 w2 : World} {r : Option Nat} (h : w.grownBy w1 r) (e : w1.grownBy w2 r) : w.grownBy w2 r :=
  ⟨e.os.trans h.os, e.tape.trans h.tape, e.output.trans h.output, Nat.le_trans h.size e.size, fun i hi hne => (e.block i (Nat.lt_of_lt_of_le hi h.size) hne).trans (h.block i hi hne)⟩

set_option maxRecDepth 100000 in
set_option maxHeartbeats 2000000 in
theorem refOne_0 (g : Nat) (w : World) (h : Rdr 64 w g [] 0) :
    Calls Tryd.prog 34 #[.pointer (some ⟨g, 0, none⟩)] w (RdrRet 64 w g (.agg c0.vals) [] 3) := by
  have hlt := h.lt
  obtain ⟨A, c, hc1, hc2, hrow, hg, a0, a1, hf, hty⟩ := h.cells
  have f0 := hf 0
  have f1 := hf 1
  have R := Lib.hid (rdr_grown (Rdr.err (e := 3) hg hrow hty) ((Ext.refl _).alloc (.cells #[.int .i64 0, .string .empty, .int .i64 0, .int .i64 0, .int .i64 0, .int .i64 0] 44)))
  simp only [List.length_nil] at a0
  clear hf hrow hg h hc1
  go_enter Tryd.func34, Tryd.ntmps34
  go_wp2
  exact bodyPost_ret (v := .agg c0.vals) (by unfold Cst.vals; simp [results, Tryd.results34, go_sem, c0]; rfl) rfl ⟨rfl, R.out, grown_then (only_set (World.grownBy.refl w _) 1 _) ((Ext.refl _).alloc _)⟩

/-- Both blocks of a call: its result's, its constant's. -/
theorem two_blocks {w w2 : World} {g : Nat} {o p : Obj} {v : Value} (hlt : g < w.heap.size) (hg : (((w.setCell ⟨g, 0, none⟩ v).alloc o).alloc p).grownBy w2 (some g)) :
    w2.heap[w.heap.size]? = some o ∧ w2.heap[w.heap.size + 1]? = some p ∧ w.heap.size + 1 < w2.heap.size ∧ w.grownBy w2 (some g) := by
  have hz : (w.setCell ⟨g, 0, none⟩ v).heap.size = w.heap.size := by simp [World.setCell]
  have hs : (((w.setCell ⟨g, 0, none⟩ v).alloc o).alloc p).heap.size = w.heap.size + 1 + 1 := by simp [World.setCell]
  have h0 := heap_alloc_new (w.setCell ⟨g, 0, none⟩ v) o
  have h1 := heap_alloc_new ((w.setCell ⟨g, 0, none⟩ v).alloc o) p
  have h2 : ((w.setCell ⟨g, 0, none⟩ v).alloc o).heap.size = w.heap.size + 1 := by simp [World.setCell]
  rw [hz] at h0
  rw [h2] at h1
  have hsz := hg.size
  refine ⟨?_, ?_, by omega, grown_two (grown_then (only_set (World.grownBy.refl w _) 0 v) (((Ext.refl _).alloc o).alloc p)) hg⟩
  · rw [hg.block w.heap.size (by omega) (fun e => by injection e; omega), heap_alloc_old _ _ (by omega), h0]
  · rw [hg.block (w.heap.size + 1) (by omega) (fun e => by injection e; omega), h1]






/-- All but two blocks are as they were. -/
def Far (s : Nat) (w w' : World) : Prop := w'.os = w.os ∧ w'.tape = w.tape ∧ w'.output = w.output ∧ w'.heap.size = w.heap.size ∧ ∀ i, i ≠ s → i ≠ s + 1 → w'.heap[i]? = w.heap[i]?
theorem Far.refl (s : Nat) (w : World) : Far s w w := ⟨rfl, rfl, rfl, rfl, fun _ _ _ => rfl⟩
theorem Far.set {s : Nat} {w w' : World} (h : Far s w w') {q : Addr} (hq : q.block = s ∨ q.block = s + 1) (u : Value) : Far s w (w'.setCell q u) := by
  obtain ⟨h1, h2, h3, h4, h5⟩ := h
  refine ⟨h1, h2, h3, by simpa [World.setCell] using h4, fun i hi hj => ?_⟩
  rw [Below.heap_setCell w' q u i (by rcases hq with hq | hq <;> omega)]
  exact h5 i hi hj
theorem vals_no {x : Cst} (j : Nat) (y : Int) : x.vals[j]? ≠ some (.int .u8 y) := by
  unfold Cst.vals
  match j with
  | 0 => simp
  | 1 => simp
  | 2 => simp
  | 3 => simp
  | 4 => simp
  | 5 => simp
  | j + 6 => simp
theorem rdr_far {T T1 : TypeId} {w w' : World} {g s : Nat} {l : List Int} {e : Int} {x1 x2 : Cst} (h : Rdr T w g l e) (hf : Far s w w') (k1 : w.heap[s]? = some (.cells x1.vals T1 (0, 0))) (k2 : w.heap[s + 1]? = some (.cells x2.vals T1 (0, 0))) (hg : g < s) : Rdr T w' g l e := by
  obtain ⟨v, hv, ⟨A, c, h1, h2, h3, h4, h5, h6⟩, hy⟩ := h
  obtain ⟨-, -, -, fs, fh⟩ := hf
  have key : ∀ b o, 0 < l.length → (∀ j, j < l.length → w.cell? ⟨b, o + j, none⟩ = some (.int .u8 (gi l j))) → b ≠ s ∧ b ≠ s + 1 := by
    intro b o hl hc
    have h0 := hc 0 hl
    constructor
    · intro e
      subst e
      rw [cell_of_row w b _ _ T1 (0, 0) k1] at h0
      exact vals_no _ _ h0
    · intro e
      subst e
      rw [cell_of_row w (s + 1) _ _ T1 (0, 0) k2] at h0
      exact vals_no _ _ h0
  refine ⟨v, (fh g (by omega) (by omega)).trans hv, ⟨A, c, h1, h2, h3, h4, h5, fun hl => ?_⟩, fun hl => ?_⟩
  · obtain ⟨b, o, ha, hb, hc⟩ := h6 hl
    obtain ⟨n1, n2⟩ := key b o hl hc
    exact ⟨b, o, ha, by omega, fun j hj => (World.cell?_of_block (w := w) (a := ⟨b, o + j, none⟩) (fh b n1 n2)).trans (hc j hj)⟩
  · obtain ⟨b, o, ha, hb, hc⟩ := h6 hl
    obtain ⟨n1, n2⟩ := key b o hl hc
    obtain ⟨b1, o1, m1, c1, cur, e1, e2⟩ := hy hl
    rw [h1, ha] at e1
    injection e1 with e1
    injection e1 with e1
    injection e1 with e1 e3
    subst e1
    exact ⟨b, o, _, _, cur, by rw [h1, ha], (fh b n1 n2).trans e2⟩
/-- A reader stays where a row of constants is written. -/
theorem rdr_kept {T T1 : TypeId} {w w' : World} {g : Nat} {l : List Int} {e : Int} {r : Option Nat} (h : Rdr T w g l e) (hw : w.grownBy w' r) (hr : ∀ b, r = some b → b ≠ g ∧ ∃ cur, w.heap[b]? = some (.cells cur T1 (0, 0))) (hT : T1 ≠ 5) : Rdr T w' g l e := by
  obtain ⟨v, hv, ⟨A, c, h1, h2, h3, h4, h5, h6⟩, hy⟩ := h
  have key : ∀ b o, 0 < l.length → A = some ⟨b, o, none⟩ → (∃ cur, w.heap[b]? = some (.cells cur 5 (0, 0))) ∧ some b ≠ r := by
    intro b o hl ha
    obtain ⟨b1, o1, m1, c1, cur, e1, e2⟩ := hy hl
    rw [h1, ha] at e1
    injection e1 with e1
    injection e1 with e1
    injection e1 with e1 e3
    subst e1
    refine ⟨⟨cur, e2⟩, fun e => ?_⟩
    obtain ⟨_, cur2, e4⟩ := hr b e.symm
    rw [e2] at e4
    injection e4 with e4
    injection e4 with _ e4
    exact hT e4.symm
  refine ⟨v, (hw.block g (lt_of_get hv) (fun e => (hr g e.symm).1 rfl)).trans hv, ⟨A, c, h1, h2, h3, h4, h5, fun hl => ?_⟩, fun hl => ?_⟩
  · obtain ⟨b, o, ha, hb, hc⟩ := h6 hl
    exact ⟨b, o, ha, Nat.lt_of_lt_of_le hb hw.size, fun j hj => (World.cell?_of_block (w := w) (a := ⟨b, o + j, none⟩) (hw.block b hb (key b o hl ha).2)).trans (hc j hj)⟩
  · obtain ⟨b, o, ha, hb, hc⟩ := h6 hl
    obtain ⟨⟨cur, e2⟩, hne⟩ := key b o hl ha
    exact ⟨b, o, _, _, cur, by rw [h1, ha], (hw.block b hb hne).trans e2⟩
theorem grown_far {w w2 w' : World} {g : Nat} (k : w.grownBy w2 (some g)) (hf : Far w.heap.size w2 w') : w.grownBy w' (some g) := by
  obtain ⟨f1, f2, f3, fs, fh⟩ := hf
  exact ⟨f1.trans k.os, f2.trans k.tape, f3.trans k.output, Nat.le_trans k.size (Nat.le_of_eq fs.symm), fun i hi hne => (fh i (by omega) (by omega)).trans (k.block i hi hne)⟩
theorem far6 {s : Nat} {w w1 : World} (h : Far s w w1) (u0 u1 u2 u3 u4 u5 : Value) :
    Far s w ((((((w1.setCell ⟨s, 0, none⟩ u0).setCell ⟨s, 1, none⟩ u1).setCell ⟨s, 2, none⟩ u2).setCell ⟨s, 3, none⟩ u3).setCell ⟨s, 4, none⟩ u4).setCell ⟨s, 5, none⟩ u5) :=
  (((((h.set (.inl rfl) u0).set (.inl rfl) u1).set (.inl rfl) u2).set (.inl rfl) u3).set (.inl rfl) u4).set (.inl rfl) u5

set_option maxRecDepth 100000 in
set_option maxHeartbeats 4000000 in
theorem refOne_1 (g : Nat) (l : List Int) (w : World) (h : Rdr 64 w g l 0) (h0 : 0 < l.length) (hk : Hid (gi l 0 = 1)) (hl : l.length + 4 ≤ 140737488355328) :
    Calls Tryd.prog 34 #[.pointer (some ⟨g, 0, none⟩)] w (RdrRet 64 w g (.agg (Cst.vals ⟨1, (rdT (l.drop 1) 0).1, 0, 0, 0, 0⟩)) (rdT (l.drop 1) 0).2.1 (rdT (l.drop 1) 0).2.2) := by
  have hlt := h.lt
  obtain ⟨A, c, hc1, hc2, hrow, hg, a0, a1, hf, hty⟩ := h.cells
  unfold maxLen at hc2
  have f0 := hf 0
  have f1 := hf 1
  obtain ⟨v4, t4, t4', ht, hts⟩ := tail_sliceT hrow 1 (by omega)
  have hyt := hts _ hty.out
  clear hts
  simp only [show ((1 : Nat) : Int) = 1 from rfl] at t4 t4'
  obtain ⟨A4, c4, hv4, _⟩ := id ht
  rw [List.length_drop] at hv4
  subst hv4
  obtain ⟨A', c', hv, _, _, _, hfit, h6⟩ := id hrow
  injection hv with e1 _ e3
  subst e1 e3
  obtain ⟨bl, o, rfl, hbl, hcell⟩ := h6 h0
  have b0 := hcell 0 h0
  have hb8 := hfit.u8 (gi_mem h0)
  rw [hk.out, Nat.add_zero] at b0
  rw [hk.out] at hb8
  have R := Lib.hid (rdr_grown (Rdr.rest hg ht hyt) (((Ext.refl _).alloc (.cells #[.int .i64 0, .string .empty, .int .i64 0, .int .i64 0, .int .i64 0, .int .i64 0] 44)).alloc (.cells #[.int .i64 (1), .string .empty, .int .i64 0, .int .i64 0, .int .i64 0, .int .i64 0] 44)))
  have hl1 : (l.drop 1).length ≤ l.length := by rw [List.length_drop]; omega
  obtain ⟨l1, hl2⟩ : ∃ l1, l1 = l.drop 1 := ⟨_, rfl⟩
  rw [← hl2] at R hl1 ⊢
  clear hf h h6 hcell hl2
  have c1 := fun W h => refRdrT g l1 0 W h (by omega)
  obtain ⟨r, hr⟩ : ∃ r, r = rdT l1 0 := ⟨_, rfl⟩
  rw [← hr] at c1 ⊢
  have C1 := Lib.hid c1
  clear hr c1 hrow hg ht
  go_enter Tryd.func34, Tryd.ntmps34
  go_wp2_with fail
  refine (C1.out _ (by exact R.out)).mono ?_
  rintro x w2 ⟨rfl, hr2, hg2⟩
  obtain ⟨k1, k2, ks, k3⟩ := two_blocks hlt hg2
  obtain ⟨y0, y1, y2, y3, y4, y5⟩ := At0.of (y := c0) k1
  obtain ⟨z0, z1, z2, z3, z4, z5⟩ := At0.of (y := ⟨1, .empty, 0, 0, 0, 0⟩) k2
  have fz1 : ∀ j, w2.frozen? ⟨w.heap.size, j, none⟩ = false := fun j => by simp [World.frozen?, k1]
  have fz2 : ∀ j, w2.frozen? ⟨w.heap.size + 1, j, none⟩ = false := fun j => by simp [World.frozen?, k2]
  have K1 : Hid (w2.heap[w.heap.size]? = some (.cells c0.vals 44 (0, 0))) := k1
  have K2 : Hid (w2.heap[w.heap.size + 1]? = some (.cells (Cst.vals ⟨1, .empty, 0, 0, 0, 0⟩) 44 (0, 0))) := k2
  have K3 := Lib.hid k3
  have HR := Lib.hid hr2
  simp only [c0] at y0 y1 y2 y3 y4 y5
  simp only at z0 z1 z2 z3 z4 z5
  clear k1 k2 k3 hr2 hg2 R t4 t4' a0 a1 b0 f0 f1
  go_wp2
  exact bodyPost_ret (v := .agg (Cst.vals ⟨1, r.1, 0, 0, 0, 0⟩)) (by unfold Cst.vals; simp [results, Tryd.results34, go_sem, y0, y1, y2, y3, y4, y5]) rfl ⟨rfl, rdr_far HR.out (far6 ((Far.refl _ _).set (.inr rfl) _) _ _ _ _ _ _) K1.out K2.out hlt, grown_far K3.out (far6 ((Far.refl _ _).set (.inr rfl) _) _ _ _ _ _ _)⟩

set_option maxRecDepth 100000 in
set_option maxHeartbeats 4000000 in
theorem refOne_2 (g : Nat) (l : List Int) (w : World) (h : Rdr 64 w g l 0) (h0 : 0 < l.length) (hk : Hid (gi l 0 = 2)) (hl : l.length + 4 ≤ 140737488355328) :
    Calls Tryd.prog 34 #[.pointer (some ⟨g, 0, none⟩)] w (RdrRet 64 w g (.agg (Cst.vals ⟨2, .empty, (rdS (l.drop 1) 0).1, 0, 0, 0⟩)) (rdS (l.drop 1) 0).2.1 (rdS (l.drop 1) 0).2.2) := by
  have hlt := h.lt
  obtain ⟨A, c, hc1, hc2, hrow, hg, a0, a1, hf, hty⟩ := h.cells
  unfold maxLen at hc2
  have f0 := hf 0
  have f1 := hf 1
  obtain ⟨v4, t4, t4', ht, hts⟩ := tail_sliceT hrow 1 (by omega)
  have hyt := hts _ hty.out
  clear hts
  simp only [show ((1 : Nat) : Int) = 1 from rfl] at t4 t4'
  obtain ⟨A4, c4, hv4, _⟩ := id ht
  rw [List.length_drop] at hv4
  subst hv4
  obtain ⟨A', c', hv, _, _, _, hfit, h6⟩ := id hrow
  injection hv with e1 _ e3
  subst e1 e3
  obtain ⟨bl, o, rfl, hbl, hcell⟩ := h6 h0
  have b0 := hcell 0 h0
  have hb8 := hfit.u8 (gi_mem h0)
  rw [hk.out, Nat.add_zero] at b0
  rw [hk.out] at hb8
  have R := Lib.hid (rdr_grown (Rdr.rest hg ht hyt) (((Ext.refl _).alloc (.cells #[.int .i64 0, .string .empty, .int .i64 0, .int .i64 0, .int .i64 0, .int .i64 0] 44)).alloc (.cells #[.int .i64 (2), .string .empty, .int .i64 0, .int .i64 0, .int .i64 0, .int .i64 0] 44)))
  have hl1 : (l.drop 1).length ≤ l.length := by rw [List.length_drop]; omega
  obtain ⟨l1, hl2⟩ : ∃ l1, l1 = l.drop 1 := ⟨_, rfl⟩
  rw [← hl2] at R hl1 ⊢
  clear hf h h6 hcell hl2
  have c1 := fun W h => refRdrS g l1 0 W h (by omega)
  obtain ⟨r, hr⟩ : ∃ r, r = rdS l1 0 := ⟨_, rfl⟩
  rw [← hr] at c1 ⊢
  have C1 := Lib.hid c1
  clear hr c1 hrow hg ht
  go_enter Tryd.func34, Tryd.ntmps34
  go_wp2_with fail
  refine (C1.out _ (by exact R.out)).mono ?_
  rintro x w2 ⟨rfl, hr2, hg2⟩
  obtain ⟨k1, k2, ks, k3⟩ := two_blocks hlt hg2
  obtain ⟨y0, y1, y2, y3, y4, y5⟩ := At0.of (y := c0) k1
  obtain ⟨z0, z1, z2, z3, z4, z5⟩ := At0.of (y := ⟨2, .empty, 0, 0, 0, 0⟩) k2
  have fz1 : ∀ j, w2.frozen? ⟨w.heap.size, j, none⟩ = false := fun j => by simp [World.frozen?, k1]
  have fz2 : ∀ j, w2.frozen? ⟨w.heap.size + 1, j, none⟩ = false := fun j => by simp [World.frozen?, k2]
  have K1 : Hid (w2.heap[w.heap.size]? = some (.cells c0.vals 44 (0, 0))) := k1
  have K2 : Hid (w2.heap[w.heap.size + 1]? = some (.cells (Cst.vals ⟨2, .empty, 0, 0, 0, 0⟩) 44 (0, 0))) := k2
  have K3 := Lib.hid k3
  have HR := Lib.hid hr2
  simp only [c0] at y0 y1 y2 y3 y4 y5
  simp only at z0 z1 z2 z3 z4 z5
  clear k1 k2 k3 hr2 hg2 R t4 t4' a0 a1 b0 f0 f1
  go_wp2
  exact bodyPost_ret (v := .agg (Cst.vals ⟨2, .empty, r.1, 0, 0, 0⟩)) (by unfold Cst.vals; simp [results, Tryd.results34, go_sem, y0, y1, y2, y3, y4, y5]) rfl ⟨rfl, rdr_far HR.out (far6 ((Far.refl _ _).set (.inr rfl) _) _ _ _ _ _ _) K1.out K2.out hlt, grown_far K3.out (far6 ((Far.refl _ _).set (.inr rfl) _) _ _ _ _ _ _)⟩

set_option maxRecDepth 100000 in
set_option maxHeartbeats 4000000 in
theorem refOne_3 (g : Nat) (l : List Int) (w : World) (h : Rdr 64 w g l 0) (h0 : 0 < l.length) (hk : Hid (gi l 0 = 3)) (hl : l.length + 4 ≤ 140737488355328) :
    Calls Tryd.prog 34 #[.pointer (some ⟨g, 0, none⟩)] w (RdrRet 64 w g (.agg (Cst.vals ⟨3, .empty, (rdS (l.drop 1) 0).1, 0, 0, 0⟩)) (rdS (l.drop 1) 0).2.1 (rdS (l.drop 1) 0).2.2) := by
  have hlt := h.lt
  obtain ⟨A, c, hc1, hc2, hrow, hg, a0, a1, hf, hty⟩ := h.cells
  unfold maxLen at hc2
  have f0 := hf 0
  have f1 := hf 1
  obtain ⟨v4, t4, t4', ht, hts⟩ := tail_sliceT hrow 1 (by omega)
  have hyt := hts _ hty.out
  clear hts
  simp only [show ((1 : Nat) : Int) = 1 from rfl] at t4 t4'
  obtain ⟨A4, c4, hv4, _⟩ := id ht
  rw [List.length_drop] at hv4
  subst hv4
  obtain ⟨A', c', hv, _, _, _, hfit, h6⟩ := id hrow
  injection hv with e1 _ e3
  subst e1 e3
  obtain ⟨bl, o, rfl, hbl, hcell⟩ := h6 h0
  have b0 := hcell 0 h0
  have hb8 := hfit.u8 (gi_mem h0)
  rw [hk.out, Nat.add_zero] at b0
  rw [hk.out] at hb8
  have R := Lib.hid (rdr_grown (Rdr.rest hg ht hyt) (((Ext.refl _).alloc (.cells #[.int .i64 0, .string .empty, .int .i64 0, .int .i64 0, .int .i64 0, .int .i64 0] 44)).alloc (.cells #[.int .i64 (3), .string .empty, .int .i64 0, .int .i64 0, .int .i64 0, .int .i64 0] 44)))
  have hl1 : (l.drop 1).length ≤ l.length := by rw [List.length_drop]; omega
  obtain ⟨l1, hl2⟩ : ∃ l1, l1 = l.drop 1 := ⟨_, rfl⟩
  rw [← hl2] at R hl1 ⊢
  clear hf h h6 hcell hl2
  have c1 := fun W h => refRdrS g l1 0 W h (by omega)
  obtain ⟨r, hr⟩ : ∃ r, r = rdS l1 0 := ⟨_, rfl⟩
  rw [← hr] at c1 ⊢
  have C1 := Lib.hid c1
  clear hr c1 hrow hg ht
  go_enter Tryd.func34, Tryd.ntmps34
  go_wp2_with fail
  refine (C1.out _ (by exact R.out)).mono ?_
  rintro x w2 ⟨rfl, hr2, hg2⟩
  obtain ⟨k1, k2, ks, k3⟩ := two_blocks hlt hg2
  obtain ⟨y0, y1, y2, y3, y4, y5⟩ := At0.of (y := c0) k1
  obtain ⟨z0, z1, z2, z3, z4, z5⟩ := At0.of (y := ⟨3, .empty, 0, 0, 0, 0⟩) k2
  have fz1 : ∀ j, w2.frozen? ⟨w.heap.size, j, none⟩ = false := fun j => by simp [World.frozen?, k1]
  have fz2 : ∀ j, w2.frozen? ⟨w.heap.size + 1, j, none⟩ = false := fun j => by simp [World.frozen?, k2]
  have K1 : Hid (w2.heap[w.heap.size]? = some (.cells c0.vals 44 (0, 0))) := k1
  have K2 : Hid (w2.heap[w.heap.size + 1]? = some (.cells (Cst.vals ⟨3, .empty, 0, 0, 0, 0⟩) 44 (0, 0))) := k2
  have K3 := Lib.hid k3
  have HR := Lib.hid hr2
  simp only [c0] at y0 y1 y2 y3 y4 y5
  simp only at z0 z1 z2 z3 z4 z5
  clear k1 k2 k3 hr2 hg2 R t4 t4' a0 a1 b0 f0 f1
  go_wp2
  exact bodyPost_ret (v := .agg (Cst.vals ⟨3, .empty, r.1, 0, 0, 0⟩)) (by unfold Cst.vals; simp [results, Tryd.results34, go_sem, y0, y1, y2, y3, y4, y5]) rfl ⟨rfl, rdr_far HR.out (far6 ((Far.refl _ _).set (.inr rfl) _) _ _ _ _ _ _) K1.out K2.out hlt, grown_far K3.out (far6 ((Far.refl _ _).set (.inr rfl) _) _ _ _ _ _ _)⟩

set_option maxRecDepth 100000 in
set_option maxHeartbeats 4000000 in
theorem refOne_4 (g : Nat) (l : List Int) (w : World) (h : Rdr 64 w g l 0) (h0 : 0 < l.length) (hk : Hid (gi l 0 = 4)) (hl : l.length + 4 ≤ 140737488355328) :
    Calls Tryd.prog 34 #[.pointer (some ⟨g, 0, none⟩)] w (RdrRet 64 w g (.agg (Cst.vals ⟨4, .empty, 0, (rdU (l.drop 1) 0).1, 0, 0⟩)) (rdU (l.drop 1) 0).2.1 (rdU (l.drop 1) 0).2.2) := by
  have hlt := h.lt
  obtain ⟨A, c, hc1, hc2, hrow, hg, a0, a1, hf, hty⟩ := h.cells
  unfold maxLen at hc2
  have f0 := hf 0
  have f1 := hf 1
  obtain ⟨v4, t4, t4', ht, hts⟩ := tail_sliceT hrow 1 (by omega)
  have hyt := hts _ hty.out
  clear hts
  simp only [show ((1 : Nat) : Int) = 1 from rfl] at t4 t4'
  obtain ⟨A4, c4, hv4, _⟩ := id ht
  rw [List.length_drop] at hv4
  subst hv4
  obtain ⟨A', c', hv, _, _, _, hfit, h6⟩ := id hrow
  injection hv with e1 _ e3
  subst e1 e3
  obtain ⟨bl, o, rfl, hbl, hcell⟩ := h6 h0
  have b0 := hcell 0 h0
  have hb8 := hfit.u8 (gi_mem h0)
  rw [hk.out, Nat.add_zero] at b0
  rw [hk.out] at hb8
  have R := Lib.hid (rdr_grown (Rdr.rest hg ht hyt) (((Ext.refl _).alloc (.cells #[.int .i64 0, .string .empty, .int .i64 0, .int .i64 0, .int .i64 0, .int .i64 0] 44)).alloc (.cells #[.int .i64 (4), .string .empty, .int .i64 0, .int .i64 0, .int .i64 0, .int .i64 0] 44)))
  have hl1 : (l.drop 1).length ≤ l.length := by rw [List.length_drop]; omega
  obtain ⟨l1, hl2⟩ : ∃ l1, l1 = l.drop 1 := ⟨_, rfl⟩
  rw [← hl2] at R hl1 ⊢
  clear hf h h6 hcell hl2
  have c1 := fun W h => refRdrU g l1 0 W h (by omega)
  obtain ⟨r, hr⟩ : ∃ r, r = rdU l1 0 := ⟨_, rfl⟩
  rw [← hr] at c1 ⊢
  have C1 := Lib.hid c1
  clear hr c1 hrow hg ht
  go_enter Tryd.func34, Tryd.ntmps34
  go_wp2_with fail
  refine (C1.out _ (by exact R.out)).mono ?_
  rintro x w2 ⟨rfl, hr2, hg2⟩
  obtain ⟨k1, k2, ks, k3⟩ := two_blocks hlt hg2
  obtain ⟨y0, y1, y2, y3, y4, y5⟩ := At0.of (y := c0) k1
  obtain ⟨z0, z1, z2, z3, z4, z5⟩ := At0.of (y := ⟨4, .empty, 0, 0, 0, 0⟩) k2
  have fz1 : ∀ j, w2.frozen? ⟨w.heap.size, j, none⟩ = false := fun j => by simp [World.frozen?, k1]
  have fz2 : ∀ j, w2.frozen? ⟨w.heap.size + 1, j, none⟩ = false := fun j => by simp [World.frozen?, k2]
  have K1 : Hid (w2.heap[w.heap.size]? = some (.cells c0.vals 44 (0, 0))) := k1
  have K2 : Hid (w2.heap[w.heap.size + 1]? = some (.cells (Cst.vals ⟨4, .empty, 0, 0, 0, 0⟩) 44 (0, 0))) := k2
  have K3 := Lib.hid k3
  have HR := Lib.hid hr2
  simp only [c0] at y0 y1 y2 y3 y4 y5
  simp only at z0 z1 z2 z3 z4 z5
  clear k1 k2 k3 hr2 hg2 R t4 t4' a0 a1 b0 f0 f1
  go_wp2
  exact bodyPost_ret (v := .agg (Cst.vals ⟨4, .empty, 0, r.1, 0, 0⟩)) (by unfold Cst.vals; simp [results, Tryd.results34, go_sem, y0, y1, y2, y3, y4, y5]) rfl ⟨rfl, rdr_far HR.out (far6 ((Far.refl _ _).set (.inr rfl) _) _ _ _ _ _ _) K1.out K2.out hlt, grown_far K3.out (far6 ((Far.refl _ _).set (.inr rfl) _) _ _ _ _ _ _)⟩

/-- A store into the second block, and a call behind it. -/
theorem mid_step {T : TypeId} {w w2 w3 : World} {g j : Nat} {u : Value} {x y : Cst} (hlt : g < w.heap.size) (k1 : w2.heap[w.heap.size]? = some (.cells c0.vals T (0, 0))) (k2 : w2.heap[w.heap.size + 1]? = some (.cells x.vals T (0, 0)))
    (k3 : w.grownBy w2 (some g)) (hy : x.vals.setIfInBounds j u = y.vals) (hg : (w2.setCell ⟨w.heap.size + 1, j, none⟩ u).grownBy w3 (some g)) :
    w3.heap[w.heap.size]? = some (.cells c0.vals T (0, 0)) ∧ w3.heap[w.heap.size + 1]? = some (.cells y.vals T (0, 0)) ∧ w.grownBy w3 (some g) := by
  have z1 := lt_of_get k1
  have z2 := lt_of_get k2
  have hs : (w2.setCell ⟨w.heap.size + 1, j, none⟩ u).heap.size = w2.heap.size := by simp [World.setCell]
  refine ⟨?_, ?_, grown_two (grown_far k3 ((Far.refl _ _).set (.inr rfl) u)) hg⟩
  · rw [hg.block w.heap.size (by omega) (fun e => by injection e; omega), Below.heap_setCell w2 _ u w.heap.size (by simp), k1]
  · rw [hg.block (w.heap.size + 1) (by omega) (fun e => by injection e; omega), heap_setCell_same w2 (w.heap.size + 1) j _ T u k2, hy]

set_option maxRecDepth 100000 in
set_option maxHeartbeats 4000000 in
theorem refOne_5 (g : Nat) (l : List Int) (w : World) (h : Rdr 64 w g l 0) (h0 : 0 < l.length) (hk : Hid (gi l 0 = 5)) (hl : l.length + 4 ≤ 140737488355328) :
    Calls Tryd.prog 34 #[.pointer (some ⟨g, 0, none⟩)] w (RdrRet 64 w g (.agg (Cst.vals ⟨5, .empty, 0, (rdU (l.drop 1) 0).1, (rdU (rdU (l.drop 1) 0).2.1 (rdU (l.drop 1) 0).2.2).1, (rdU (rdU (rdU (l.drop 1) 0).2.1 (rdU (l.drop 1) 0).2.2).2.1 (rdU (rdU (l.drop 1) 0).2.1 (rdU (l.drop 1) 0).2.2).2.2).1⟩)) (rdU (rdU (rdU (l.drop 1) 0).2.1 (rdU (l.drop 1) 0).2.2).2.1 (rdU (rdU (l.drop 1) 0).2.1 (rdU (l.drop 1) 0).2.2).2.2).2.1 (rdU (rdU (rdU (l.drop 1) 0).2.1 (rdU (l.drop 1) 0).2.2).2.1 (rdU (rdU (l.drop 1) 0).2.1 (rdU (l.drop 1) 0).2.2).2.2).2.2) := by
  have hlt := h.lt
  obtain ⟨A, c, hc1, hc2, hrow, hg, a0, a1, hf, hty⟩ := h.cells
  unfold maxLen at hc2
  have f0 := hf 0
  have f1 := hf 1
  obtain ⟨v4, t4, t4', ht, hts⟩ := tail_sliceT hrow 1 (by omega)
  have hyt := hts _ hty.out
  clear hts
  simp only [show ((1 : Nat) : Int) = 1 from rfl] at t4 t4'
  obtain ⟨A4, c4, hv4, _⟩ := id ht
  rw [List.length_drop] at hv4
  subst hv4
  obtain ⟨A', c', hv, _, _, _, hfit, h6⟩ := id hrow
  injection hv with e1 _ e3
  subst e1 e3
  obtain ⟨bl, o, rfl, hbl, hcell⟩ := h6 h0
  have b0 := hcell 0 h0
  have hb8 := hfit.u8 (gi_mem h0)
  rw [hk.out, Nat.add_zero] at b0
  rw [hk.out] at hb8
  have R := Lib.hid (rdr_grown (Rdr.rest hg ht hyt) (((Ext.refl _).alloc (.cells #[.int .i64 0, .string .empty, .int .i64 0, .int .i64 0, .int .i64 0, .int .i64 0] 44)).alloc (.cells #[.int .i64 (5), .string .empty, .int .i64 0, .int .i64 0, .int .i64 0, .int .i64 0] 44)))
  have hl1 : (l.drop 1).length ≤ l.length := by rw [List.length_drop]; omega
  obtain ⟨l1, hl2⟩ : ∃ l1, l1 = l.drop 1 := ⟨_, rfl⟩
  rw [← hl2] at R hl1 ⊢
  clear hf h h6 hcell hl2
  have n1 := rdU_len l1 0
  have c1 := fun W h => refRdrU g l1 0 W h (by omega)
  obtain ⟨r1, e1⟩ : ∃ r1, r1 = rdU l1 0 := ⟨_, rfl⟩
  rw [← e1] at c1 n1 ⊢
  have n2 := rdU_len r1.2.1 r1.2.2
  have c2 := fun W h => refRdrU g r1.2.1 r1.2.2 W h (by omega)
  obtain ⟨r2, e2⟩ : ∃ r2, r2 = rdU r1.2.1 r1.2.2 := ⟨_, rfl⟩
  rw [← e2] at c2 n2 ⊢
  have c3 := fun W h => refRdrU g r2.2.1 r2.2.2 W h (by omega)
  obtain ⟨r3, e3⟩ : ∃ r3, r3 = rdU r2.2.1 r2.2.2 := ⟨_, rfl⟩
  rw [← e3] at c3 ⊢
  have C1 := Lib.hid c1
  have C2 := Lib.hid c2
  have C3 := Lib.hid c3
  clear e1 e2 e3 c1 c2 c3 n1 n2 hrow hg ht
  go_enter Tryd.func34, Tryd.ntmps34
  go_wp2_with fail
  refine (C1.out _ (by exact R.out)).mono ?_
  rintro x w2 ⟨rfl, hr, hg2⟩
  obtain ⟨k1, k2, ks, k3⟩ := two_blocks hlt hg2
  clear R t4 t4' a0 a1 b0 f0 f1 hg2 ks
  obtain ⟨z0, z1, z2, z3, z4, z5⟩ := At0.of (y := ⟨5, .empty, 0, 0, 0, 0⟩) k2
  simp only at z0 z1 z2 z3 z4 z5
  have fz2 : ∀ j, w2.frozen? ⟨w.heap.size + 1, j, none⟩ = false := fun j => by simp [World.frozen?, k2]
  have K1 : Hid (w2.heap[w.heap.size]? = some (.cells c0.vals 44 (0, 0))) := k1
  have K2 : Hid (w2.heap[w.heap.size + 1]? = some (.cells (Cst.vals ⟨5, .empty, 0, 0, 0, 0⟩) 44 (0, 0))) := k2
  have K3 := Lib.hid k3
  have HR := Lib.hid hr
  clear k1 k2 k3 hr
  go_wp2_with fail
  refine (C2.out _ (by exact rdr_far HR.out ((Far.refl _ _).set (.inr rfl) _) K1.out K2.out hlt)).mono ?_
  rintro x w3 ⟨rfl, hr, hg3⟩
  obtain ⟨k1, k2, k3⟩ := mid_step (y := ⟨5, .empty, 0, r1.1, 0, 0⟩) hlt K1.out K2.out K3.out (by rfl) hg3
  clear z0 z1 z2 z3 z4 z5 fz2 K1 K2 K3 HR hg3
  obtain ⟨z0, z1, z2, z3, z4, z5⟩ := At0.of (y := ⟨5, .empty, 0, r1.1, 0, 0⟩) k2
  simp only at z0 z1 z2 z3 z4 z5
  have fz2 : ∀ j, w3.frozen? ⟨w.heap.size + 1, j, none⟩ = false := fun j => by simp [World.frozen?, k2]
  have K1 : Hid (w3.heap[w.heap.size]? = some (.cells c0.vals 44 (0, 0))) := k1
  have K2 : Hid (w3.heap[w.heap.size + 1]? = some (.cells (Cst.vals ⟨5, .empty, 0, r1.1, 0, 0⟩) 44 (0, 0))) := k2
  have K3 := Lib.hid k3
  have HR := Lib.hid hr
  clear k1 k2 k3 hr
  go_wp2_with fail
  refine (C3.out _ (by exact rdr_far HR.out ((Far.refl _ _).set (.inr rfl) _) K1.out K2.out hlt)).mono ?_
  rintro x w4 ⟨rfl, hr, hg4⟩
  obtain ⟨k1, k2, k3⟩ := mid_step (y := ⟨5, .empty, 0, r1.1, r2.1, 0⟩) hlt K1.out K2.out K3.out (by rfl) hg4
  clear z0 z1 z2 z3 z4 z5 fz2 K1 K2 K3 HR hg4
  obtain ⟨y0, y1, y2, y3, y4, y5⟩ := At0.of (y := c0) k1
  simp only [c0] at y0 y1 y2 y3 y4 y5
  obtain ⟨z0, z1, z2, z3, z4, z5⟩ := At0.of (y := ⟨5, .empty, 0, r1.1, r2.1, 0⟩) k2
  simp only at z0 z1 z2 z3 z4 z5
  have fz1 : ∀ j, w4.frozen? ⟨w.heap.size, j, none⟩ = false := fun j => by simp [World.frozen?, k1]
  have fz2 : ∀ j, w4.frozen? ⟨w.heap.size + 1, j, none⟩ = false := fun j => by simp [World.frozen?, k2]
  have K1 : Hid (w4.heap[w.heap.size]? = some (.cells c0.vals 44 (0, 0))) := k1
  have K2 : Hid (w4.heap[w.heap.size + 1]? = some (.cells (Cst.vals ⟨5, .empty, 0, r1.1, r2.1, 0⟩) 44 (0, 0))) := k2
  have K3 := Lib.hid k3
  have HR := Lib.hid hr
  clear k1 k2 k3 hr
  go_wp2
  exact bodyPost_ret (v := .agg (Cst.vals ⟨5, .empty, 0, r1.1, r2.1, r3.1⟩)) (by unfold Cst.vals; simp [results, Tryd.results34, go_sem, y0, y1, y2, y3, y4, y5]) rfl ⟨rfl, rdr_far HR.out (far6 ((Far.refl _ _).set (.inr rfl) _) _ _ _ _ _ _) K1.out K2.out hlt, grown_far K3.out (far6 ((Far.refl _ _).set (.inr rfl) _) _ _ _ _ _ _)⟩

set_option maxRecDepth 100000 in
set_option maxHeartbeats 4000000 in
theorem refOne_6 (g : Nat) (l : List Int) (w : World) (h : Rdr 64 w g l 0) (h0 : 0 < l.length) (hk : Hid (gi l 0 = 6)) (hl : l.length + 4 ≤ 140737488355328) :
    Calls Tryd.prog 34 #[.pointer (some ⟨g, 0, none⟩)] w (RdrRet 64 w g (.agg (Cst.vals ⟨6, .empty, 0, (rdU (l.drop 1) 0).1, (rdU (rdU (l.drop 1) 0).2.1 (rdU (l.drop 1) 0).2.2).1, (rdU (rdU (rdU (l.drop 1) 0).2.1 (rdU (l.drop 1) 0).2.2).2.1 (rdU (rdU (l.drop 1) 0).2.1 (rdU (l.drop 1) 0).2.2).2.2).1⟩)) (rdU (rdU (rdU (l.drop 1) 0).2.1 (rdU (l.drop 1) 0).2.2).2.1 (rdU (rdU (l.drop 1) 0).2.1 (rdU (l.drop 1) 0).2.2).2.2).2.1 (rdU (rdU (rdU (l.drop 1) 0).2.1 (rdU (l.drop 1) 0).2.2).2.1 (rdU (rdU (l.drop 1) 0).2.1 (rdU (l.drop 1) 0).2.2).2.2).2.2) := by
  have hlt := h.lt
  obtain ⟨A, c, hc1, hc2, hrow, hg, a0, a1, hf, hty⟩ := h.cells
  unfold maxLen at hc2
  have f0 := hf 0
  have f1 := hf 1
  obtain ⟨v4, t4, t4', ht, hts⟩ := tail_sliceT hrow 1 (by omega)
  have hyt := hts _ hty.out
  clear hts
  simp only [show ((1 : Nat) : Int) = 1 from rfl] at t4 t4'
  obtain ⟨A4, c4, hv4, _⟩ := id ht
  rw [List.length_drop] at hv4
  subst hv4
  obtain ⟨A', c', hv, _, _, _, hfit, h6⟩ := id hrow
  injection hv with e1 _ e3
  subst e1 e3
  obtain ⟨bl, o, rfl, hbl, hcell⟩ := h6 h0
  have b0 := hcell 0 h0
  have hb8 := hfit.u8 (gi_mem h0)
  rw [hk.out, Nat.add_zero] at b0
  rw [hk.out] at hb8
  have R := Lib.hid (rdr_grown (Rdr.rest hg ht hyt) (((Ext.refl _).alloc (.cells #[.int .i64 0, .string .empty, .int .i64 0, .int .i64 0, .int .i64 0, .int .i64 0] 44)).alloc (.cells #[.int .i64 (6), .string .empty, .int .i64 0, .int .i64 0, .int .i64 0, .int .i64 0] 44)))
  have hl1 : (l.drop 1).length ≤ l.length := by rw [List.length_drop]; omega
  obtain ⟨l1, hl2⟩ : ∃ l1, l1 = l.drop 1 := ⟨_, rfl⟩
  rw [← hl2] at R hl1 ⊢
  clear hf h h6 hcell hl2
  have n1 := rdU_len l1 0
  have c1 := fun W h => refRdrU g l1 0 W h (by omega)
  obtain ⟨r1, e1⟩ : ∃ r1, r1 = rdU l1 0 := ⟨_, rfl⟩
  rw [← e1] at c1 n1 ⊢
  have n2 := rdU_len r1.2.1 r1.2.2
  have c2 := fun W h => refRdrU g r1.2.1 r1.2.2 W h (by omega)
  obtain ⟨r2, e2⟩ : ∃ r2, r2 = rdU r1.2.1 r1.2.2 := ⟨_, rfl⟩
  rw [← e2] at c2 n2 ⊢
  have c3 := fun W h => refRdrU g r2.2.1 r2.2.2 W h (by omega)
  obtain ⟨r3, e3⟩ : ∃ r3, r3 = rdU r2.2.1 r2.2.2 := ⟨_, rfl⟩
  rw [← e3] at c3 ⊢
  have C1 := Lib.hid c1
  have C2 := Lib.hid c2
  have C3 := Lib.hid c3
  clear e1 e2 e3 c1 c2 c3 n1 n2 hrow hg ht
  go_enter Tryd.func34, Tryd.ntmps34
  go_wp2_with fail
  refine (C1.out _ (by exact R.out)).mono ?_
  rintro x w2 ⟨rfl, hr, hg2⟩
  obtain ⟨k1, k2, ks, k3⟩ := two_blocks hlt hg2
  clear R t4 t4' a0 a1 b0 f0 f1 hg2 ks
  obtain ⟨z0, z1, z2, z3, z4, z5⟩ := At0.of (y := ⟨6, .empty, 0, 0, 0, 0⟩) k2
  simp only at z0 z1 z2 z3 z4 z5
  have fz2 : ∀ j, w2.frozen? ⟨w.heap.size + 1, j, none⟩ = false := fun j => by simp [World.frozen?, k2]
  have K1 : Hid (w2.heap[w.heap.size]? = some (.cells c0.vals 44 (0, 0))) := k1
  have K2 : Hid (w2.heap[w.heap.size + 1]? = some (.cells (Cst.vals ⟨6, .empty, 0, 0, 0, 0⟩) 44 (0, 0))) := k2
  have K3 := Lib.hid k3
  have HR := Lib.hid hr
  clear k1 k2 k3 hr
  go_wp2_with fail
  refine (C2.out _ (by exact rdr_far HR.out ((Far.refl _ _).set (.inr rfl) _) K1.out K2.out hlt)).mono ?_
  rintro x w3 ⟨rfl, hr, hg3⟩
  obtain ⟨k1, k2, k3⟩ := mid_step (y := ⟨6, .empty, 0, r1.1, 0, 0⟩) hlt K1.out K2.out K3.out (by rfl) hg3
  clear z0 z1 z2 z3 z4 z5 fz2 K1 K2 K3 HR hg3
  obtain ⟨z0, z1, z2, z3, z4, z5⟩ := At0.of (y := ⟨6, .empty, 0, r1.1, 0, 0⟩) k2
  simp only at z0 z1 z2 z3 z4 z5
  have fz2 : ∀ j, w3.frozen? ⟨w.heap.size + 1, j, none⟩ = false := fun j => by simp [World.frozen?, k2]
  have K1 : Hid (w3.heap[w.heap.size]? = some (.cells c0.vals 44 (0, 0))) := k1
  have K2 : Hid (w3.heap[w.heap.size + 1]? = some (.cells (Cst.vals ⟨6, .empty, 0, r1.1, 0, 0⟩) 44 (0, 0))) := k2
  have K3 := Lib.hid k3
  have HR := Lib.hid hr
  clear k1 k2 k3 hr
  go_wp2_with fail
  refine (C3.out _ (by exact rdr_far HR.out ((Far.refl _ _).set (.inr rfl) _) K1.out K2.out hlt)).mono ?_
  rintro x w4 ⟨rfl, hr, hg4⟩
  obtain ⟨k1, k2, k3⟩ := mid_step (y := ⟨6, .empty, 0, r1.1, r2.1, 0⟩) hlt K1.out K2.out K3.out (by rfl) hg4
  clear z0 z1 z2 z3 z4 z5 fz2 K1 K2 K3 HR hg4
  obtain ⟨y0, y1, y2, y3, y4, y5⟩ := At0.of (y := c0) k1
  simp only [c0] at y0 y1 y2 y3 y4 y5
  obtain ⟨z0, z1, z2, z3, z4, z5⟩ := At0.of (y := ⟨6, .empty, 0, r1.1, r2.1, 0⟩) k2
  simp only at z0 z1 z2 z3 z4 z5
  have fz1 : ∀ j, w4.frozen? ⟨w.heap.size, j, none⟩ = false := fun j => by simp [World.frozen?, k1]
  have fz2 : ∀ j, w4.frozen? ⟨w.heap.size + 1, j, none⟩ = false := fun j => by simp [World.frozen?, k2]
  have K1 : Hid (w4.heap[w.heap.size]? = some (.cells c0.vals 44 (0, 0))) := k1
  have K2 : Hid (w4.heap[w.heap.size + 1]? = some (.cells (Cst.vals ⟨6, .empty, 0, r1.1, r2.1, 0⟩) 44 (0, 0))) := k2
  have K3 := Lib.hid k3
  have HR := Lib.hid hr
  clear k1 k2 k3 hr
  go_wp2
  exact bodyPost_ret (v := .agg (Cst.vals ⟨6, .empty, 0, r1.1, r2.1, r3.1⟩)) (by unfold Cst.vals; simp [results, Tryd.results34, go_sem, y0, y1, y2, y3, y4, y5]) rfl ⟨rfl, rdr_far HR.out (far6 ((Far.refl _ _).set (.inr rfl) _) _ _ _ _ _ _) K1.out K2.out hlt, grown_far K3.out (far6 ((Far.refl _ _).set (.inr rfl) _) _ _ _ _ _ _)⟩

theorem Rdr.both' {T : TypeId} {w : World} {g : Nat} {A0 : Option Addr} {n0 c0 : Nat} {e0 e : Int} {v : Value} {l : List Int} (hg : w.heap[g]? = some (.cells #[.slice A0 n0 c0, .int .i64 e0] T (0, 0))) (hv : Row w .u8 v l) (hy : Hid (Typed 5 w v l)) :
    Rdr T ((w.setCell ⟨g, 0, none⟩ v).setCell ⟨g, 1, none⟩ (.int .i64 e)) g l e := by
  have h1 := heap_setCell_same w g 0 _ T v hg
  have h2 := heap_setCell_same (w.setCell ⟨g, 0, none⟩ v) g 1 _ T (.int .i64 e) h1
  exact ⟨v, by rw [h2]; rfl, row_set hg hv hy.out (only_set (only_set (World.grownBy.refl w (some g)) 0 _) 1 _)⟩

set_option maxRecDepth 100000 in
set_option maxHeartbeats 4000000 in
theorem refOne_no (g : Nat) (l : List Int) (w : World) (h : Rdr 64 w g l 0) (h0 : 0 < l.length) (k : Int) (hn : k ≠ 1 ∧ k ≠ 2 ∧ k ≠ 3 ∧ k ≠ 4 ∧ k ≠ 5 ∧ k ≠ 6) (hk : Hid (gi l 0 = k)) (hl : l.length + 4 ≤ 140737488355328) :
    Calls Tryd.prog 34 #[.pointer (some ⟨g, 0, none⟩)] w (RdrRet 64 w g (.agg (Cst.vals ⟨k, .empty, 0, 0, 0, 0⟩)) (l.drop 1) 4) := by
  have hlt := h.lt
  obtain ⟨A, c, hc1, hc2, hrow, hg, a0, a1, hf, hty⟩ := h.cells
  unfold maxLen at hc2
  have f0 := hf 0
  have f1 := hf 1
  obtain ⟨v4, t4, t4', ht, hts⟩ := tail_sliceT hrow 1 (by omega)
  have hyt := hts _ hty.out
  clear hts
  simp only [show ((1 : Nat) : Int) = 1 from rfl] at t4 t4'
  obtain ⟨A4, c4, hv4, _⟩ := id ht
  rw [List.length_drop] at hv4
  subst hv4
  obtain ⟨A', c', hv, _, _, _, hfit, h6⟩ := id hrow
  injection hv with e1 _ e3
  subst e1 e3
  obtain ⟨bl, o, rfl, hbl, hcell⟩ := h6 h0
  have b0 := hcell 0 h0
  have hb8 := hfit.u8 (gi_mem h0)
  rw [hk.out, Nat.add_zero] at b0
  rw [hk.out] at hb8
  have O := Lib.hid (((Ext.refl ((w.setCell ⟨g, 0, none⟩ (.slice A4 (l.length - 1) c4)).setCell ⟨g, 1, none⟩ (.int .i64 4))).alloc (.cells #[.int .i64 k, .string .empty, .int .i64 0, .int .i64 0, .int .i64 0, .int .i64 0] 44)).alloc (.cells #[.int .i64 k, .string .empty, .int .i64 0, .int .i64 0, .int .i64 0, .int .i64 0] 44))
  have R := Lib.hid (rdr_grown (Rdr.both' (e := 4) hg ht hyt) O.out)
  have G := Lib.hid (grown_then (only_set (only_set (World.grownBy.refl w (some g)) 0 (.slice A4 (l.length - 1) c4)) 1 (.int .i64 4)) O.out)
  obtain ⟨l1, hl2⟩ : ∃ l1, l1 = l.drop 1 := ⟨_, rfl⟩
  rw [← hl2] at R ⊢
  obtain ⟨q1, q2, q3, q4, q5, q6⟩ := hn
  have b1 : (k == 1) = false := by simpa using q1
  have b2 : (k == 2) = false := by simpa using q2
  have b3 : (k == 3) = false := by simpa using q3
  have b4 : (k == 4) = false := by simpa using q4
  have b5 : (k == 5) = false := by simpa using q5
  have b6 : (k == 6) = false := by simpa using q6
  clear hf h h6 hcell hrow hg ht O hyt hl2
  go_enter Tryd.func34, Tryd.ntmps34
  go_wp2
  exact bodyPost_ret (v := .agg (Cst.vals ⟨k, .empty, 0, 0, 0, 0⟩)) (by unfold Cst.vals; simp [results, Tryd.results34, go_sem]; rfl) rfl ⟨rfl, R.out, G.out⟩

theorem refOne_any (g : Nat) (l : List Int) (w : World) (h : Rdr 64 w g l 0) (hl : l.length + 4 ≤ 140737488355328) :
    Calls Tryd.prog 34 #[.pointer (some ⟨g, 0, none⟩)] w (RdrRet 64 w g (.agg (rdOne l).1.vals) (rdOne l).2.1 (rdOne l).2.2) := by
  by_cases h0 : l = []
  · subst h0
    have e : rdOne [] = (c0, [], 3) := rfl
    rw [e]
    exact refOne_0 g w h
  · have hp : 0 < l.length := List.length_pos_iff.2 h0
    unfold rdOne
    rw [if_neg h0]
    by_cases k1 : gi l 0 = 1
    · rw [if_pos k1]
      exact refOne_1 g l w h hp k1 hl
    rw [if_neg k1]
    by_cases k2 : gi l 0 = 2
    · rw [if_pos (.inl k2), k2]
      exact refOne_2 g l w h hp k2 hl
    by_cases k3 : gi l 0 = 3
    · rw [if_pos (.inr k3), k3]
      exact refOne_3 g l w h hp k3 hl
    rw [if_neg (by omega)]
    by_cases k4 : gi l 0 = 4
    · rw [if_pos k4]
      exact refOne_4 g l w h hp k4 hl
    rw [if_neg k4]
    by_cases k5 : gi l 0 = 5
    · rw [if_pos (.inl k5), k5]
      exact refOne_5 g l w h hp k5 hl
    by_cases k6 : gi l 0 = 6
    · rw [if_pos (.inr k6), k6]
      exact refOne_6 g l w h hp k6 hl
    rw [if_neg (by omega)]
    exact refOne_no g l w h hp _ ⟨k1, k2, k3, k4, k5, k6⟩ rfl hl

end Go.Proofs.YtecgldkhjgcffaaDoor
/- Reading constants: plain mathematics: what is left is an end of what there was; numbers, room. -/
namespace Go.Proofs.YtecgldkhjgcffaaDoor
open Go.RowKit
set_option linter.unusedVariables false

theorem Fit.suf {k : IntKind} {l m : List Int} (h : Fit k l) (hs : m <:+ l) : Fit k m := fun x hx => h x (hs.subset hx)
theorem tU_suf (l : List Int) : (tU l).2.1 <:+ l := by
  by_cases h : (tU l).2.2 = 0
  · exact ⟨_, (tU_ok h).2⟩
  · rw [(tU_err h).2]
    exact List.nil_suffix
theorem tS_suf (m : Nat) (wy : Int) (l : List Int) : (tS m wy l).2.1 <:+ l := by
  by_cases h : (tS m wy l).2.2 = 0
  · exact ⟨_, tS_ok h⟩
  · rw [(tS_err h).2.1]
    exact List.nil_suffix
theorem rdU_suf (l : List Int) (e : Int) : (rdU l e).2.1 <:+ l := by
  unfold rdU
  split
  · exact tU_suf l
  · exact List.suffix_refl l
theorem rdS_suf (l : List Int) (e : Int) : (rdS l e).2.1 <:+ l := by
  unfold rdS
  split
  · exact tS_suf 10 2 l
  · exact List.suffix_refl l
theorem rdT_suf (l : List Int) (e : Int) : (rdT l e).2.1 <:+ l := by
  unfold rdT
  split
  · exact rdU_suf l e
  · split
    · exact rdU_suf l e
    · exact (List.drop_suffix _ _).trans (rdU_suf l e)
theorem rdOne_suf (l : List Int) : (rdOne l).2.1 <:+ l := by
  unfold rdOne
  have h1 : l.drop 1 <:+ l := List.drop_suffix 1 l
  split
  · exact List.nil_suffix
  · split
    · exact (rdT_suf _ _).trans h1
    · split
      · exact (rdS_suf _ _).trans h1
      · split
        · exact (rdU_suf _ _).trans h1
        · split
          · exact (rdU_suf _ _).trans ((rdU_suf _ _).trans ((rdU_suf _ _).trans h1))
          · exact h1
theorem rdU_rng (l : List Int) (e : Int) : 0 ≤ (rdU l e).1 ∧ (rdU l e).1 ≤ 9007199254740991 := by
  by_cases h : (rdU l e).2.2 = 0
  · exact rdU_pos h
  · unfold rdU at h ⊢
    by_cases he : e = 0
    · rw [if_pos he] at h ⊢
      rw [(tU_err h).1]
      omega
    · rw [if_neg he]
      simp
theorem rdU_i64 (l : List Int) (e : Int) : I64 (rdU l e).1 := by
  have := rdU_rng l e
  exact ⟨by omega, by omega⟩
theorem rdS_i64 {l : List Int} (hf : Fit .u8 l) (e : Int) : I64 (rdS l e).1 := by
  unfold rdS
  split
  · exact tS_range hf
  · exact i64_zero
theorem rdOne_ok {l : List Int} (hf : Fit .u8 l) : (rdOne l).1.ok := by
  have hg : I64 (gi l 0) := by
    have := hf.gi 0
    exact ⟨by omega, by omega⟩
  have h1 := hf.suf (List.drop_suffix 1 l)
  unfold rdOne
  split
  · exact c0_ok
  · split
    · exact ⟨⟨by simp, by simp⟩, i64_zero, i64_zero, i64_zero, i64_zero⟩
    · split
      · exact ⟨hg, rdS_i64 h1 _, i64_zero, i64_zero, i64_zero⟩
      · split
        · exact ⟨⟨by simp, by simp⟩, i64_zero, rdU_i64 _ _, i64_zero, i64_zero⟩
        · split
          · exact ⟨hg, i64_zero, rdU_i64 _ _, rdU_i64 _ _, rdU_i64 _ _⟩
          · exact ⟨hg, i64_zero, i64_zero, i64_zero, i64_zero⟩
/-- A text has room, as it was read off so many bytes. -/
def Fits (t : ByteArray) (n : Nat) : Prop := t.size ≤ n ∧ (encZ t.data.toList).length ≤ n
theorem fits_empty (n : Nat) : Fits .empty n := ⟨Nat.zero_le _, by
  have : encZ (ByteArray.empty).data.toList = [] := rfl
  rw [this]
  exact Nat.zero_le _⟩
theorem Fits.le {t : ByteArray} {n m : Nat} (h : Fits t n) (hm : n ≤ m) : Fits t m := ⟨Nat.le_trans h.1 hm, Nat.le_trans h.2 hm⟩
theorem decT_fits {p : List Int} (hf : Fit .u8 p) : Fits (decT p).1 p.length := by
  unfold decT
  split
  · rename_i h
    obtain ⟨_, h2, h3⟩ := dec_back hf h _ rfl
    exact ⟨h3, by rw [h2]; exact Nat.le_refl _⟩
  · exact fits_empty _
theorem rdT_fits {l : List Int} (hf : Fit .u8 l) (e : Int) : Fits (rdT l e).1 l.length := by
  unfold rdT
  split
  · exact fits_empty _
  · split
    · exact fits_empty _
    · refine (decT_fits ((hf.suf (rdU_suf l e)).take _)).le ?_
      have := (rdU_suf l e).length_le
      simp only [List.length_take]
      omega
theorem rdOne_fits {l : List Int} (hf : Fit .u8 l) : Fits (rdOne l).1.t l.length := by
  unfold rdOne
  split
  · exact fits_empty _
  · split
    · exact (rdT_fits (hf.suf (List.drop_suffix 1 l)) 0).le (by simp)
    · split
      · exact fits_empty _
      · split
        · exact fits_empty _
        · split
          · exact fits_empty _
          · exact fits_empty _

/-- What is read in so many rounds: constants, what is left, the first error. -/
def rdList (p : List Int) (e : Int) : Nat → List Cst × List Int × Int
  | 0 => ([], p, e)
  | k + 1 => if (rdList p e k).2.2 = 0 then (if k = 0 then ([c0], (rdList p e k).2) else ((rdList p e k).1 ++ [(rdOne (rdList p e k).2.1).1], (rdOne (rdList p e k).2.1).2)) else rdList p e k
theorem rdList_zero (p : List Int) (e : Int) : rdList p e 0 = ([], p, e) := rfl
theorem rdList_first (p : List Int) : rdList p 0 1 = ([c0], p, 0) := by simp [rdList]
theorem rdList_next {p : List Int} {e : Int} {k : Nat} (hk : 1 ≤ k) (h : (rdList p e k).2.2 = 0) : rdList p e (k + 1) = ((rdList p e k).1 ++ [(rdOne (rdList p e k).2.1).1], (rdOne (rdList p e k).2.1).2) := by
  rw [rdList, if_pos h, if_neg (by omega)]
theorem rdList_past {p : List Int} {e : Int} {k : Nat} (h : ¬ (rdList p e k).2.2 = 0) : ∀ m, k ≤ m → rdList p e m = rdList p e k := by
  intro m hm
  induction m with
  | zero => rw [show k = 0 by omega]
  | succ m ih =>
    by_cases hk : k = m + 1
    · rw [hk]
    · have := ih (by omega)
      rw [rdList, this, if_neg h]
theorem rdList_len {p : List Int} {e : Int} : ∀ {k : Nat}, (rdList p e k).2.2 = 0 → (rdList p e k).1.length = k := by
  intro k
  induction k with
  | zero => exact fun _ => rfl
  | succ k ih =>
    intro h
    rw [rdList] at h ⊢
    by_cases h0 : (rdList p e k).2.2 = 0
    · rw [if_pos h0] at h ⊢
      by_cases hk : k = 0
      · rw [if_pos hk, hk]; rfl
      · rw [if_neg hk]
        simp [ih h0]
    · rw [if_neg h0] at h
      exact absurd h h0
theorem rdList_le (p : List Int) (e : Int) : ∀ k : Nat, (rdList p e k).1.length ≤ k := by
  intro k
  induction k with
  | zero => exact Nat.le_refl _
  | succ k ih =>
    rw [rdList]
    split
    · split
      · simp
      · simp [ih]
    · omega
theorem rdList_suf (p : List Int) (e : Int) : ∀ k : Nat, (rdList p e k).2.1 <:+ p := by
  intro k
  induction k with
  | zero => exact List.suffix_refl p
  | succ k ih =>
    rw [rdList]
    split
    · split
      · exact ih
      · exact (rdOne_suf _).trans ih
    · exact ih
theorem rdList_all {p : List Int} (hf : Fit .u8 p) (e : Int) : ∀ k : Nat, ∀ x ∈ (rdList p e k).1, x.ok ∧ Fits x.t p.length := by
  intro k
  induction k with
  | zero => exact fun x hx => by cases hx
  | succ k ih =>
    intro x hx
    rw [rdList] at hx
    split at hx
    · split at hx
      · rw [List.mem_singleton.1 hx]
        exact ⟨c0_ok, fits_empty _⟩
      · rcases List.mem_append.1 hx with hx | hx
        · exact ih x hx
        · rw [List.mem_singleton.1 hx]
          have hs := rdList_suf p e k
          exact ⟨rdOne_ok (hf.suf hs), (rdOne_fits (hf.suf hs)).le hs.length_le⟩
    · exact ih x hx
/-- What Parse answers: constants, what stands behind, the error. -/
def cntZ (b : List Int) : Int := if (tU b).2.2 = 0 ∧ 4096 < (tU b).1 then 5 else (tU b).2.2
def manyZ (b : List Int) : List Cst × List Int × Int := rdList (tU b).2.1 (cntZ b) (tU b).1.toNat
noncomputable def errZ (b : List Int) : Int := if (manyZ b).2.2 = 0 then checkC (manyZ b).1 else (manyZ b).2.2
noncomputable def parseZ (b : List Int) : List Cst × List Int × Int := if errZ b = 0 then ((manyZ b).1, (manyZ b).2.1, 0) else ([], [], errZ b)
theorem many_all {b : List Int} (hf : Fit .u8 b) : (∀ x ∈ (manyZ b).1, x.ok ∧ Fits x.t b.length) ∧ (manyZ b).2.1 <:+ b := by
  have hs := tU_suf b
  exact ⟨fun x hx => by
    obtain ⟨h1, h2⟩ := rdList_all (hf.suf hs) _ _ x hx
    exact ⟨h1, h2.le hs.length_le⟩, (rdList_suf _ _ _).trans hs⟩
theorem many_small {b : List Int} (h : (manyZ b).2.2 = 0) : (manyZ b).1.length ≤ 4096 := by
  have h1 := rdList_len (k := (tU b).1.toNat) h
  by_cases hc : (tU b).2.2 = 0 ∧ 4096 < (tU b).1
  · exfalso
    have hz : cntZ b = 5 := by unfold cntZ; rw [if_pos hc]
    unfold manyZ at h
    rw [hz, rdList_past (k := 0) (by simp [rdList]) _ (Nat.zero_le _)] at h
    simp [rdList] at h
  · have hz : cntZ b = (tU b).2.2 := by unfold cntZ; rw [if_neg hc]
    by_cases he : (tU b).2.2 = 0
    · have : ¬ 4096 < (tU b).1 := fun h => hc ⟨he, h⟩
      unfold manyZ
      omega
    · rw [show (manyZ b).1.length = (tU b).1.toNat from h1, (tU_err he).1]
      simp
end Go.Proofs.YtecgldkhjgcffaaDoor
/- Constants as bytes, there and back: plain mathematics. -/
namespace Go.Proofs.YtecgldkhjgcffaaDoor
open Go.RowKit
set_option linter.unusedVariables false

/-- Constants' bytes, one behind the other. -/
def encs (l : List Cst) : List Int := l.flatMap encC
theorem encs_nil : encs [] = [] := rfl
theorem bytesZ_eq (l : List Cst) : bytesZ l = dg 1 10 l.length ++ encs (l.drop 1) := by
  unfold bytesZ encTo encs
  rw [List.take_length]
theorem encs_at {l : List Cst} {j : Nat} (h : j < l.length) : encs (l.drop j) = encC (gc l j) ++ encs (l.drop (j + 1)) := by
  unfold encs
  rw [List.drop_eq_getElem_cons h, List.flatMap_cons]
  congr 2
  simp [gc, h]
theorem t_empty {t : ByteArray} (h : t.toList = []) : t = .empty := toList_inj (by rw [h, ByteArray.toList_eq]; rfl)
theorem rdU_dg {n : Int} (h0 : 0 ≤ n) (h1 : n ≤ 9007199254740991) (r : List Int) : rdU (dg 1 10 n ++ r) 0 = (n, r, 0) := by
  unfold rdU
  rw [if_pos rfl]
  exact tU_dg h0 h1 r
theorem rdS_dg {n : Int} (h : I64 n) (r : List Int) : rdS (dg 2 10 n ++ r) 0 = (n, r, 0) := by
  unfold rdS
  rw [if_pos rfl]
  exact tS_dg (InB.start h.1 h.2 (.inl rfl)) (dg_len 2 10 n) r
theorem rdT_enc {t : ByteArray} (hv : Lib.validD t.data.toList = true) (hs : (encZ t.data.toList).length ≤ 9007199254740991) (r : List Int) :
    rdT (dg 1 10 (encZ t.data.toList).length ++ (encZ t.data.toList ++ r)) 0 = (t, r, 0) := by
  obtain ⟨h1, h2⟩ := enc_back t hv
  unfold rdT
  rw [rdU_dg (by omega) (by omega)]
  simp only
  rw [if_neg (by simp), if_neg (by rw [List.length_append]; omega), Int.toNat_natCast, List.take_left, List.drop_left, decT, if_pos h1, h2]
theorem rdOne_nil : rdOne [] = (c0, [], 3) := by
  unfold rdOne
  rw [if_pos rfl]
theorem rdOne_t (l : List Int) : rdOne (1 :: l) = (⟨1, (rdT l 0).1, 0, 0, 0, 0⟩, (rdT l 0).2) := by
  unfold rdOne
  rw [if_neg (by simp), if_pos (by rfl)]
  rfl
theorem rdOne_s {k : Int} (h : k = 2 ∨ k = 3) (l : List Int) : rdOne (k :: l) = (⟨k, .empty, (rdS l 0).1, 0, 0, 0⟩, (rdS l 0).2) := by
  unfold rdOne
  rw [if_neg (by simp), if_neg (show ¬ gi (k :: l) 0 = 1 by rw [gi_zero]; omega), if_pos (show gi (k :: l) 0 = 2 ∨ gi (k :: l) 0 = 3 by rw [gi_zero]; exact h)]
  rfl
theorem rdOne_c (l : List Int) : rdOne (4 :: l) = (⟨4, .empty, 0, (rdU l 0).1, 0, 0⟩, (rdU l 0).2) := by
  unfold rdOne
  rw [if_neg (by simp), if_neg (show ¬ gi (4 :: l) 0 = 1 by rw [gi_zero]; omega), if_neg (show ¬ (gi (4 :: l) 0 = 2 ∨ gi (4 :: l) 0 = 3) by rw [gi_zero]; omega), if_pos (show gi (4 :: l) 0 = 4 by rw [gi_zero])]
  rfl
theorem rdOne_m {k : Int} (h : k = 5 ∨ k = 6) (l : List Int) : rdOne (k :: l) = (⟨k, .empty, 0, (rdU l 0).1, (rdU (rdU l 0).2.1 (rdU l 0).2.2).1, (rdU (rdU (rdU l 0).2.1 (rdU l 0).2.2).2.1 (rdU (rdU l 0).2.1 (rdU l 0).2.2).2.2).1⟩, (rdU (rdU (rdU l 0).2.1 (rdU l 0).2.2).2.1 (rdU (rdU l 0).2.1 (rdU l 0).2.2).2.2).2) := by
  unfold rdOne
  rw [if_neg (by simp), if_neg (show ¬ gi (k :: l) 0 = 1 by rw [gi_zero]; omega), if_neg (show ¬ (gi (k :: l) 0 = 2 ∨ gi (k :: l) 0 = 3) by rw [gi_zero]; omega), if_neg (show ¬ gi (k :: l) 0 = 4 by rw [gi_zero]; omega), if_pos (show gi (k :: l) 0 = 5 ∨ gi (k :: l) 0 = 6 by rw [gi_zero]; exact h)]
  rfl
theorem rdOne_o {k : Int} (h : ¬ (k = 1 ∨ k = 2 ∨ k = 3 ∨ k = 4 ∨ k = 5 ∨ k = 6)) (l : List Int) : rdOne (k :: l) = (⟨k, .empty, 0, 0, 0, 0⟩, l, 4) := by
  unfold rdOne
  rw [if_neg (by simp), if_neg (show ¬ gi (k :: l) 0 = 1 by rw [gi_zero]; omega), if_neg (show ¬ (gi (k :: l) 0 = 2 ∨ gi (k :: l) 0 = 3) by rw [gi_zero]; omega), if_neg (show ¬ gi (k :: l) 0 = 4 by rw [gi_zero]; omega), if_neg (show ¬ (gi (k :: l) 0 = 5 ∨ gi (k :: l) 0 = 6) by rw [gi_zero]; omega)]
  rfl
/-- A constant that may be, by its kind, with what is not named zero. -/
theorem may_cases {l : List Cst} {x : Cst} (h : mayC l x = true) (hl : l.length ≤ 4096) :
    (∃ t, x = ⟨1, t, 0, 0, 0, 0⟩ ∧ Lib.validD t.data.toList = true) ∨ (∃ k n, x = ⟨k, .empty, n, 0, 0, 0⟩ ∧ (k = 2 ∨ k = 3)) ∨
    (∃ a, x = ⟨4, .empty, 0, a, 0, 0⟩ ∧ 0 ≤ a ∧ a ≤ 4096) ∨ (∃ k a b c, x = ⟨k, .empty, 0, a, b, c⟩ ∧ (k = 5 ∨ k = 6) ∧ (0 ≤ a ∧ a ≤ 4096) ∧ (0 ≤ b ∧ b ≤ 4096) ∧ (0 ≤ c ∧ c ≤ 4096)) := by
  obtain ⟨k, t, n, a, b, c⟩ := x
  have h : MayC l ⟨k, t, n, a, b, c⟩ := of_decide_eq_true h
  have rng : ∀ {i j : Int}, isK l i j = true → 0 ≤ i ∧ i ≤ 4096 := fun h => by
    obtain ⟨j, rfl, h1, h2, _⟩ := isK_at h
    omega
  rcases h with ⟨rfl, rfl, rfl, rfl, rfl, h6⟩ | ⟨rfl, h2, rfl, rfl, rfl, -, -⟩ | ⟨rfl, h2, rfl, rfl, rfl⟩ | ⟨rfl, h2, rfl, rfl, rfl, h6⟩ | ⟨h1, h2, rfl, h4, h5, h6⟩
  · exact .inl ⟨t, rfl, h6⟩
  · exact .inr (.inl ⟨2, n, by rw [show t = .empty from t_empty h2], .inl rfl⟩)
  · exact .inr (.inl ⟨3, n, by rw [show t = .empty from t_empty h2], .inr rfl⟩)
  · exact .inr (.inr (.inl ⟨a, by rw [show t = .empty from t_empty h2], rng h6⟩))
  · exact .inr (.inr (.inr ⟨k, a, b, c, by rw [show t = .empty from t_empty h2], h1, rng h4, rng h5, rng h6⟩))
theorem encC_t (t : ByteArray) (n a b c : Int) : encC ⟨1, t, n, a, b, c⟩ = 1 :: (dg 1 10 (encZ t.data.toList).length ++ encZ t.data.toList) := by
  unfold encC
  simp
theorem encC_s {k : Int} (h : k = 2 ∨ k = 3) (t : ByteArray) (n a b c : Int) : encC ⟨k, t, n, a, b, c⟩ = k :: dg 2 10 n := by
  unfold encC
  simp only
  rw [if_neg (by omega), if_pos h]
theorem encC_c (t : ByteArray) (n a b c : Int) : encC ⟨4, t, n, a, b, c⟩ = 4 :: dg 1 10 a := by
  unfold encC
  simp
theorem encC_m {k : Int} (h : k = 5 ∨ k = 6) (t : ByteArray) (n a b c : Int) : encC ⟨k, t, n, a, b, c⟩ = k :: (dg 1 10 a ++ dg 1 10 b ++ dg 1 10 c) := by
  unfold encC
  simp only
  rw [if_neg (by omega), if_neg (by omega), if_neg (by omega)]
/-- What was written is read as it was: one constant. -/
theorem rdOne_enc {l : List Cst} {x : Cst} (h : mayC l x = true) (hl : l.length ≤ 4096) (hok : x.ok) (hs : (encZ x.t.data.toList).length ≤ 9007199254740991) (r : List Int) : rdOne (encC x ++ r) = (x, r, 0) := by
  rcases may_cases h hl with ⟨t, rfl, hv⟩ | ⟨k, n, rfl, hk⟩ | ⟨a, rfl, ha⟩ | ⟨k, a, b, c, rfl, hk, ha, hb, hc⟩
  · rw [encC_t, List.cons_append, List.append_assoc, rdOne_t, rdT_enc hv hs]
  · rw [encC_s hk, List.cons_append, rdOne_s hk, rdS_dg hok.2.1]
  · rw [encC_c, List.cons_append, rdOne_c, rdU_dg ha.1 (by omega)]
  · rw [encC_m hk, List.cons_append, List.append_assoc, List.append_assoc, rdOne_m hk, rdU_dg ha.1 (by omega)]
    simp only
    rw [rdU_dg hb.1 (by omega)]
    simp only
    rw [rdU_dg hc.1 (by omega)]
/-- What each constant's text has to keep: no more bytes than a number can tell. -/
def Told (l : List Cst) : Prop := ∀ x ∈ l, x.ok ∧ (encZ x.t.data.toList).length ≤ 9007199254740991
theorem rdList_enc {l : List Cst} (hc : checkC l = 0) (ht : Told l) (r : List Int) : ∀ k, k ≤ l.length → rdList (encs (l.drop 1) ++ r) 0 k = (l.take k, encs (l.drop (max k 1)) ++ r, 0) := by
  obtain ⟨h1, h2, h3, h4⟩ := check_all hc
  intro k
  induction k with
  | zero => exact fun _ => rfl
  | succ k ih =>
    intro hk
    have ih := ih (by omega)
    by_cases h0 : k = 0
    · subst h0
      rw [rdList_first]
      have e : l.take 1 = [c0] := by
        match l, h2 with
        | x :: m, _ =>
          have : x = c0 := by simpa [gc] using h3
          simp [this]
      rw [e]
      rfl
    · have he : (rdList (encs (l.drop 1) ++ r) 0 k).2.2 = 0 := by rw [ih]
      have hx := ht _ (gc_mem (l := l) (j := k) (by omega))
      have m1 : max k 1 = k := by omega
      have m2 : max (k + 1) 1 = k + 1 := by omega
      rw [rdList_next (by omega) he, ih, m1, m2]
      simp only
      rw [encs_at (l := l) (j := k) (by omega), List.append_assoc, rdOne_enc (h4 k (by omega) (by omega)) h1 hx.1 hx.2]
      simp only
      rw [takeC_one (by omega)]
/-- What was written is read as it was. -/
theorem parse_bytes {l : List Cst} (hc : checkC l = 0) (ht : Told l) (r : List Int) : manyZ (bytesZ l ++ r) = (l, r, 0) ∧ errZ (bytesZ l ++ r) = 0 := by
  obtain ⟨h1, h2, h3, h4⟩ := check_all hc
  have e : tU (bytesZ l ++ r) = ((l.length : Int), encs (l.drop 1) ++ r, 0) := by
    rw [bytesZ_eq, List.append_assoc]
    exact tU_dg (by omega) (by omega) _
  have hm : manyZ (bytesZ l ++ r) = (l, r, 0) := by
    unfold manyZ cntZ
    rw [e]
    simp only
    rw [if_neg (by omega), Int.toNat_natCast, rdList_enc hc ht r _ (Nat.le_refl _), List.take_length, show max l.length 1 = l.length by omega, List.drop_length]
    rfl
  refine ⟨hm, ?_⟩
  unfold errZ
  rw [hm]
  exact (if_pos rfl).trans hc
/-- What can be read is written so: one constant. -/
theorem rdU_back {l : List Int} {e : Int} (h : (rdU l e).2.2 = 0) : e = 0 ∧ l = dg 1 10 (rdU l e).1 ++ (rdU l e).2.1 := by
  unfold rdU at h ⊢
  by_cases he : e = 0
  · rw [if_pos he] at h ⊢
    exact ⟨he, (tU_ok h).2.symm⟩
  · rw [if_neg he] at h
    exact absurd h he
theorem rdOne_dec {l : List Int} (hf : Fit .u8 l) (h : (rdOne l).2.2 = 0) : l = encC (rdOne l).1 ++ (rdOne l).2.1 := by
  match l, hf, h with
  | [], _, h =>
    rw [rdOne_nil] at h
    cases h
  | k :: l, hf, h =>
    have hf1 : Fit .u8 l := fun x hx => hf x (List.mem_cons_of_mem _ hx)
    by_cases k1 : k = 1
    · subst k1
      rw [rdOne_t] at h ⊢
      simp only at h ⊢
      rw [encC_t]
      by_cases he : (rdU l 0).2.2 = 0
      · by_cases hb : ((rdU l 0).2.1.length : Int) < (rdU l 0).1
        · unfold rdT at h
          rw [if_neg (by simpa using he), if_pos hb] at h
          cases h
        · have e : rdT l 0 = ((decT ((rdU l 0).2.1.take (rdU l 0).1.toNat)).1, (rdU l 0).2.1.drop (rdU l 0).1.toNat, (decT ((rdU l 0).2.1.take (rdU l 0).1.toNat)).2) := by
            unfold rdT
            rw [if_neg (by simpa using he), if_neg hb]
          rw [e] at h ⊢
          simp only at h ⊢
          have hu := (rdU_back he).2
          have hp := (rdU_pos he).1
          have hfu := (hf1.suf (rdU_suf l 0)).take (rdU l 0).1.toNat
          by_cases hst : stop ((rdU l 0).2.1.take (rdU l 0).1.toNat) = ((rdU l 0).2.1.take (rdU l 0).1.toNat).length
          · obtain ⟨_, d2, _⟩ := dec_back hfu hst _ rfl
            unfold decT
            rw [if_pos hst]
            simp only
            rw [d2]
            have hlen : (((rdU l 0).2.1.take (rdU l 0).1.toNat).length : Int) = (rdU l 0).1 := by rw [List.length_take]; omega
            rw [hlen, List.cons_append, List.append_assoc, List.take_append_drop, ← hu]
          · unfold decT at h
            rw [if_neg hst] at h
            cases h
      · unfold rdT at h
        rw [if_pos he] at h
        exact absurd h he
    by_cases k2 : k = 2 ∨ k = 3
    · rw [rdOne_s k2] at h ⊢
      simp only at h ⊢
      rw [encC_s k2, List.cons_append]
      congr 1
      unfold rdS at h ⊢
      rw [if_pos rfl] at h ⊢
      exact (tS_ok h).symm
    by_cases k4 : k = 4
    · subst k4
      rw [rdOne_c] at h ⊢
      simp only at h ⊢
      rw [encC_c, List.cons_append]
      congr 1
      exact (rdU_back h).2
    by_cases k5 : k = 5 ∨ k = 6
    · rw [rdOne_m k5] at h ⊢
      simp only at h ⊢
      rw [encC_m k5, List.cons_append]
      congr 1
      obtain ⟨z2, e3⟩ := rdU_back h
      obtain ⟨z1, e2⟩ := rdU_back z2
      have e1 := (rdU_back z1).2
      rw [List.append_assoc, List.append_assoc, ← e3, ← e2, ← e1]
    · exfalso
      rw [rdOne_o (by omega)] at h
      cases h
theorem rdList_dec {p : List Int} (hf : Fit .u8 p) {e : Int} : ∀ {k : Nat}, 1 ≤ k → (rdList p e k).2.2 = 0 → gc (rdList p e k).1 0 = c0 ∧ p = encs ((rdList p e k).1.drop 1) ++ (rdList p e k).2.1 := by
  intro k
  induction k with
  | zero => exact fun h => absurd h (by omega)
  | succ k ih =>
    intro _ h
    by_cases he : (rdList p e k).2.2 = 0
    · by_cases h0 : k = 0
      · subst h0
        rw [rdList, if_pos he, if_pos rfl] at h ⊢
        exact ⟨rfl, rfl⟩
      · obtain ⟨i1, i2⟩ := ih (by omega) he
        have hl := rdList_len he
        rw [rdList_next (by omega) he] at h ⊢
        simp only at h ⊢
        have hd := rdOne_dec (hf.suf (rdList_suf p e k)) h
        refine ⟨?_, ?_⟩
        · rw [← i1]
          unfold gc
          rw [List.getD_eq_getElem?_getD, List.getD_eq_getElem?_getD, List.getElem?_append_left (by omega)]
        · rw [List.drop_append_of_le_length (by omega)]
          unfold encs
          rw [List.flatMap_append, List.append_assoc]
          simp only [List.flatMap_cons, List.flatMap_nil, List.append_nil]
          rw [← hd]
          exact i2
    · rw [rdList, if_neg he] at h
      exact absurd h he
/-- What can be read may be, and is written so. -/
theorem parse_back {b : List Int} (hf : Fit .u8 b) (h : errZ b = 0) : checkC (manyZ b).1 = 0 ∧ bytesZ (manyZ b).1 ++ (manyZ b).2.1 = b ∧ (manyZ b).2.2 = 0 := by
  unfold errZ at h
  by_cases he : (manyZ b).2.2 = 0
  · rw [if_pos he] at h
    refine ⟨h, ?_, he⟩
    obtain ⟨h1, h2, -⟩ := check_all h
    have hl : (manyZ b).1.length = (tU b).1.toNat := rdList_len he
    have hu : (tU b).2.2 = 0 := by
      by_cases hu : (tU b).2.2 = 0
      · exact hu
      · exfalso
        rw [(tU_err hu).1] at hl
        simp at hl
        rw [hl] at h2
        simp at h2
    have hp := (tU_pos hu).1
    have hd := (rdList_dec (hf.suf (tU_suf b)) (k := (tU b).1.toNat) (by omega) he).2
    rw [bytesZ_eq, hl, List.append_assoc, Int.toNat_of_nonneg hp]
    have : encs ((manyZ b).1.drop 1) ++ (manyZ b).2.1 = (tU b).2.1 := hd.symm
    rw [this]
    exact (tU_ok hu).2
  · rw [if_neg he] at h
    exact absurd h he
/-- What is cut is told so. -/
theorem rdU_more (l : List Int) {e : Int} (h : ¬ e = 0) : rdU l e = (0, l, e) := by
  unfold rdU
  rw [if_neg h]
theorem rdU_short {n : Int} (h0 : 0 ≤ n) (h1 : n ≤ 9007199254740991) {m : Nat} (hm : m < (dg 1 10 n).length) (r : List Int) : rdU ((dg 1 10 n ++ r).take m) 0 = (0, [], 3) := by
  unfold rdU
  rw [if_pos rfl, List.take_append_of_le_length (by omega)]
  exact tU_cut h0 h1 hm
theorem take_more {a r : List Int} {m : Nat} (h : ¬ m < a.length) : (a ++ r).take m = a ++ r.take (m - a.length) := by
  rw [List.take_append, List.take_of_length_le (by omega)]
theorem rdOne_cut {l : List Cst} {x : Cst} (h : mayC l x = true) (hl : l.length ≤ 4096) (hok : x.ok) (hs : (encZ x.t.data.toList).length ≤ 9007199254740991) {m : Nat} (hm : m < (encC x).length) : (rdOne ((encC x).take m)).2.2 = 3 := by
  match m with
  | 0 =>
    rw [List.take_zero, rdOne_nil]
  | m + 1 =>
    rcases may_cases h hl with ⟨t, rfl, hv⟩ | ⟨k, n, rfl, hk⟩ | ⟨a, rfl, ha⟩ | ⟨k, a, b, c, rfl, hk, ha, hb, hc⟩
    · simp only at hs
      rw [encC_t] at hm ⊢
      rw [List.take_succ_cons, rdOne_t]
      simp only [List.length_cons, List.length_append] at hm
      simp only
      unfold rdT
      by_cases hc : m < (dg 1 10 ((encZ t.data.toList).length : Int)).length
      · rw [rdU_short (by omega) (by omega) hc]
        simp
      · rw [take_more hc, rdU_dg (by omega) (by omega)]
        simp only
        rw [if_neg (by simp), if_pos (by rw [List.length_take]; omega)]
    · rw [encC_s hk] at hm ⊢
      rw [List.take_succ_cons, rdOne_s hk]
      simp only [List.length_cons] at hm
      simp only
      unfold rdS
      rw [if_pos rfl, tS_cut (n := n) (InB.start hok.2.1.1 hok.2.1.2 (.inl rfl)) (dg_len 2 10 n) (by omega)]
    · rw [encC_c] at hm ⊢
      rw [List.take_succ_cons, rdOne_c]
      simp only [List.length_cons] at hm
      simp only
      have := rdU_short ha.1 (by omega) (m := m) (by omega) []
      rw [List.append_nil] at this
      rw [this]
    · rw [encC_m hk] at hm ⊢
      rw [List.take_succ_cons, rdOne_m hk]
      simp only [List.length_cons, List.length_append] at hm
      simp only
      rw [List.append_assoc]
      by_cases h1 : m < (dg 1 10 a).length
      · rw [rdU_short ha.1 (by omega) h1]
        simp [rdU_more]
      · rw [take_more h1, rdU_dg ha.1 (by omega)]
        simp only
        by_cases h2 : m - (dg 1 10 a).length < (dg 1 10 b).length
        · rw [rdU_short hb.1 (by omega) h2]
          simp [rdU_more]
        · rw [take_more h2, rdU_dg hb.1 (by omega)]
          simp only
          have := rdU_short hc.1 (by omega) (m := m - (dg 1 10 a).length - (dg 1 10 b).length) (by omega) []
          rw [List.append_nil] at this
          rw [this]
theorem rdList_cut {l : List Cst} (hc : checkC l = 0) (ht : Told l) {q : Nat} (hq : q < (encs (l.drop 1)).length) : ∀ k, k ≤ l.length →
    (rdList ((encs (l.drop 1)).take q) 0 k).2.2 = 3 ∨ ∃ m, m < (encs (l.drop (max k 1))).length ∧ rdList ((encs (l.drop 1)).take q) 0 k = (l.take k, (encs (l.drop (max k 1))).take m, 0) := by
  obtain ⟨h1, h2, h3, h4⟩ := check_all hc
  intro k
  induction k with
  | zero => exact fun _ => .inr ⟨q, hq, rfl⟩
  | succ k ih =>
    intro hk
    rcases ih (by omega) with h | ⟨m, hm, h⟩
    · left
      rw [rdList_past (by rw [h]; simp) _ (Nat.le_succ k)]
      exact h
    · by_cases h0 : k = 0
      · subst h0
        right
        refine ⟨q, hq, ?_⟩
        rw [rdList_first]
        have e : l.take 1 = [c0] := by
          match l, h2 with
          | x :: m, _ =>
            have : x = c0 := by simpa [gc] using h3
            simp [this]
        rw [e]
        rfl
      · have he : (rdList ((encs (l.drop 1)).take q) 0 k).2.2 = 0 := by rw [h]
        have hx := ht _ (gc_mem (l := l) (j := k) (by omega))
        have m1 : max k 1 = k := by omega
        have m2 : max (k + 1) 1 = k + 1 := by omega
        rw [m1] at hm h
        rw [rdList_next (by omega) he, h, m2]
        rw [encs_at (l := l) (j := k) (by omega)] at hm ⊢
        simp only
        by_cases hmx : m < (encC (gc l k)).length
        · left
          rw [List.take_append_of_le_length (by omega)]
          exact rdOne_cut (h4 k (by omega) (by omega)) h1 hx.1 hx.2 hmx
        · right
          refine ⟨m - (encC (gc l k)).length, by rw [List.length_append] at hm; omega, ?_⟩
          rw [take_more hmx, rdOne_enc (h4 k (by omega) (by omega)) h1 hx.1 hx.2]
          simp only
          rw [takeC_one (by omega)]
theorem parse_cut {l : List Cst} (hc : checkC l = 0) (ht : Told l) {k : Nat} (hk : k < (bytesZ l).length) : errZ ((bytesZ l).take k) = 3 := by
  obtain ⟨h1, h2, h3, h4⟩ := check_all hc
  have hm : (manyZ ((bytesZ l).take k)).2.2 = 3 := by
    rw [bytesZ_eq] at hk ⊢
    rw [List.length_append] at hk
    by_cases hd : k < (dg 1 10 (l.length : Int)).length
    · unfold manyZ cntZ
      rw [List.take_append_of_le_length (by omega), tU_cut (by omega) (by omega) hd]
      simp [rdList]
    · unfold manyZ cntZ
      rw [take_more hd, tU_dg (by omega) (by omega)]
      simp only
      rw [if_neg (by omega), Int.toNat_natCast]
      rcases rdList_cut hc ht (q := k - (dg 1 10 (l.length : Int)).length) (by omega) l.length (Nat.le_refl _) with h | ⟨m, hm, _⟩
      · exact h
      · rw [show max l.length 1 = l.length by omega, List.drop_length] at hm
        exact absurd hm (by simp [encs])
  unfold errZ
  rw [if_neg (by rw [hm]; simp), hm]
end Go.Proofs.YtecgldkhjgcffaaDoor
