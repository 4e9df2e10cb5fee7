/- Several texts of this proof, one behind the other. -/
import Derived.Test.YtokmeomjdpfknaaGreatDoorZbW
import Derived.Test.YtokmeomjdpfknaaGreatDoorZbP
import Derived.Test.YtokmeomjdpfknaaGreatDoorZbD
import Derived.LoopN
import Derived.Laws.MakeOwn
namespace Go.Proofs.YtokmeomjdpfknaaGreatDoor
open Go.RowKit
set_option linter.unusedVariables false

theorem fb_min : ∀ (l : List Int) (k : Nat), fb (l.take k) = min (fb l) k
  | [], k => by simp [fb]
  | x :: l, 0 => by simp [fb]
  | x :: l, k + 1 => by
    rw [List.take_succ_cons, fb, fb, fb_min l k]
    split <;> omega
theorem spn_short {most : Nat} (h : most ≤ 16) (l : List Int) : spn most (l.take 16) = spn most l := by
  unfold spn
  rw [fb_min, List.length_take]
  have := fb_le l
  by_cases h1 : most ≤ fb l
  · rw [if_pos h1, if_pos (by omega)]
  · rw [if_neg h1, if_neg (by omega)]
    have e : min (fb l) 16 = fb l := by omega
    rw [e]
    by_cases h2 : fb l = l.length
    · rw [if_pos h2, if_pos (by omega)]
    · rw [if_neg h2, if_neg (by omega)]
theorem tS_16 {most : Nat} (hm : most ≤ 16) (wy : Int) (l : List Int) :
    (tS most wy (l.take 16)).1 = (tS most wy l).1 ∧ (tS most wy (l.take 16)).2.2 = (tS most wy l).2.2 ∧
    ((tS most wy l).2.2 = 0 → l.drop ((l.take 16).length - (tS most wy (l.take 16)).2.1.length) = (tS most wy l).2.1) := by
  unfold tS
  rw [spn_short hm]
  by_cases h : (spn most l).2 = 0
  · obtain ⟨_, h1, h2⟩ := spn_zero h
    have e1 : fb (l.take 16) = fb l := by rw [fb_min]; omega
    have e2 : (l.take 16).take (fb l + 1) = l.take (fb l + 1) := by rw [List.take_take]; congr 1; omega
    rw [if_pos h, if_pos h, e1, e2]
    by_cases h3 : l.take (fb l + 1) = dg wy 10 (wo wy (l.take (fb l + 1)))
    · rw [if_pos h3, if_pos h3]
      refine ⟨rfl, rfl, fun _ => ?_⟩
      simp only [List.length_drop, List.length_take]
      congr 1
      omega
    · rw [if_neg h3, if_neg h3]
      exact ⟨rfl, rfl, fun h => absurd h (by simp)⟩
  · rw [if_neg h, if_neg h]
    exact ⟨rfl, rfl, fun h2 => absurd h2 h⟩
theorem tU_16 (l : List Int) :
    (tU (l.take 16)).1 = (tU l).1 ∧ (tU (l.take 16)).2.2 = (tU l).2.2 ∧ ((tU l).2.2 = 0 → l.drop ((l.take 16).length - (tU (l.take 16)).2.1.length) = (tU l).2.1) := by
  obtain ⟨h1, h2, h3⟩ := tS_16 (most := 8) (by omega) 1 l
  unfold tU
  rw [h1]
  by_cases h : 9007199254740991 < (tS 8 1 l).1
  · rw [if_pos h, if_pos h]
    exact ⟨rfl, rfl, fun h => absurd h (by simp)⟩
  · rw [if_neg h, if_neg h]
    exact ⟨h1, h2, h3⟩
def Same3 {α : Type} (x y : α × List Int × Int) : Prop := x.2.2 = y.2.2 ∧ (y.2.2 = 0 → x = y)
theorem pU_rd (l : List Int) (e : Int) : (pU l e).1 = (rdU l e).1 ∧ Same3 (pU l e) (rdU l e) := by
  unfold pU numP rdU Same3
  obtain ⟨h1, h2, h3⟩ := tU_16 l
  by_cases he : e = 0
  · rw [if_pos he, if_pos he, h2]
    by_cases h : (tU l).2.2 = 0
    · rw [if_pos h]
      refine ⟨h1, h.symm, fun _ => ?_⟩
      rw [h1, h3 h, ← h]
    · rw [if_neg h]
      exact ⟨(tU_err h).1.symm, rfl, fun h4 => absurd h4 h⟩
  · rw [if_neg he, if_neg he]
    exact ⟨rfl, rfl, fun _ => rfl⟩
theorem pS_rd (l : List Int) (e : Int) : (pS l e).1 = (rdS l e).1 ∧ Same3 (pS l e) (rdS l e) := by
  unfold pS numP rdS Same3
  obtain ⟨h1, h2, h3⟩ := tS_16 (most := 10) (by omega) 2 l
  by_cases he : e = 0
  · rw [if_pos he, if_pos he, h2]
    by_cases h : (tS 10 2 l).2.2 = 0
    · rw [if_pos h]
      refine ⟨h1, h.symm, fun _ => ?_⟩
      rw [h1, h3 h, ← h]
    · rw [if_neg h]
      exact ⟨(tS_err h).1.symm, rfl, fun h4 => absurd h4 h⟩
  · rw [if_neg he, if_neg he]
    exact ⟨rfl, rfl, fun _ => rfl⟩
theorem stop_nil : stop [] = 0 := by unfold stop; rw [chs_nil]; rfl
theorem decT_nil : (decT []).2 = 0 := by
  unfold decT
  rw [if_pos (by rw [stop_nil]; rfl)]
theorem tP_rd (l : List Int) (e : Int) : Same3 (tP l e) (rdTP l e) := by
  unfold tP rdTP Same3
  obtain ⟨h1, h2, h3⟩ := pU_rd l e
  by_cases h : (rdU l e).2.2 = 0
  · rw [h3 h, if_neg (by simpa using h), h]
    by_cases hb : ((rdU l e).2.1.length : Int) < (rdU l e).1
    · rw [if_pos hb]
      have et : tkP (rdU l e).2.1 0 (rdU l e).1.toNat = ([], (rdU l e).2.1, 3) := by
        unfold tkP
        rw [if_pos rfl, if_pos (by omega)]
      rw [et]
      simp only [decT_nil]
      exact ⟨rfl, fun h => absurd h (by simp)⟩
    · rw [if_neg hb]
      have et : tkP (rdU l e).2.1 0 (rdU l e).1.toNat = ((rdU l e).2.1.take (rdU l e).1.toNat, (rdU l e).2.1.drop (rdU l e).1.toNat, 0) := by
        unfold tkP
        rw [if_pos rfl, if_neg (by omega)]
      rw [et]
      exact ⟨rfl, fun _ => rfl⟩
  · rw [if_pos h]
    have et : tkP (pU l e).2.1 (pU l e).2.2 (pU l e).1.toNat = ([], (pU l e).2.1, (rdU l e).2.2) := by
      unfold tkP
      rw [h2, if_neg h]
    rw [et]
    simp only [decT_nil]
    exact ⟨if_neg h, fun h4 => absurd h4 h⟩
theorem pU_kept (l : List Int) {e : Int} (h : ¬ e = 0) : pU l e = (0, l, e) := by
  unfold pU numP
  rw [if_neg h]
theorem rdU_kept (l : List Int) {e : Int} (h : ¬ e = 0) : rdU l e = (0, l, e) := by
  unfold rdU
  rw [if_neg h]
def wayP (k : Int) (l : List Int) (e : Int) : Cst × List Int × Int :=
  if k = 1 then (⟨0, (tP l e).1, 0, 0, 0, 0⟩, (tP l e).2) else if k = 2 ∨ k = 3 then (⟨0, .empty, (pS l e).1, 0, 0, 0⟩, (pS l e).2)
  else if k = 4 then (⟨0, .empty, 0, (pU l e).1, 0, 0⟩, (pU l e).2) else if k = 5 ∨ k = 6 then memP l e else (c0, l, errP e 4)
def oneP (l : List Int) : Cst × List Int × Int :=
  ({ (wayP (kndP l).1 (kndP l).2.1 (kndP l).2.2).1 with k := (kndP l).1 }, (wayP (kndP l).1 (kndP l).2.1 (kndP l).2.2).2)
theorem oneP_rd {l : List Int} (hf : Fit .u8 l) : Same3 (oneP l) (rdOne l) := by
  unfold oneP rdOne
  by_cases hl : l = []
  · subst hl
    rw [if_pos rfl, show kndP [] = (0, [], 3) from rfl]
    exact ⟨rfl, fun h => absurd h (by simp)⟩
  · rw [if_neg hl]
    have hg := hf.gi 0
    have hk : kndP l = if 7 ≤ gi l 0 then (0, l.drop 1, 0) else (gi l 0, l.drop 1, 0) := by unfold kndP; rw [if_neg hl]
    obtain ⟨y, hy⟩ : ∃ y, gi l 0 = y := ⟨_, rfl⟩
    obtain ⟨m, hm⟩ : ∃ m, l.drop 1 = m := ⟨_, rfl⟩
    rw [hy] at hg hk ⊢
    rw [hm] at hk ⊢
    by_cases h7 : 7 ≤ y
    · rw [if_pos h7] at hk
      rw [hk, if_neg (by omega), if_neg (by omega), if_neg (by omega), if_neg (by omega)]
      exact ⟨rfl, fun h => absurd h (by simp)⟩
    · rw [if_neg h7] at hk
      rw [hk]
      unfold wayP
      simp only
      by_cases y1 : y = 1
      · rw [if_pos y1, if_pos y1, y1]
        obtain ⟨h1, h2⟩ := tP_rd m 0
        exact ⟨h1, fun h => by simp only at h ⊢; rw [h2 h]⟩
      · rw [if_neg y1, if_neg y1]
        by_cases y2 : y = 2 ∨ y = 3
        · rw [if_pos y2, if_pos y2]
          obtain ⟨h0, h1, h2⟩ := pS_rd m 0
          exact ⟨h1, fun h => by simp only at h ⊢; rw [h2 h]⟩
        · rw [if_neg y2, if_neg y2]
          by_cases y4 : y = 4
          · rw [if_pos y4, if_pos y4, y4]
            obtain ⟨h0, h1, h2⟩ := pU_rd m 0
            exact ⟨h1, fun h => by simp only at h ⊢; rw [h2 h]⟩
          · rw [if_neg y4, if_neg y4]
            by_cases y5 : y = 5 ∨ y = 6
            · rw [if_pos y5, if_pos y5]
              unfold memP
              obtain ⟨h0, h1, h2⟩ := pU_rd m 0
              by_cases g1 : (rdU m 0).2.2 = 0
              · rw [h2 g1]
                obtain ⟨i0, i1, i2⟩ := pU_rd (rdU m 0).2.1 (rdU m 0).2.2
                by_cases g2 : (rdU (rdU m 0).2.1 (rdU m 0).2.2).2.2 = 0
                · rw [i2 g2]
                  obtain ⟨j0, j1, j2⟩ := pU_rd (rdU (rdU m 0).2.1 (rdU m 0).2.2).2.1 (rdU (rdU m 0).2.1 (rdU m 0).2.2).2.2
                  exact ⟨j1, fun h => by simp only at h ⊢; rw [j2 h]⟩
                · have e3 : ∀ q, (pU q (pU (rdU m 0).2.1 (rdU m 0).2.2).2.2).2.2 = (rdU (rdU m 0).2.1 (rdU m 0).2.2).2.2 := fun q => by
                    rw [i1, pU_kept _ g2]
                  have e4 : ∀ q, (rdU q (rdU (rdU m 0).2.1 (rdU m 0).2.2).2.2).2.2 = (rdU (rdU m 0).2.1 (rdU m 0).2.2).2.2 := fun q => by
                    rw [rdU_kept _ g2]
                  refine ⟨?_, fun h => ?_⟩
                  · simp only
                    rw [e3, e4]
                  · simp only at h
                    rw [e4] at h
                    exact absurd h g2
              · refine ⟨?_, fun h => ?_⟩
                · simp only
                  rw [h1, pU_kept _ g1, rdU_kept _ g1]
                  simp only
                  rw [pU_kept _ g1, rdU_kept _ g1]
                · simp only at h
                  rw [rdU_kept _ g1] at h
                  simp only at h
                  rw [rdU_kept _ g1] at h
                  exact absurd h g1
            · rw [if_neg y5, if_neg y5]
              exact ⟨rfl, fun h => absurd h (by simp)⟩
theorem cnt_rd (b : List Int) : (cntP b).2.2 = cntZ b ∧ (cntZ b = 0 → cntP b = ((tU b).1, (tU b).2.1, 0) ∧ (tU b).1 ≤ 4096) ∧ (¬ cntZ b = 0 → (cntP b).1 = 0) := by
  obtain ⟨h0, h1, h2⟩ := pU_rd b 0
  have e1 : rdU b 0 = tU b := by unfold rdU; rw [if_pos rfl]
  rw [e1] at h0 h1 h2
  unfold cntP cntZ
  by_cases h : (tU b).2.2 = 0
  · rw [h2 h]
    by_cases h4 : 4096 < (tU b).1
    · rw [if_pos ⟨h, h4⟩, if_pos ⟨h, h4⟩]
      exact ⟨rfl, fun h => absurd h (by simp), fun _ => rfl⟩
    · rw [if_neg (fun h => h4 h.2), if_neg (fun h => h4 h.2)]
      refine ⟨rfl, fun _ => ⟨?_, by omega⟩, fun h3 => absurd h h3⟩
      rw [← h]
  · rw [if_neg (fun h3 => h (h1.symm.trans h3.1)), if_neg (fun h3 => h h3.1)]
    exact ⟨h1, fun h3 => absurd h3 h, fun _ => by rw [h0]; exact (tU_err h).1⟩
end Go.Proofs.YtokmeomjdpfknaaGreatDoor
namespace Go.Proofs.YtokmeomjdpfknaaGreatDoor
open Go.RowKit
set_option linter.unusedVariables false

theorem infoC : (Tryz.prog.info? 49).map (fun i => (i.zero, i.size, i.bytes)) = some (some (.agg c0.vals), 6, 56) := by kernel_rfl
def ParseAns (B : Nat) (b : List Int) (v' : Value) (w' : World) : Prop :=
  (errZ b = 0 ∧ ∃ x y, v' = .tuple #[x, y, .int .i64 0] ∧ OwnC B w' 49 x (manyZ b).1 ∧ Own B w' 5 .u8 y (manyZ b).2.1) ∨
  (¬ errZ b = 0 ∧ v' = .tuple #[.slice none 0 0, .slice none 0 0, .int .i64 (errZ b)])
theorem parse_err {b : List Int} {e : Int} (h : errZ b = e) (h0 : ¬ e = 0) (B : Nat) (w' : World) : ParseAns B b (.tuple #[.slice none 0 0, .slice none 0 0, .int .i64 e]) w' := .inr ⟨by rw [h]; exact h0, by rw [h]⟩

end Go.Proofs.YtokmeomjdpfknaaGreatDoor
namespace Go.Proofs.YtokmeomjdpfknaaGreatDoor
open Go.RowKit
set_option linter.unusedVariables false

def LC (w : World) (g : Nat) (m : List Cst) : Prop := ∃ cur, w.heap[g]? = some (.cells cur 49 (0, 0)) ∧ cur.toList = m.flatMap fun x => x.vals.toList
theorem LC.lt {w : World} {g : Nat} {m : List Cst} (h : LC w g m) : g < w.heap.size := by
  obtain ⟨cur, hg, _⟩ := h
  exact lt_of_get hg
theorem LC.ext {w w' : World} {g : Nat} {m : List Cst} (h : LC w g m) (he : Ext w w') : LC w' g m := by
  obtain ⟨cur, hg, h2⟩ := h
  exact ⟨cur, (he.block g (lt_of_get hg)).trans hg, h2⟩
theorem LC.kept {w w' : World} {g : Nat} {m : List Cst} {r : Option Nat} (h : LC w g m) (hw : w.grownBy w' r) (hr : r ≠ some g) : LC w' g m := by
  obtain ⟨cur, hg, h2⟩ := h
  exact ⟨cur, (hw.block g (lt_of_get hg) (fun e => hr e.symm)).trans hg, h2⟩
theorem LC.cells {w : World} {g : Nat} {m : List Cst} (h : LC w g m) {j : Nat} (hj : j < m.length) : At6 w g (j * 6) (gc m j) := by
  obtain ⟨cur, hg, ht⟩ := h
  have hx : ∀ i, i < 6 → w.cell? ⟨g, j * 6 + i, none⟩ = (gc m j).vals[i]? := fun i hi => by
    have e1 := cells_atP m j i hj hi
    rw [← ht] at e1
    rw [cell_of_row w g _ cur _ (0, 0) hg, ← e1]
    simp
  exact ⟨hx 0 (by omega), hx 1 (by omega), hx 2 (by omega), hx 3 (by omega), hx 4 (by omega), hx 5 (by omega)⟩
theorem LC.frozen {w : World} {g : Nat} {m : List Cst} (h : LC w g m) (j : Nat) : w.frozen? ⟨g, j, none⟩ = false := by
  obtain ⟨cur, hg, _⟩ := h
  simp [World.frozen?, hg]
theorem LC.size {w : World} {g : Nat} {m : List Cst} (h : LC w g m) : ∃ cur, w.heap[g]? = some (.cells cur 49 (0, 0)) ∧ cur.toList = (m.flatMap fun x => x.vals.toList) ∧ cur.size = m.length * 6 := by
  obtain ⟨cur, hg, ht⟩ := h
  exact ⟨cur, hg, ht, by rw [← Array.length_toList, ht, cells_lenP]⟩
theorem LC.own {w : World} {B g : Nat} {m : List Cst} (h : LC w g m) (hB : B ≤ g) (hm : m.length ≤ maxLen) (hok : ∀ x ∈ m, x.ok) : OwnC B w 49 (.slice (some ⟨g, 0, none⟩) m.length m.length) m := by
  obtain ⟨cur, hg, ht, hs⟩ := h.size
  refine ⟨⟨cells_lenP m, .inr ⟨g, m.length, cur, rfl, hB, hg, Nat.le_refl _, hm, hs, ?_⟩⟩, hok⟩
  rw [ht, List.take_of_length_le (by rw [cells_lenP]; omega)]
theorem flat_set : ∀ (m : List Cst) (k : Nat) (x : Cst), k < m.length →
    ((((((m.flatMap fun x => x.vals.toList).set (k * 6) (.int .i64 x.k)).set (k * 6 + 1) (.string x.t)).set (k * 6 + 2) (.int .i64 x.n)).set (k * 6 + 3) (.int .i64 x.a)).set (k * 6 + 4) (.int .i64 x.b)).set (k * 6 + 5) (.int .i64 x.c) = (m.set k x).flatMap fun x => x.vals.toList := by
  intro m
  induction m with
  | nil => intro k x h; simp at h
  | cons y m ih =>
    intro k x h
    match k with
    | 0 => simp [Cst.vals]
    | k + 1 =>
      have e : ∀ r, (k + 1) * 6 + r = (k * 6 + r) + 1 + 1 + 1 + 1 + 1 + 1 := fun r => by omega
      have e0 : (k + 1) * 6 = k * 6 + 1 + 1 + 1 + 1 + 1 + 1 := by omega
      rw [List.set_cons_succ, List.flatMap_cons, List.flatMap_cons, ← ih k x (by simpa using h), e 1, e 2, e 3, e 4, e 5, e0]
      simp [Cst.vals]
theorem flat_kind : ∀ (m : List Cst) (k : Nat) (y : Int), k < m.length → (m.flatMap fun x => x.vals.toList).set (k * 6) (.int .i64 y) = (m.set k { gc m k with k := y }).flatMap fun x => x.vals.toList := by
  intro m
  induction m with
  | nil => intro k y h; simp at h
  | cons x m ih =>
    intro k y h
    match k with
    | 0 => simp [Cst.vals, gc]
    | k + 1 =>
      have e0 : (k + 1) * 6 = k * 6 + 1 + 1 + 1 + 1 + 1 + 1 := by omega
      have eg : gc (x :: m) (k + 1) = gc m k := by simp [gc]
      rw [List.set_cons_succ, List.flatMap_cons, List.flatMap_cons, eg, ← ih k y (by simpa using h), e0]
      simp [Cst.vals]
theorem heap_set {w : World} {g : Nat} {cur : Array Value} {T : TypeId} (h : w.heap[g]? = some (.cells cur T (0, 0))) (j : Nat) (v : Value) : (w.setCell ⟨g, j, none⟩ v).heap[g]? = some (.cells (cur.setIfInBounds j v) T (0, 0)) := heap_setCell_same w g j cur T v h
theorem LC.put {w : World} {g : Nat} {m : List Cst} (h : LC w g m) {k : Nat} (hk : k < m.length) (x : Cst) (y : Int) :
    LC (((((((w.setCell ⟨g, k * 6, none⟩ (.int .i64 x.k)).setCell ⟨g, k * 6 + 1, none⟩ (.string x.t)).setCell ⟨g, k * 6 + 2, none⟩ (.int .i64 x.n)).setCell ⟨g, k * 6 + 3, none⟩ (.int .i64 x.a)).setCell ⟨g, k * 6 + 4, none⟩ (.int .i64 x.b)).setCell ⟨g, k * 6 + 5, none⟩ (.int .i64 x.c)).setCell ⟨g, k * 6, none⟩ (.int .i64 y)) g (m.set k { x with k := y }) := by
  obtain ⟨cur, hg, ht⟩ := h
  refine ⟨_, heap_set (heap_set (heap_set (heap_set (heap_set (heap_set (heap_set hg _ _) _ _) _ _) _ _) _ _) _ _) _ _, ?_⟩
  simp only [Array.toList_setIfInBounds]
  rw [ht, flat_set m k x hk, flat_kind _ k y (by simpa using hk)]
  have eg : gc (m.set k x) k = x := by simp [gc, hk]
  rw [eg, List.set_set]
theorem set_take {m : List Cst} {k : Nat} (x : Cst) (hk : k < m.length) : (m.set k x).take (k + 1) = m.take k ++ [x] := by
  rw [List.take_succ_eq_append_getElem (by simpa using hk), List.take_set, List.set_eq_of_length_le (by simp; omega)]
  simp
theorem made_flat (n : Nat) : (madeCells (Value.agg c0.vals).cells (n * 6)).toList = (List.replicate n c0).flatMap fun x => x.vals.toList := by
  apply List.ext_getElem?
  intro i
  by_cases hi : i < n * 6
  · obtain ⟨q, r, rfl, hr⟩ : ∃ q r, i = q * 6 + r ∧ r < 6 := ⟨i / 6, i % 6, by omega, by omega⟩
    have hq : q < n := by omega
    rw [cells_atP (List.replicate n c0) q r (by simpa using hq) hr]
    have eg : gc (List.replicate n c0) q = c0 := by simp [gc, hq]
    rw [eg]
    have hm : (q * 6 + r) % 6 = r := by omega
    have hc : (Value.agg c0.vals).cells = c0.vals := rfl
    rw [hc]
    have hs : c0.vals.size = 6 := rfl
    simp [madeCells, hi]
    rw [hs, hm]
    match r, hr with
    | 0, _ => rfl
    | 1, _ => rfl
    | 2, _ => rfl
    | 3, _ => rfl
    | 4, _ => rfl
    | 5, _ => rfl
  · rw [List.getElem?_eq_none (by simp [madeCells]; omega), List.getElem?_eq_none (by rw [cells_lenP]; simpa using hi)]
theorem run_mkC (n : Nat) (hn : n ≤ 4096) : ∃ M : Array Value, M.toList = ((List.replicate n c0).flatMap fun x => x.vals.toList) ∧
    ∀ W : World, (Instr.makeSlice 22 (.int .i64 n) (.int .i64 n)).run Tryz.prog W = .ok (.slice (some ⟨W.heap.size, 0, none⟩) n n) (W.alloc (.cells M 49)) := by
  obtain ⟨i, hi1, hi2, hi3, hi4⟩ := info_parts infoC
  refine ⟨_, made_flat n, fun W => ?_⟩
  have h := run_make (P := Tryz.prog) W 22 49 i (.agg c0.vals) Tryz.underlying22 hi1 hi2 .i64 .i64 (n : Int) (n : Int) (by omega) (by omega) (by rw [hi4]; omega) (by omega)
  rw [hi3] at h
  simpa using h
end Go.Proofs.YtokmeomjdpfknaaGreatDoor
