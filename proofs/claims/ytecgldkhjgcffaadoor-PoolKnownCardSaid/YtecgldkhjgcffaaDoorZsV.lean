/- Several texts of this proof, one behind the other. -/
import Derived.Test.YtecgldkhjgcffaaDoorZsS
import Derived.Test.YtecgldkhjgcffaaDoorZsA
import Derived.LoopN
import Derived.Test.YtecgldkhjgcffaaDoorZsU
import Derived.Laws.MakeOwn
/- Reading constants: the document's answer, walked. -/
namespace Go.Proofs.YtecgldkhjgcffaaDoor
open Go.RowKit
set_option linter.unusedVariables false

theorem infoC : (Tryd.prog.info? 44).map (fun i => (i.zero, i.size, i.bytes)) = some (some (.agg c0.vals), 6, 56) := by kernel_rfl
/-- What Parse answers: a list, what stands behind, the error. -/
def ParseAns (B : Nat) (b : List Int) (v' : Value) (w' : World) : Prop :=
  (errZ b = 0 ∧ ∃ x y, v' = .tuple #[x, y, .int .i64 0] ∧ OwnC B w' 44 x (manyZ b).1 ∧ Own B w' 5 .u8 y (manyZ b).2.1) ∨
  (¬ errZ b = 0 ∧ v' = .tuple #[.slice none 0 0, .slice none 0 0, .int .i64 (errZ b)])
theorem Rdr.new {T : TypeId} {B : Nat} {w : World} {v : Value} {l : List Int} (h : Own B w 5 .u8 v l) : Rdr T (w.alloc (.cells #[v, .int .i64 0] T)) w.heap.size l 0 :=
  ⟨v, heap_alloc_new w _, h.row.ext ((Ext.refl w).alloc _), h.typed.ext ((Ext.refl w).alloc _)⟩
theorem OwnC.base {B B' : Nat} {w : World} {T : TypeId} {v : Value} {l : List Cst} (h : OwnC B w T v l) (hB : B' ≤ B) : OwnC B' w T v l := by
  obtain ⟨⟨h1, h2⟩, hf⟩ := h
  refine ⟨⟨h1, ?_⟩, hf⟩
  rcases h2 with h2 | ⟨g, cap, cur, hv, hb, hr⟩
  · exact .inl h2
  · exact .inr ⟨g, cap, cur, hv, by omega, hr⟩
theorem parse_err {b : List Int} {e : Int} (h : errZ b = e) (h0 : ¬ e = 0) (B : Nat) (w' : World) : ParseAns B b (.tuple #[.slice none 0 0, .slice none 0 0, .int .i64 e]) w' := .inr ⟨by rw [h]; exact h0, by rw [h]⟩

end Go.Proofs.YtecgldkhjgcffaaDoor
/- A list of constants that the program makes of a size, and writes in place. -/
namespace Go.Proofs.YtecgldkhjgcffaaDoor
open Go.RowKit
set_option linter.unusedVariables false

/-- A block that holds just these constants. -/
def LC (w : World) (g : Nat) (m : List Cst) : Prop := ∃ cur, w.heap[g]? = some (.cells cur 44 (0, 0)) ∧ cur.toList = m.flatMap fun x => x.vals.toList
theorem LC.lt {w : World} {g : Nat} {m : List Cst} (h : LC w g m) : g < w.heap.size := by
  obtain ⟨cur, hg, _⟩ := h
  exact lt_of_get hg
theorem LC.ext {w w' : World} {g : Nat} {m : List Cst} (h : LC w g m) (he : Ext w w') : LC w' g m := by
  obtain ⟨cur, hg, h2⟩ := h
  exact ⟨cur, (he.block g (lt_of_get hg)).trans hg, h2⟩
theorem LC.kept {w w' : World} {g : Nat} {m : List Cst} {r : Option Nat} (h : LC w g m) (hw : w.grownBy w' r) (hr : r ≠ some g) : LC w' g m := by
  obtain ⟨cur, hg, h2⟩ := h
  exact ⟨cur, (hw.block g (lt_of_get hg) (fun e => hr e.symm)).trans hg, h2⟩
theorem LC.cells {w : World} {g : Nat} {m : List Cst} (h : LC w g m) {j : Nat} (hj : j < m.length) : At6 w g (j * 6) (gc m j) := by
  obtain ⟨cur, hg, ht⟩ := h
  have hx : ∀ i, i < 6 → w.cell? ⟨g, j * 6 + i, none⟩ = (gc m j).vals[i]? := fun i hi => by
    have e1 := cells_at m j i hj hi
    rw [← ht] at e1
    rw [cell_of_row w g _ cur _ (0, 0) hg, ← e1]
    simp
  exact ⟨hx 0 (by omega), hx 1 (by omega), hx 2 (by omega), hx 3 (by omega), hx 4 (by omega), hx 5 (by omega)⟩
theorem LC.frozen {w : World} {g : Nat} {m : List Cst} (h : LC w g m) (j : Nat) : w.frozen? ⟨g, j, none⟩ = false := by
  obtain ⟨cur, hg, _⟩ := h
  simp [World.frozen?, hg]
theorem LC.size {w : World} {g : Nat} {m : List Cst} (h : LC w g m) : ∃ cur, w.heap[g]? = some (.cells cur 44 (0, 0)) ∧ cur.toList = (m.flatMap fun x => x.vals.toList) ∧ cur.size = m.length * 6 := by
  obtain ⟨cur, hg, ht⟩ := h
  exact ⟨cur, hg, ht, by rw [← Array.length_toList, ht, cells_len]⟩
theorem LC.own {w : World} {B g : Nat} {m : List Cst} (h : LC w g m) (hB : B ≤ g) (hm : m.length ≤ maxLen) (hok : ∀ x ∈ m, x.ok) : OwnC B w 44 (.slice (some ⟨g, 0, none⟩) m.length m.length) m := by
  obtain ⟨cur, hg, ht, hs⟩ := h.size
  refine ⟨⟨cells_len m, .inr ⟨g, m.length, cur, rfl, hB, hg, Nat.le_refl _, hm, hs, ?_⟩⟩, hok⟩
  rw [ht, List.take_of_length_le (by rw [cells_len]; omega)]
theorem flat_set : ∀ (m : List Cst) (k : Nat) (x : Cst), k < m.length →
    ((((((m.flatMap fun x => x.vals.toList).set (k * 6) (.int .i64 x.k)).set (k * 6 + 1) (.string x.t)).set (k * 6 + 2) (.int .i64 x.n)).set (k * 6 + 3) (.int .i64 x.a)).set (k * 6 + 4) (.int .i64 x.b)).set (k * 6 + 5) (.int .i64 x.c) = (m.set k x).flatMap fun x => x.vals.toList := by
  intro m
  induction m with
  | nil => intro k x h; simp at h
  | cons y m ih =>
    intro k x h
    match k with
    | 0 => simp [Cst.vals]
    | k + 1 =>
      have e : ∀ r, (k + 1) * 6 + r = (k * 6 + r) + 1 + 1 + 1 + 1 + 1 + 1 := fun r => by omega
      have e0 : (k + 1) * 6 = k * 6 + 1 + 1 + 1 + 1 + 1 + 1 := by omega
      rw [List.set_cons_succ, List.flatMap_cons, List.flatMap_cons, ← ih k x (by simpa using h), e 1, e 2, e 3, e 4, e 5, e0]
      simp [Cst.vals]
theorem flat_kind : ∀ (m : List Cst) (k : Nat) (y : Int), k < m.length → (m.flatMap fun x => x.vals.toList).set (k * 6) (.int .i64 y) = (m.set k { gc m k with k := y }).flatMap fun x => x.vals.toList := by
  intro m
  induction m with
  | nil => intro k y h; simp at h
  | cons x m ih =>
    intro k y h
    match k with
    | 0 => simp [Cst.vals, gc]
    | k + 1 =>
      have e0 : (k + 1) * 6 = k * 6 + 1 + 1 + 1 + 1 + 1 + 1 := by omega
      have eg : gc (x :: m) (k + 1) = gc m k := by simp [gc]
      rw [List.set_cons_succ, List.flatMap_cons, List.flatMap_cons, eg, ← ih k y (by simpa using h), e0]
      simp [Cst.vals]
theorem heap_set {w : World} {g : Nat} {cur : Array Value} {T : TypeId} (h : w.heap[g]? = some (.cells cur T (0, 0))) (j : Nat) (v : Value) : (w.setCell ⟨g, j, none⟩ v).heap[g]? = some (.cells (cur.setIfInBounds j v) T (0, 0)) := heap_setCell_same w g j cur T v h
/-- A constant is written in place, then its kind. -/
theorem LC.put {w : World} {g : Nat} {m : List Cst} (h : LC w g m) {k : Nat} (hk : k < m.length) (x : Cst) (y : Int) :
    LC (((((((w.setCell ⟨g, k * 6, none⟩ (.int .i64 x.k)).setCell ⟨g, k * 6 + 1, none⟩ (.string x.t)).setCell ⟨g, k * 6 + 2, none⟩ (.int .i64 x.n)).setCell ⟨g, k * 6 + 3, none⟩ (.int .i64 x.a)).setCell ⟨g, k * 6 + 4, none⟩ (.int .i64 x.b)).setCell ⟨g, k * 6 + 5, none⟩ (.int .i64 x.c)).setCell ⟨g, k * 6, none⟩ (.int .i64 y)) g (m.set k { x with k := y }) := by
  obtain ⟨cur, hg, ht⟩ := h
  refine ⟨_, heap_set (heap_set (heap_set (heap_set (heap_set (heap_set (heap_set hg _ _) _ _) _ _) _ _) _ _) _ _) _ _, ?_⟩
  simp only [Array.toList_setIfInBounds]
  rw [ht, flat_set m k x hk, flat_kind _ k y (by simpa using hk)]
  have eg : gc (m.set k x) k = x := by simp [gc, hk]
  rw [eg, List.set_set]
theorem set_take {m : List Cst} {k : Nat} (x : Cst) (hk : k < m.length) : (m.set k x).take (k + 1) = m.take k ++ [x] := by
  rw [List.take_succ_eq_append_getElem (by simpa using hk), List.take_set, List.set_eq_of_length_le (by simp; omega)]
  simp
/-- make of so many constants. -/
theorem made_flat (n : Nat) : (madeCells (Value.agg c0.vals).cells (n * 6)).toList = (List.replicate n c0).flatMap fun x => x.vals.toList := by
  apply List.ext_getElem?
  intro i
  by_cases hi : i < n * 6
  · obtain ⟨q, r, rfl, hr⟩ : ∃ q r, i = q * 6 + r ∧ r < 6 := ⟨i / 6, i % 6, by omega, by omega⟩
    have hq : q < n := by omega
    rw [cells_at (List.replicate n c0) q r (by simpa using hq) hr]
    have eg : gc (List.replicate n c0) q = c0 := by simp [gc, hq]
    rw [eg]
    have hm : (q * 6 + r) % 6 = r := by omega
    have hc : (Value.agg c0.vals).cells = c0.vals := rfl
    rw [hc]
    have hs : c0.vals.size = 6 := rfl
    simp [madeCells, hi]
    rw [hs, hm]
    match r, hr with
    | 0, _ => rfl
    | 1, _ => rfl
    | 2, _ => rfl
    | 3, _ => rfl
    | 4, _ => rfl
    | 5, _ => rfl
  · rw [List.getElem?_eq_none (by simp [madeCells]; omega), List.getElem?_eq_none (by rw [cells_len]; simpa using hi)]
theorem run_mkC (n : Nat) (hn : n ≤ 4096) : ∃ M : Array Value, M.toList = ((List.replicate n c0).flatMap fun x => x.vals.toList) ∧
    ∀ W : World, (Instr.makeSlice 24 (.int .i64 n) (.int .i64 n)).run Tryd.prog W = .ok (.slice (some ⟨W.heap.size, 0, none⟩) n n) (W.alloc (.cells M 44)) := by
  obtain ⟨i, hi1, hi2, hi3, hi4⟩ := info_parts infoC
  refine ⟨_, made_flat n, fun W => ?_⟩
  have h := run_make (P := Tryd.prog) W 24 44 i (.agg c0.vals) Tryd.underlying24 hi1 hi2 .i64 .i64 (n : Int) (n : Int) (by omega) (by omega) (by rw [hi4]; omega) (by omega)
  rw [hi3] at h
  simpa using h
end Go.Proofs.YtecgldkhjgcffaaDoor
