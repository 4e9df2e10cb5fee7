/- Rows that a call has made, written in place; rows that it makes of a size. -/
import Derived.Test.YthobicnhophdlaaBase
import Derived.OwnWalk
import Derived.Laws.MakeOwn
namespace Go.Proofs.Ythobicnhophdlaa
open Go.RowKit
set_option linter.unusedVariables false

section
variable {w w' : World} {B : Nat} {e : TypeId} {k : IntKind} {v : Value} {l : List Int}
theorem Own.parts (h : Own B w e k v l) (hl : 0 < l.length) :
    ∃ g c, v = .slice (some ⟨g, 0, none⟩) l.length c ∧ B ≤ g ∧ g < w.heap.size ∧ l.length ≤ c ∧ c ≤ maxLen ∧
      (∀ j, j < l.length → w.cell? ⟨g, j, none⟩ = some (.int k (gi l j))) ∧ (∀ j, w.frozen? ⟨g, j, none⟩ = false) := by
  obtain ⟨⟨h1, h2⟩, hf⟩ := h
  rcases h2 with ⟨rfl, h0⟩ | ⟨g, cap, cur, rfl, hb, hg, hn, hm, hs, ht⟩
  · omega
  · refine ⟨g, cap, rfl, hb, lt_of_get hg, hn, hm, fun j hj => ?_, fun j => by simp [World.frozen?, hg]⟩
    have hj' : j < cur.size := by omega
    have e1 : (cur.toList.take (l.length * 1))[j]? = (l.map (Value.int k))[j]? := by rw [ht]
    rw [List.getElem?_take_of_lt (by omega)] at e1
    simp [hj, hj'] at e1
    rw [cell_of_row w g j cur e (0, 0) hg]
    simp [gi, hj, hj', e1]
theorem Own.put {g n c : Nat} (h : Own B w e k (.slice (some ⟨g, 0, none⟩) n c) l) {j : Nat} {x : Int} (hj : j < l.length) (hx : (Lit.int k x).wf = true) :
    Own B (w.setCell ⟨g, j, none⟩ (.int k x)) e k (.slice (some ⟨g, 0, none⟩) n c) (l.set j x) := by
  obtain ⟨⟨h1, h2⟩, hf⟩ := h
  have hfit : Fit k (l.set j x) := fun y hy => by
    rcases List.mem_or_eq_of_mem_set hy with hy | rfl
    · exact hf y hy
    · exact hx
  rcases h2 with ⟨h0, _⟩ | ⟨g', cap, cur, hv, hb, hg, hn, hm, hs, ht⟩
  · cases h0
  · injection hv with e1 e2 e3
    injection e1 with e1
    injection e1 with e1
    subst e1 e2 e3
    refine ⟨⟨by simp, .inr ⟨g, c, cur.setIfInBounds j (.int k x), by simp, hb, ?_, by simpa using hn, hm, by simpa using hs, ?_⟩⟩, hfit⟩
    · exact heap_setCell_same w g j cur e (.int k x) hg
    · rw [Array.toList_setIfInBounds, List.take_set, List.length_set, ht, List.map_set]
end

/-- Only one block has changed, beside what is new. -/
theorem only_set {a w : World} {g : Nat} (h : a.grownBy w (some g)) (j : Nat) (u : Value) : a.grownBy (w.setCell ⟨g, j, none⟩ u) (some g) := by
  refine ⟨h.os, h.tape, h.output, by simpa [World.setCell] using h.size, fun i hi hne => ?_⟩
  rw [Below.heap_setCell w ⟨g, j, none⟩ u i (fun e => hne (by rw [e]))]
  exact h.block i hi hne
theorem Own.kept {w w' : World} {B : Nat} {e : TypeId} {k : IntKind} {v : Value} {l : List Int} (h : Own B w e k v l) {row : Option Nat} (hg : w.grownBy w' row) (hne : ∀ g, v.ownBlock = some g → row ≠ some g) : Own B w' e k v l := by
  obtain ⟨⟨h1, h2⟩, hf⟩ := h
  refine ⟨⟨h1, ?_⟩, hf⟩
  rcases h2 with h2 | ⟨g, cap, cur, hv, hb, hg', hr⟩
  · exact .inl h2
  · refine .inr ⟨g, cap, cur, hv, hb, (hg.block g (lt_of_get hg') ?_).trans hg', hr⟩
    exact fun e => hne g (by rw [hv]; rfl) e.symm
theorem Row.kept {w w' : World} {k : IntKind} {v : Value} {l : List Int} (h : Row w k v l) {row : Option Nat} (hg : w.grownBy w' row) (hne : ∀ g, v.ownBlock = some g → row ≠ some g) : Row w' k v l := by
  obtain ⟨A, c, h1, h2, h3, h4, h5, h6⟩ := h
  refine ⟨A, c, h1, h2, h3, h4, h5, fun hl => ?_⟩
  obtain ⟨b, o, ha, hb, hc⟩ := h6 hl
  refine ⟨b, o, ha, Nat.lt_of_lt_of_le hb hg.size, fun j hj => ?_⟩
  have e := hg.block b hb (fun e => hne b (by rw [h1, ha]; rfl) e.symm)
  exact (World.cell?_of_block (w := w) (a := ⟨b, o + j, none⟩) e).trans (hc j hj)

/-- make of so many zeros. -/
theorem wpList_mk {P : Program} (w : World) {ops : Array Oper} {rest : List Oper} {o : Oper} {a : Act} {Q : Exit → Act → World → Prop} (hg : o.guard = none) (y z : Operand) (B : Nat) (t e : TypeId) (bytes : Nat) (k : IntKind)
    (hop : o.op = Op.makeSlice t y z) (ht : P.underlying t = some (.slice e)) (hi : (P.info? e).map (fun i => (i.zero, i.size, i.bytes)) = some (some (.int k 0), 1, bytes)) (h0 : (Lit.int k 0).wf = true)
    (kl kc : IntKind) (L C : Int) (n : Nat) (hl : a.eval y = .int kl L) (hc : a.eval z = .int kc C) (hL : L = (n : Int)) (hC : C = (n : Int)) (b2 : bytes * n ≤ 281474976710656) (hb1 : 1 ≤ bytes) (b4 : B ≤ w.heap.size)
    (hK : ∀ w', Own B w' e k (.slice (some ⟨w.heap.size, 0, none⟩) n n) (List.replicate n 0) → w.grownBy w' none → wpList P ops Q rest (a.put o.dst (.slice (some ⟨w.heap.size, 0, none⟩) n n)) w') :
    wpList P ops Q (o :: rest) a w := by
  obtain ⟨i, hi1, hi2, hi3, hi4⟩ := info_parts hi
  have hn : n ≤ 281474976710656 := Nat.le_trans (Nat.le_mul_of_pos_left _ (by omega)) b2
  refine wpList_make_full w hg y z t hop B e i (.int k 0) 1 ht hi1 hi2 hi3 kl kc L C n hl hc hL hC (by rw [hi4]; exact b2) (by simp only [maxLen]; omega) b4 fun w' h1 h2 => hK w' ⟨?_, fun x hx => ?_⟩ h2
  · have e1 : (madeCells (Value.int k 0).cells (n * 1)).toList = (List.replicate n 0).map (Value.int k) := by
      rw [List.map_replicate]
      apply List.ext_getElem
      · simp [madeCells]
      · intro j h1 h2
        simp [madeCells, Value.cells, Nat.mod_one]
    rw [e1] at h1
    simpa using h1
  · rw [List.eq_of_mem_replicate hx]
    exact h0
end Go.Proofs.Ythobicnhophdlaa
