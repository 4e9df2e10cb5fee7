/- Several texts of this proof, one behind the other. -/
import Derived.Test.YtecgldkhjgcffaaDoorZsN
import Derived.Test.YtecgldkhjgcffaaDoorZsD
import Derived.Test.YtecgldkhjgcffaaDoorZsE
import Derived.Test.YtecgldkhjgcffaaDoorZsK
/- A reader of bytes: the document's, walked: numbers. -/
namespace Go.Proofs.YtecgldkhjgcffaaDoor
open Go.RowKit
set_option linter.unusedVariables false

/-- A reader in block g: what is left, and the first error. -/
def Rdr (T : TypeId) (w : World) (g : Nat) (l : List Int) (e : Int) : Prop :=
  ∃ v, w.heap[g]? = some (.cells #[v, .int .i64 e] T (0, 0)) ∧ Row w .u8 v l ∧ Typed 5 w v l

theorem Rdr.lt {T : TypeId} {w : World} {g : Nat} {l : List Int} {e : Int} (h : Rdr T w g l e) : g < w.heap.size := by
  obtain ⟨v, hg, _⟩ := h
  exact lt_of_get hg
theorem Rdr.cells {T : TypeId} {w : World} {g : Nat} {l : List Int} {e : Int} (h : Rdr T w g l e) :
    ∃ A c, l.length ≤ c ∧ c ≤ maxLen ∧ Row w .u8 (.slice A l.length c) l ∧ w.heap[g]? = some (.cells #[.slice A l.length c, .int .i64 e] T (0, 0)) ∧
      w.cell? ⟨g, 0, none⟩ = some (.slice A l.length c) ∧ w.cell? ⟨g, 1, none⟩ = some (.int .i64 e) ∧ (∀ j, w.frozen? ⟨g, j, none⟩ = false) ∧ Hid (Typed 5 w (.slice A l.length c) l) := by
  obtain ⟨v, hg, hr, hy⟩ := h
  have hr' := hr
  obtain ⟨A, c, rfl, h2, h3, _⟩ := hr'
  exact ⟨A, c, h2, h3, hr, hg, by rw [cell_of_row w g 0 _ T (0, 0) hg]; rfl, by rw [cell_of_row w g 1 _ T (0, 0) hg]; rfl, fun j => by simp [World.frozen?, hg], hy⟩
/-- A row of bytes lies in no reader's block. -/
theorem row_set {T : TypeId} {w : World} {g : Nat} {A0 : Option Addr} {n0 c0 : Nat} {e0 : Int} {v : Value} {l : List Int} (hg : w.heap[g]? = some (.cells #[.slice A0 n0 c0, .int .i64 e0] T (0, 0))) (hv : Row w .u8 v l) (hy : Typed 5 w v l) {w' : World} (hw : w.grownBy w' (some g)) : Row w' .u8 v l ∧ Typed 5 w' v l := by
  obtain ⟨A, c, h1, h2, h3, h4, h5, h6⟩ := hv
  have key : ∀ b o, A = some ⟨b, o, none⟩ → 0 < l.length → (∀ j, j < l.length → w.cell? ⟨b, o + j, none⟩ = some (.int .u8 (gi l j))) → b ≠ g := by
    intro b o ha hl hc e
    subst e
    have h0 := hc 0 hl
    rw [Nat.add_zero, cell_of_row w b o _ T (0, 0) hg] at h0
    match o with
    | 0 => simp at h0
    | 1 => simp at h0
    | o + 2 => simp at h0
  refine ⟨⟨A, c, h1, h2, h3, h4, h5, fun hl => ?_⟩, fun hl => ?_⟩
  · obtain ⟨b, o, ha, hb, hc⟩ := h6 hl
    have hbg := key b o ha hl hc
    have e := hw.block b hb (fun e => hbg (by injection e))
    exact ⟨b, o, ha, Nat.lt_of_lt_of_le hb hw.size, fun j hj => (World.cell?_of_block (w := w) (a := ⟨b, o + j, none⟩) e).trans (hc j hj)⟩
  · obtain ⟨b, o, ha, hb, hc⟩ := h6 hl
    have hbg := key b o ha hl hc
    obtain ⟨b1, o1, n1, c1, cur, e1, e2⟩ := hy hl
    rw [h1, ha] at e1
    injection e1 with e1
    injection e1 with e1
    injection e1 with e1 e3
    subst e1
    exact ⟨b, o, _, _, cur, by rw [h1, ha], (hw.block b hb (fun e => hbg (by injection e))).trans e2⟩
/-- Both cells are written anew. -/
theorem Rdr.both {T : TypeId} {w : World} {g : Nat} {A0 : Option Addr} {n0 c0 : Nat} {e0 e : Int} {v : Value} {l : List Int} (hg : w.heap[g]? = some (.cells #[.slice A0 n0 c0, .int .i64 e0] T (0, 0))) (hv : Row w .u8 v l) (hy : Hid (Typed 5 w v l)) :
    Rdr T ((w.setCell ⟨g, 1, none⟩ (.int .i64 e)).setCell ⟨g, 0, none⟩ v) g l e := by
  have h1 := heap_setCell_same w g 1 _ T (.int .i64 e) hg
  have h2 := heap_setCell_same (w.setCell ⟨g, 1, none⟩ (.int .i64 e)) g 0 _ T v h1
  exact ⟨v, by rw [h2]; rfl, row_set hg hv hy.out (only_set (only_set (World.grownBy.refl w (some g)) 1 _) 0 _)⟩
/-- What is left is written anew. -/
theorem Rdr.rest {T : TypeId} {w : World} {g : Nat} {A0 : Option Addr} {n0 c0 : Nat} {e0 : Int} {v : Value} {l : List Int} (hg : w.heap[g]? = some (.cells #[.slice A0 n0 c0, .int .i64 e0] T (0, 0))) (hv : Row w .u8 v l) (hy : Hid (Typed 5 w v l)) :
    Rdr T (w.setCell ⟨g, 0, none⟩ v) g l e0 := by
  have h1 := heap_setCell_same w g 0 _ T v hg
  exact ⟨_, by rw [h1]; rfl, row_set hg hv hy.out (only_set (World.grownBy.refl w (some g)) 0 _)⟩

/-- What taking a number off leaves: the number, what is left, the first error. -/
def rdU (l : List Int) (e : Int) : Int × List Int × Int := if e = 0 then tU l else (0, l, e)
def rdS (l : List Int) (e : Int) : Int × List Int × Int := if e = 0 then tS 10 2 l else (0, l, e)
/-- What a call of a reader's method leaves. -/
def RdrRet (T : TypeId) (w : World) (g : Nat) (v : Value) (l : List Int) (e : Int) (x : Ending) (w' : World) : Prop := x = .returned v ∧ Rdr T w' g l e ∧ w.grownBy w' (some g)
end Go.Proofs.YtecgldkhjgcffaaDoor
/- A reader of bytes: the document's, walked: texts. -/
namespace Go.Proofs.YtecgldkhjgcffaaDoor
open Go.RowKit
set_option linter.unusedVariables false

/-- What decoding leaves: the text, and the error. -/
def decT (p : List Int) : ByteArray × Int := if stop p = p.length then (⟨(utf (chs p)).toArray⟩, 0) else (.empty, 20)
/-- What taking a text off leaves: the text, what is left, the first error. -/
def rdT (l : List Int) (e : Int) : ByteArray × List Int × Int :=
  if ¬ (rdU l e).2.2 = 0 then (.empty, (rdU l e).2.1, (rdU l e).2.2)
  else if ((rdU l e).2.1.length : Int) < (rdU l e).1 then (.empty, (rdU l e).2.1, 3)
  else ((decT ((rdU l e).2.1.take (rdU l e).1.toNat)).1, (rdU l e).2.1.drop (rdU l e).1.toNat, (decT ((rdU l e).2.1.take (rdU l e).1.toNat)).2)
theorem tU_pos {l : List Int} (h : (tU l).2.2 = 0) : 0 ≤ (tU l).1 ∧ (tU l).1 ≤ 9007199254740991 := by
  have h1 := (tU_ok h).1
  unfold uS at h1
  by_cases hc : (tU l).1 < 0 ∨ 9007199254740991 < (tU l).1
  · rw [if_pos hc] at h1
    have := congrArg Prod.snd h1
    simp at this
  · omega
theorem rdU_pos {l : List Int} {e : Int} (h : (rdU l e).2.2 = 0) : 0 ≤ (rdU l e).1 ∧ (rdU l e).1 ≤ 9007199254740991 := by
  unfold rdU at h ⊢
  split
  · rename_i h0
    rw [if_pos h0] at h
    exact tU_pos h
  · exact ⟨Int.le_refl _, by simp⟩

end Go.Proofs.YtecgldkhjgcffaaDoor
