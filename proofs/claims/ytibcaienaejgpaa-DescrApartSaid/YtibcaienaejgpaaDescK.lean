/- The project's reader of texts, the first steps: the library's pieces of texts, a mark, the next mark, none left. -/
import Derived.Test.YtibcaienaejgpaaDescJ
import Derived.Test.YtibcaienaejgpaaShelf5
import Derived.Test.YtibcaienaejgpaaOwn
import Derived.Lib.Strings
import Derived.Lib.Slices
import Derived.Lib.Walk
import Derived.Laws.Strings3
namespace Go.Proofs.Ytibcaienaejgpaa
open Go.RowKit
set_option linter.unusedVariables false

/-- What stands behind a mark, if a text begins with it. -/
def skipZ (m : UInt8) : List UInt8 → List UInt8 × Bool
  | [] => ([], false)
  | c :: r => if c = m then (r, true) else (c :: r, false)
theorem hasP (m : UInt8) (l : List UInt8) : Lib.hasPrefix (bs l).data.toList (bs [m]).data.toList = (skipZ m l).2 := by
  match l with
  | [] => rfl
  | c :: r =>
    show ([m] : List UInt8).isPrefixOf (c :: r) = _
    rw [skipZ]
    by_cases h : c = m
    · subst h
      rw [if_pos rfl]
      simp [List.isPrefixOf]
    · have : (m == c) = false := by simpa using fun e => h e.symm
      rw [if_neg h]
      simp [List.isPrefixOf, this]
theorem skipZ_no {m : UInt8} {l : List UInt8} (h : (skipZ m l).2 = false) : skipZ m l = (l, false) := by
  match l with
  | [] => rfl
  | c :: r =>
    rw [skipZ] at h ⊢
    by_cases hc : c = m
    · rw [if_pos hc] at h
      cases h
    · rw [if_neg hc]
theorem skipZ_yes {m : UInt8} {l : List UInt8} (h : (skipZ m l).2 = true) : ∃ r, l = m :: r ∧ skipZ m l = (r, true) := by
  match l with
  | [] => cases h
  | c :: r =>
    rw [skipZ] at h ⊢
    by_cases hc : c = m
    · subst hc
      exact ⟨r, rfl, by rw [if_pos rfl]⟩
    · rw [if_neg hc] at h
      cases h
theorem run_tail {l x n : List UInt8} {i : Int} (hl : l = x ++ n) (hi : i = x.length) (W : World) :
    (Instr.slice 9 (.string (bs l)) (some (.int .i64 i)) none none).run Try.prog W = .ok (.string (bs n)) W := by
  have hs : (bs l).size = l.length := rfl
  subst hi
  have h1 : l.length = x.length + n.length := by rw [hl]; simp
  rw [run_slice_string_from_if _ _ _ _ _ Try.underlying9, if_pos ⟨by omega, by omega⟩]
  congr 2
  apply ByteArray.ext
  simp only [Int.toNat_natCast]
  subst hl
  simp [bs, ByteArray.data_extract, ByteArray.size]
theorem run_head {l x n : List UInt8} {j : Int} (hl : l = x ++ n) (hj : j = x.length) (W : World) :
    (Instr.slice 9 (.string (bs l)) none (some (.int .i64 j)) none).run Try.prog W = .ok (.string (bs x)) W := by
  have hs : (bs l).size = l.length := rfl
  subst hj
  have h1 : l.length = x.length + n.length := by rw [hl]; simp
  rw [run_slice_string_h _ _ _ Try.underlying9 _ _ (by omega) (by omega)]
  congr 2
  apply ByteArray.ext
  simp only [Int.toNat_natCast]
  subst hl
  simp [bs, ByteArray.data_extract]
theorem cutPrefix_any (m : UInt8) (l : List UInt8) (w : World) :
    Calls Try.prog 73 #[.string (bs l), .string (bs [m])] w fun e w' => e = .returned (.tuple #[.string (bs (skipZ m l).1), .bool (skipZ m l).2]) ∧ w' = w := by
  have hp := fun W => Try.stringslite_HasPrefix (bs l) (bs [m]) W
  simp only [hasP] at hp
  have h1 : (bs [m]).size = 1 := rfl
  cases h : (skipZ m l).2
  · rw [h] at hp
    have HP := Lib.hid hp
    rw [skipZ_no h]
    clear hp h
    go_enter Try.func73, Try.ntmps73
    go_wp2_with fail
    refine (HP.out _).mono ?_
    rintro e w1 ⟨rfl, rfl⟩
    go_wp2
    go_ret2
    exact ⟨rfl, rfl⟩
  · rw [h] at hp
    have HP := Lib.hid hp
    obtain ⟨r, hr, hs⟩ := skipZ_yes h
    rw [hs]
    have hc : ∀ W, (Instr.slice 9 (.string (bs l)) (some (.int .i64 1)) none none).run Try.prog W = .ok (.string (bs r)) W := fun W => run_tail (x := [m]) (n := r) (by rw [hr]; rfl) (by simp) W
    clear hp h hr hs
    go_enter Try.func73, Try.ntmps73
    go_wp2_with fail
    refine (HP.out _).mono ?_
    rintro e w1 ⟨rfl, rfl⟩
    go_wp2
    go_ret2
    exact ⟨rfl, rfl⟩
theorem sCutPrefix_any (m : UInt8) (l : List UInt8) (w : World) :
    Calls Try.prog 68 #[.string (bs l), .string (bs [m])] w fun e w' => e = .returned (.tuple #[.string (bs (skipZ m l).1), .bool (skipZ m l).2]) ∧ w' = w := by
  have hp := fun W => cutPrefix_any m l W
  obtain ⟨X, hX⟩ : ∃ X, X = skipZ m l := ⟨_, rfl⟩
  rw [← hX] at hp ⊢
  have HP := Lib.hid hp
  clear hp hX
  go_enter Try.func68, Try.ntmps68
  go_wp2_with fail
  refine (HP.out _).mono ?_
  rintro e w1 ⟨rfl, rfl⟩
  go_wp2
  go_ret2
  exact ⟨rfl, rfl⟩

/-- The project's reader in block g: what is left of a text, whether something was wrong. -/
def RD (w : World) (g : Nat) (l : List UInt8) (b : Bool) : Prop := w.heap[g]? = some (.cells #[.string (bs l), .bool b] 53 (0, 0))
theorem RD.lt {w : World} {g : Nat} {l : List UInt8} {b : Bool} (h : RD w g l b) : g < w.heap.size := lt_of_get h
theorem RD.ext {w w' : World} {g : Nat} {l : List UInt8} {b : Bool} (h : RD w g l b) (he : Ext w w') : RD w' g l b := (he.block g (lt_of_get h)).trans h
theorem RD.kept {w w' : World} {g : Nat} {l : List UInt8} {b : Bool} {r : Option Nat} (h : RD w g l b) (hw : w.grownBy w' r) (hr : ∀ k, r = some k → k ≠ g) : RD w' g l b := (hw.block g (lt_of_get h) (fun e => hr g e.symm rfl)).trans h
theorem RD.cells {w : World} {g : Nat} {l : List UInt8} {b : Bool} (h : RD w g l b) :
    w.cell? ⟨g, 0, none⟩ = some (.string (bs l)) ∧ w.cell? ⟨g, 1, none⟩ = some (.bool b) ∧ w.frozen? ⟨g, 0, none⟩ = false ∧ w.frozen? ⟨g, 1, none⟩ = false :=
  ⟨by rw [cell_of_row w g 0 _ _ (0, 0) h]; rfl, by rw [cell_of_row w g 1 _ _ (0, 0) h]; rfl, by simp [World.frozen?, show w.heap[g]? = _ from h], by simp [World.frozen?, show w.heap[g]? = _ from h]⟩
theorem RD.setText {w : World} {g : Nat} {l : List UInt8} {b : Bool} (h : RD w g l b) (m : List UInt8) : RD (w.setCell ⟨g, 0, none⟩ (.string (bs m))) g m b := by
  have h1 := heap_setCell_same w g 0 _ 53 (.string (bs m)) h
  unfold RD
  rw [h1]
  rfl
theorem RD.setWrong {w : World} {g : Nat} {l : List UInt8} {b : Bool} (h : RD w g l b) (c : Bool) : RD (w.setCell ⟨g, 1, none⟩ (.bool c)) g l c := by
  have h1 := heap_setCell_same w g 1 _ 53 (.bool c) h
  unfold RD
  rw [h1]
  rfl
/-- What a call of the reader's leaves. -/
def RRet (w : World) (g : Nat) (v : Value) (l : List UInt8) (b : Bool) (e : Ending) (w' : World) : Prop := e = .returned v ∧ RD w' g l b ∧ w.grownBy w' (some g)
theorem grown_then' {w w1 w2 : World} {r : Option Nat} (h : w.grownBy w1 r) (e : Ext w1 w2) : w.grownBy w2 r :=
  ⟨e.os.trans h.os, e.tape.trans h.tape, e.output.trans h.output, Nat.le_trans h.size e.size, fun i hi hne => (e.block i (Nat.lt_of_lt_of_le hi h.size)).trans (h.block i hi hne)⟩
theorem grown_two' {w w1 w2 : World} {r : Option Nat} (h : w.grownBy w1 r) (e : w1.grownBy w2 r) : w.grownBy w2 r :=
  ⟨e.os.trans h.os, e.tape.trans h.tape, e.output.trans h.output, Nat.le_trans h.size e.size, fun i hi hne => (e.block i (Nat.lt_of_lt_of_le hi h.size) hne).trans (h.block i hi hne)⟩
theorem ext_grown {w w' : World} (h : Ext w w') (g : Option Nat) : w.grownBy w' g := ⟨h.os, h.tape, h.output, h.size, fun i hi _ => h.block i hi⟩

theorem skip_any (m : UInt8) (w : World) (g : Nat) (l : List UInt8) (b : Bool) (h : RD w g l b) :
    Calls Try.prog 60 #[.pointer (some ⟨g, 0, none⟩), .string (bs [m])] w (RRet w g (.bool (skipZ m l).2) (skipZ m l).1 b) := by
  have hp := fun W => sCutPrefix_any m l W
  obtain ⟨a0, a1, f0, f1⟩ := h.cells
  obtain ⟨X, hX⟩ : ∃ X, X = skipZ m l := ⟨_, rfl⟩
  rw [← hX] at hp ⊢
  have HP := Lib.hid hp
  have HS := Lib.hid (h.setText X.1)
  clear hp hX h
  go_enter Try.func60, Try.ntmps60
  go_wp2_with fail
  refine (HP.out _).mono ?_
  rintro e w1 ⟨rfl, rfl⟩
  go_wp2
  go_ret
  exact ⟨rfl, HS.out, only_set (World.grownBy.refl w1 _) 0 _⟩
theorem empty_any (w : World) (g : Nat) (l : List UInt8) (b : Bool) (h : RD w g l b) :
    Calls Try.prog 44 #[.pointer (some ⟨g, 0, none⟩)] w fun e w' => e = .returned (.bool (decide (l = []))) ∧ w' = w := by
  obtain ⟨a0, a1, f0, f1⟩ := h.cells
  have hbs := bs_nil l
  have he : l.isEmpty = decide (l = []) := by cases l <;> rfl
  clear h
  go_enter Try.func44, Try.ntmps44
  go_wp2
  go_ret
  exact ⟨rfl, rfl⟩
theorem rfail_any (w : World) (g : Nat) (l : List UInt8) (b : Bool) (h : RD w g l b) :
    Calls Try.prog 62 #[.pointer (some ⟨g, 0, none⟩)] w (RRet w g (.agg t0.vals) l true) := by
  obtain ⟨a0, a1, f0, f1⟩ := h.cells
  have HS := Lib.hid (h.setWrong true)
  have hlt := h.lt
  clear h
  go_enter Try.func62, Try.ntmps62
  go_wp2
  refine bodyPost_ret (v := .agg (Ty.vals t0)) (by unfold Ty.vals; simp [results, Try.results62, go_sem]; try exact ⟨rfl, rfl⟩) rfl ⟨rfl, ?_, ?_⟩
  · exact HS.out.ext ((Ext.refl _).alloc _)
  · exact grown_then' (only_set (World.grownBy.refl w _) 1 _) ((Ext.refl _).alloc _)
end Go.Proofs.Ytibcaienaejgpaa
