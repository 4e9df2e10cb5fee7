/- Several texts of this proof, one behind the other. -/
import Derived.Test.YtokmeomjdpfknaaGreatDoorZaG
import Derived.Laws.DeepStrings4
import Derived.Test.YtokmeomjdpfknaaGreatDoorShelf5
import Derived.Test.YtokmeomjdpfknaaGreatDoorZaD
import Derived.Lib.Strings
import Derived.Lib.Slices
import Derived.Lib.Walk
import Derived.Laws.Strings3
import Derived.Lib.Bytealg
import Derived.BigQuiet
import Derived.Laws.RangeAny
import Derived.Lib.OthersKept
/- The project's reader of texts, the first steps: the library's pieces of texts, a mark, the next mark, none left. -/
namespace Go.Proofs.YtokmeomjdpfknaaGreatDoor
open Go.RowKit
set_option linter.unusedVariables false

def skipZ (m : UInt8) : List UInt8 → List UInt8 × Bool
  | [] => ([], false)
  | c :: r => if c = m then (r, true) else (c :: r, false)
theorem hasP (m : UInt8) (l : List UInt8) : Lib.hasPrefix (bs l).data.toList (bs [m]).data.toList = (skipZ m l).2 := by
  match l with
  | [] => rfl
  | c :: r =>
    show ([m] : List UInt8).isPrefixOf (c :: r) = _
    rw [skipZ]
    by_cases h : c = m
    · subst h
      rw [if_pos rfl]
      simp [List.isPrefixOf]
    · have : (m == c) = false := by simpa using fun e => h e.symm
      rw [if_neg h]
      simp [List.isPrefixOf, this]
theorem skipZ_no {m : UInt8} {l : List UInt8} (h : (skipZ m l).2 = false) : skipZ m l = (l, false) := by
  match l with
  | [] => rfl
  | c :: r =>
    rw [skipZ] at h ⊢
    by_cases hc : c = m
    · rw [if_pos hc] at h
      cases h
    · rw [if_neg hc]
theorem skipZ_yes {m : UInt8} {l : List UInt8} (h : (skipZ m l).2 = true) : ∃ r, l = m :: r ∧ skipZ m l = (r, true) := by
  match l with
  | [] => cases h
  | c :: r =>
    rw [skipZ] at h ⊢
    by_cases hc : c = m
    · subst hc
      exact ⟨r, rfl, by rw [if_pos rfl]⟩
    · rw [if_neg hc] at h
      cases h
theorem run_tail {l x n : List UInt8} {i : Int} (hl : l = x ++ n) (hi : i = x.length) (W : World) :
    (Instr.slice 9 (.string (bs l)) (some (.int .i64 i)) none none).run Tryz.prog W = .ok (.string (bs n)) W := by
  have hs : (bs l).size = l.length := rfl
  subst hi
  have h1 : l.length = x.length + n.length := by rw [hl]; simp
  rw [run_slice_string_from_if _ _ _ _ _ Tryz.underlying9, if_pos ⟨by omega, by omega⟩]
  congr 2
  apply ByteArray.ext
  simp only [Int.toNat_natCast]
  subst hl
  simp [bs, ByteArray.data_extract, ByteArray.size]
theorem run_head {l x n : List UInt8} {j : Int} (hl : l = x ++ n) (hj : j = x.length) (W : World) :
    (Instr.slice 9 (.string (bs l)) none (some (.int .i64 j)) none).run Tryz.prog W = .ok (.string (bs x)) W := by
  have hs : (bs l).size = l.length := rfl
  subst hj
  have h1 : l.length = x.length + n.length := by rw [hl]; simp
  rw [run_slice_string_h _ _ _ Tryz.underlying9 _ _ (by omega) (by omega)]
  congr 2
  apply ByteArray.ext
  simp only [Int.toNat_natCast]
  subst hl
  simp [bs, ByteArray.data_extract]
theorem cutPrefix_any (m : UInt8) (l : List UInt8) (w : World) :
    Calls Tryz.prog 282 #[.string (bs l), .string (bs [m])] w fun e w' => e = .returned (.tuple #[.string (bs (skipZ m l).1), .bool (skipZ m l).2]) ∧ w' = w := by
  have hp := fun W => Tryz.stringslite_HasPrefix (bs l) (bs [m]) W
  simp only [hasP] at hp
  have h1 : (bs [m]).size = 1 := rfl
  cases h : (skipZ m l).2
  · rw [h] at hp
    have HP := Lib.hid hp
    rw [skipZ_no h]
    clear hp h
    go_enter Tryz.func282, Tryz.ntmps282
    go_wp2_with fail
    refine (HP.out _).mono ?_
    rintro e w1 ⟨rfl, rfl⟩
    go_wp2
    go_ret2
    exact ⟨rfl, rfl⟩
  · rw [h] at hp
    have HP := Lib.hid hp
    obtain ⟨r, hr, hs⟩ := skipZ_yes h
    rw [hs]
    have hc : ∀ W, (Instr.slice 9 (.string (bs l)) (some (.int .i64 1)) none none).run Tryz.prog W = .ok (.string (bs r)) W := fun W => run_tail (x := [m]) (n := r) (by rw [hr]; rfl) (by simp) W
    clear hp h hr hs
    go_enter Tryz.func282, Tryz.ntmps282
    go_wp2_with fail
    refine (HP.out _).mono ?_
    rintro e w1 ⟨rfl, rfl⟩
    go_wp2
    go_ret2
    exact ⟨rfl, rfl⟩
theorem sCutPrefix_any (m : UInt8) (l : List UInt8) (w : World) :
    Calls Tryz.prog 264 #[.string (bs l), .string (bs [m])] w fun e w' => e = .returned (.tuple #[.string (bs (skipZ m l).1), .bool (skipZ m l).2]) ∧ w' = w := by
  have hp := fun W => cutPrefix_any m l W
  obtain ⟨X, hX⟩ : ∃ X, X = skipZ m l := ⟨_, rfl⟩
  rw [← hX] at hp ⊢
  have HP := Lib.hid hp
  clear hp hX
  go_enter Tryz.func264, Tryz.ntmps264
  go_wp2_with fail
  refine (HP.out _).mono ?_
  rintro e w1 ⟨rfl, rfl⟩
  go_wp2
  go_ret2
  exact ⟨rfl, rfl⟩

def RD (w : World) (g : Nat) (l : List UInt8) (b : Bool) : Prop := w.heap[g]? = some (.cells #[.string (bs l), .bool b] 248 (0, 0))
theorem RD.lt {w : World} {g : Nat} {l : List UInt8} {b : Bool} (h : RD w g l b) : g < w.heap.size := lt_of_get h
theorem RD.ext {w w' : World} {g : Nat} {l : List UInt8} {b : Bool} (h : RD w g l b) (he : Ext w w') : RD w' g l b := (he.block g (lt_of_get h)).trans h
theorem RD.kept {w w' : World} {g : Nat} {l : List UInt8} {b : Bool} {r : Option Nat} (h : RD w g l b) (hw : w.grownBy w' r) (hr : ∀ k, r = some k → k ≠ g) : RD w' g l b := (hw.block g (lt_of_get h) (fun e => hr g e.symm rfl)).trans h
theorem RD.cells {w : World} {g : Nat} {l : List UInt8} {b : Bool} (h : RD w g l b) :
    w.cell? ⟨g, 0, none⟩ = some (.string (bs l)) ∧ w.cell? ⟨g, 1, none⟩ = some (.bool b) ∧ w.frozen? ⟨g, 0, none⟩ = false ∧ w.frozen? ⟨g, 1, none⟩ = false :=
  ⟨by rw [cell_of_row w g 0 _ _ (0, 0) h]; rfl, by rw [cell_of_row w g 1 _ _ (0, 0) h]; rfl, by simp [World.frozen?, show w.heap[g]? = _ from h], by simp [World.frozen?, show w.heap[g]? = _ from h]⟩
theorem RD.setText {w : World} {g : Nat} {l : List UInt8} {b : Bool} (h : RD w g l b) (m : List UInt8) : RD (w.setCell ⟨g, 0, none⟩ (.string (bs m))) g m b := by
  have h1 := heap_setCell_same w g 0 _ 248 (.string (bs m)) h
  unfold RD
  rw [h1]
  rfl
theorem RD.setWrong {w : World} {g : Nat} {l : List UInt8} {b : Bool} (h : RD w g l b) (c : Bool) : RD (w.setCell ⟨g, 1, none⟩ (.bool c)) g l c := by
  have h1 := heap_setCell_same w g 1 _ 248 (.bool c) h
  unfold RD
  rw [h1]
  rfl
def RRet (w : World) (g : Nat) (v : Value) (l : List UInt8) (b : Bool) (e : Ending) (w' : World) : Prop := e = .returned v ∧ RD w' g l b ∧ w.grownBy w' (some g)
theorem grown_thenD' {w w1 w2 : World} {r : Option Nat} (h : w.grownBy w1 r) (e : Ext w1 w2) : w.grownBy w2 r :=
  ⟨e.os.trans h.os, e.tape.trans h.tape, e.output.trans h.output, Nat.le_trans h.size e.size, fun i hi hne => (e.block i (Nat.lt_of_lt_of_le hi h.size)).trans (h.block i hi hne)⟩
theorem grown_twoD' {w w1 w2 : World} {r : Option Nat} (h : w.grownBy w1 r) (e : w1.grownBy w2 r) : w.grownBy w2 r :=
  ⟨e.os.trans h.os, e.tape.trans h.tape, e.output.trans h.output, Nat.le_trans h.size e.size, fun i hi hne => (e.block i (Nat.lt_of_lt_of_le hi h.size) hne).trans (h.block i hi hne)⟩
theorem ext_grownD {w w' : World} (h : Ext w w') (g : Option Nat) : w.grownBy w' g := ⟨h.os, h.tape, h.output, h.size, fun i hi _ => h.block i hi⟩

theorem skip_any (m : UInt8) (w : World) (g : Nat) (l : List UInt8) (b : Bool) (h : RD w g l b) :
    Calls Tryz.prog 250 #[.pointer (some ⟨g, 0, none⟩), .string (bs [m])] w (RRet w g (.bool (skipZ m l).2) (skipZ m l).1 b) := by
  have hp := fun W => sCutPrefix_any m l W
  obtain ⟨a0, a1, f0, f1⟩ := h.cells
  obtain ⟨X, hX⟩ : ∃ X, X = skipZ m l := ⟨_, rfl⟩
  rw [← hX] at hp ⊢
  have HP := Lib.hid hp
  have HS := Lib.hid (h.setText X.1)
  clear hp hX h
  go_enter Tryz.func250, Tryz.ntmps250
  go_wp2_with fail
  refine (HP.out _).mono ?_
  rintro e w1 ⟨rfl, rfl⟩
  go_wp2
  go_ret
  exact ⟨rfl, HS.out, only_set (World.grownBy.refl w1 _) 0 _⟩
theorem empty_any (w : World) (g : Nat) (l : List UInt8) (b : Bool) (h : RD w g l b) :
    Calls Tryz.prog 225 #[.pointer (some ⟨g, 0, none⟩)] w fun e w' => e = .returned (.bool (decide (l = []))) ∧ w' = w := by
  obtain ⟨a0, a1, f0, f1⟩ := h.cells
  have hbs := bs_nil l
  have he : l.isEmpty = decide (l = []) := by cases l <;> rfl
  clear h
  go_enter Tryz.func225, Tryz.ntmps225
  go_wp2
  go_ret
  exact ⟨rfl, rfl⟩
theorem rfail_any (w : World) (g : Nat) (l : List UInt8) (b : Bool) (h : RD w g l b) :
    Calls Tryz.prog 253 #[.pointer (some ⟨g, 0, none⟩)] w (RRet w g (.agg t0D.vals) l true) := by
  obtain ⟨a0, a1, f0, f1⟩ := h.cells
  have HS := Lib.hid (h.setWrong true)
  have hlt := h.lt
  clear h
  go_enter Tryz.func253, Tryz.ntmps253
  go_wp2
  refine bodyPost_ret (v := .agg (TyD.vals t0D)) (by unfold TyD.vals; simp [results, Tryz.results253, go_sem]; try exact ⟨rfl, rfl⟩) rfl ⟨rfl, ?_, ?_⟩
  · exact HS.out.ext ((Ext.refl _).alloc _)
  · exact grown_thenD' (only_set (World.grownBy.refl w _) 1 _) ((Ext.refl _).alloc _)
end Go.Proofs.YtokmeomjdpfknaaGreatDoor
/- The library's Cut at a ';', walked; the project's reader up to the next ';'. -/
namespace Go.Proofs.YtokmeomjdpfknaaGreatDoor
open Go.RowKit
set_option linter.unusedVariables false

def cutZD (l : List UInt8) : List UInt8 × List UInt8 × Bool := if semi l < l.length then (l.take (semi l), l.drop (semi l + 1), true) else (l, [], false)
theorem index_semi : ∀ l : List UInt8, Lib.indexByte l 59 = if semi l < l.length then (semi l : Int) else -1 := by
  intro l
  induction l with
  | nil => rfl
  | cons c r ih =>
    rw [Lib.indexByte, semi]
    by_cases hc : c = 59
    · subst hc
      simp
    · have : (c == 59) = false := by simpa using hc
      rw [if_neg hc, this, ih, if_neg Bool.false_ne_true]
      have hl := semi_le r
      simp only [List.length_cons]
      by_cases hlt : semi r < r.length
      · have h1 : ((semi r : Int) == -1) = false := by rw [beq_eq_false_iff_ne]; omega
        rw [if_pos hlt, if_pos (show semi r + 1 < r.length + 1 by omega), h1]
        rfl
      · rw [if_neg hlt, if_neg (show ¬ semi r + 1 < r.length + 1 by omega)]
        rfl
theorem index_any (l : List UInt8) (w : World) :
    Calls Tryz.prog 157 #[.string (bs l), .string (bs [59])] w fun e w' => e = .returned (.int .i64 (Lib.indexByte l 59)) ∧ w' = w := by
  have h1 : (bs [59]).size = 1 := rfl
  have hb1 := bs_nil l
  have hb2 := bs_nil [59]
  have i0 : ∀ W, (Instr.index 9 (.string (bs [59])) (.int .i64 0)).run Tryz.prog W = .ok (.int .u8 59) W := fun W => run_bs (k := 0) (by simp) rfl W
  have hp := fun W => Tryz.stringslite_IndexByte (bs l) 59 W
  have e59 : (bs l).data.toList = l := rfl
  simp only [e59] at hp
  have e8 : (Int.toNat 59).toUInt8 = (59 : UInt8) := rfl
  simp only [e8] at hp
  by_cases he : l = [59]
  · have E1 := Lib.hid (show Lib.indexByte l 59 = 0 by rw [he]; rfl)
    have hbe : ([59] == l) = true := by rw [he]; rfl
    rw [E1.out]
    clear hp
    have HL := Lib.hid he
    clear he
    go_enter Tryz.func157, Tryz.ntmps157
    go_wp2
    go_ret
    exact ⟨rfl, rfl⟩
  · have hbe : ([59] == l) = false := by
      simp only [beq_eq_false_iff_ne, ne_eq]
      exact fun e => he e.symm
    obtain ⟨x, hx⟩ : ∃ x, x = Lib.indexByte l 59 := ⟨_, rfl⟩
    rw [← hx] at hp ⊢
    have HP := Lib.hid hp
    clear hp he hx
    go_enter Tryz.func157, Tryz.ntmps157
    go_wp2_with fail
    refine (HP.out _).mono ?_
    rintro e w1 ⟨rfl, rfl⟩
    go_wp2
    go_ret
    exact ⟨rfl, rfl⟩
set_option maxHeartbeats 1000000 in
theorem cut_any (l : List UInt8) (hl : l.length ≤ 140737488351232) (w : World) :
    Calls Tryz.prog 292 #[.string (bs l), .string (bs [59])] w fun e w' => e = .returned (.tuple #[.string (bs (cutZD l).1), .string (bs (cutZD l).2.1), .bool (cutZD l).2.2]) ∧ ∃ m, w' = w.drewN m := by
  have hp := fun W => index_any l W
  rw [index_semi] at hp
  have h1 : (bs [59]).size = 1 := rfl
  by_cases hlt : semi l < l.length
  · rw [if_pos hlt] at hp
    have hz : cutZD l = (l.take (semi l), l.drop (semi l + 1), true) := by rw [cutZD, if_pos hlt]
    obtain ⟨X, hX⟩ : ∃ X, X = l.take (semi l) := ⟨_, rfl⟩
    obtain ⟨Y, hY⟩ : ∃ Y, Y = l.drop (semi l + 1) := ⟨_, rfl⟩
    rw [← hX, ← hY] at hz
    rw [hz]
    obtain ⟨n, hn⟩ : ∃ n, n = semi l := ⟨_, rfl⟩
    rw [← hn] at hp hX hY hlt
    have c1 : ∀ W, (Instr.slice 9 (.string (bs l)) none (some (.int .i64 n)) none).run Tryz.prog W = .ok (.string (bs X)) W :=
      fun W => run_head (x := X) (n := l.drop n) (by rw [hX]; simp) (by rw [hX]; simp; omega) W
    have c2 : ∀ W, (Instr.slice 9 (.string (bs l)) (some (.int .i64 ((n : Int) + 1))) none none).run Tryz.prog W = .ok (.string (bs Y)) W :=
      fun W => run_tail (x := l.take (n + 1)) (n := Y) (by rw [hY]; simp) (by simp; omega) W
    have HP := Lib.hid hp
    clear hp hz hX hY hn
    have hn1 : (n : Int) + 1 ≤ 140737488351232 := by omega
    clear hlt
    go_enter Tryz.func292, Tryz.ntmps292
    go_wp2_with fail
    refine (HP.out _).mono ?_
    rintro e w1 ⟨rfl, rfl⟩
    go_wp2
    go_quiet (fail)
    go_wp2
    refine bodyPost_ret (v := .tuple #[.string (bs X), .string (bs Y), .bool true]) (by simp [results, Tryz.results292, go_sem]; try exact ⟨rfl, rfl⟩) rfl ⟨rfl, _, rfl⟩
  · rw [if_neg hlt] at hp
    have hz : cutZD l = (l, [], false) := by rw [cutZD, if_neg hlt]
    rw [hz]
    have HP := Lib.hid hp
    clear hp hz hlt
    go_enter Tryz.func292, Tryz.ntmps292
    go_wp2_with fail
    refine (HP.out _).mono ?_
    rintro e w1 ⟨rfl, rfl⟩
    go_wp2
    refine bodyPost_ret (v := .tuple #[.string (bs l), .string (bs []), .bool false]) (by simp [results, Tryz.results292, go_sem]; rfl) rfl ⟨rfl, 0, rfl⟩
theorem sCut_any (l : List UInt8) (hl : l.length ≤ 140737488351232) (w : World) :
    Calls Tryz.prog 290 #[.string (bs l), .string (bs [59])] w fun e w' => e = .returned (.tuple #[.string (bs (cutZD l).1), .string (bs (cutZD l).2.1), .bool (cutZD l).2.2]) ∧ ∃ m, w' = w.drewN m := by
  have hp := fun W => cut_any l hl W
  obtain ⟨X, hX⟩ : ∃ X, X = cutZD l := ⟨_, rfl⟩
  rw [← hX] at hp ⊢
  have HP := Lib.hid hp
  clear hp hX
  go_enter Tryz.func290, Tryz.ntmps290
  go_wp2_with fail
  refine (HP.out _).mono ?_
  rintro e w1 ⟨rfl, m, rfl⟩
  go_wp2
  refine bodyPost_ret (v := .tuple #[.string (bs X.1), .string (bs X.2.1), .bool X.2.2]) (by simp [results, Tryz.results290, go_sem]; try exact ⟨rfl, rfl⟩) rfl ⟨rfl, _, rfl⟩
theorem grown_drewND {w w' : World} {r : Option Nat} (h : w.grownBy w' r) (n : Nat) : w.grownBy (w'.drewN n) r := ⟨h.os, h.tape, h.output, h.size, h.block⟩
theorem upTo_any (w : World) (g : Nat) (l : List UInt8) (b : Bool) (hl : l.length ≤ 140737488351232) (h : RD w g l b) :
    Calls Tryz.prog 283 #[.pointer (some ⟨g, 0, none⟩), .string (bs [59])] w (RRet w g (.tuple #[.string (bs (cutZD l).1), .bool (cutZD l).2.2]) (cutZD l).2.1 b) := by
  have hp := fun W => sCut_any l hl W
  obtain ⟨a0, a1, f0, f1⟩ := h.cells
  obtain ⟨X, hX⟩ : ∃ X, X = cutZD l := ⟨_, rfl⟩
  rw [← hX] at hp ⊢
  have HP := Lib.hid hp
  have HS := fun n => Lib.hid (RD.setText (w := w.drewN n) (show RD (w.drewN n) g l b from h) X.2.1)
  have HS := Lib.hid HS
  clear hp hX h
  go_enter Tryz.func283, Tryz.ntmps283
  go_wp2_with fail
  refine (HP.out _).mono ?_
  rintro e w1 ⟨rfl, m, rfl⟩
  go_wp2
  go_ret2
  exact ⟨rfl, (HS.out m).out, only_set (grown_drewND (World.grownBy.refl w _) m) 0 _⟩
end Go.Proofs.YtokmeomjdpfknaaGreatDoor
/- The project's ownD answers of names and types, walked. -/
namespace Go.Proofs.YtokmeomjdpfknaaGreatDoor
open Go.RowKit
set_option linter.unusedVariables false

theorem sclone_anyD (s : ByteArray) (w : World) (hs : s.size ≤ 140737488351232) :
    Calls Tryz.prog 256 #[.string s] w fun e w' => e = .returned (.string s) ∧ Ext w w' := by
  go_enter Tryz.func256, Tryz.ntmps256
  go_wp2_with fail
  refine (Tryz.stringslite_Clone s _ (by omega)).mono ?_
  rintro e w1 ⟨rfl, h1⟩
  go_wp2
  go_ret
  exact ⟨rfl, h1⟩
def begZ (r : Int) : Bool := (decide (97 ≤ r) && decide (r ≤ 122)) || (decide (65 ≤ r) && decide (r ≤ 90)) || decide (r = 95) || decide (r = 36)
def digZ (r : Int) : Bool := decide (48 ≤ r) && decide (r ≤ 57)
theorem beginsName_any (r : Int) (w : World) : Calls Tryz.prog 128 #[.int .i32 r] w fun e w' => e = .returned (.bool (begZ r)) ∧ w' = w := by
  have hb : begZ r = true ↔ (97 ≤ r ∧ r ≤ 122) ∨ (65 ≤ r ∧ r ≤ 90) ∨ r = 95 ∨ r = 36 := by simp [begZ, or_assoc]
  have H : (begZ r = true ∧ 65 ≤ r ∧ r ≤ 90) ∨ (begZ r = true ∧ 90 < r ∧ 97 ≤ r ∧ r ≤ 122) ∨ (begZ r = true ∧ r = 95) ∨ (begZ r = true ∧ r = 36) ∨
      (begZ r = false ∧ (r == 95) = false ∧ (r == 36) = false ∧ (r < 65 ∨ (¬ r ≤ 90 ∧ 90 < r ∧ r < 97) ∨ (¬ r ≤ 90 ∧ ¬ r ≤ 122 ∧ 122 < r))) := by
    cases h : begZ r
    · rw [← Bool.not_eq_true, hb] at h
      right; right; right; right
      refine ⟨rfl, by rw [beq_eq_false_iff_ne]; omega, by rw [beq_eq_false_iff_ne]; omega, by omega⟩
    · have := hb.1 h
      simp only [true_and]
      omega
  clear hb
  rcases H with ⟨h, h1, h2⟩ | ⟨h, h0, h1, h2⟩ | ⟨h, rfl⟩ | ⟨h, rfl⟩ | ⟨h, h1, h2, h3 | ⟨h3, h4, h5⟩ | ⟨h3, h4, h5⟩⟩
  all_goals
    rw [h]
    clear h
    go_enter Tryz.func128, Tryz.ntmps128
    go_wp2
    go_ret
    exact ⟨rfl, rfl⟩
theorem isDigit_any (r : Int) (w : World) : Calls Tryz.prog 129 #[.int .i32 r] w fun e w' => e = .returned (.bool (digZ r)) ∧ w' = w := by
  have H : (digZ r = true ∧ 48 ≤ r ∧ r ≤ 57) ∨ (digZ r = false ∧ r < 48) ∨ (digZ r = false ∧ 48 ≤ r ∧ ¬ r ≤ 57) := by
    have hb : digZ r = true ↔ (48 ≤ r ∧ r ≤ 57) := by simp [digZ]
    cases h : digZ r
    · rw [← Bool.not_eq_true, hb] at h
      simp
      omega
    · have := hb.1 h
      simp only [true_and]
      omega
  rcases H with ⟨h, h1, h2⟩ | ⟨h, h1⟩ | ⟨h, h1, h2⟩
  all_goals
    rw [h]
    clear h
    go_enter Tryz.func129, Tryz.ntmps129
    go_wp2
    go_ret
    exact ⟨rfl, rfl⟩
theorem begZ_byte (c : UInt8) : begZ (c.toNat : Int) = letter c := by
  unfold begZ letter
  congr 1
  · congr 1
    · congr 1
      · congr 1 <;> exact decide_eq_decide.2 (by omega)
      · congr 1 <;> exact decide_eq_decide.2 (by omega)
    · exact decide_eq_decide.2 (by omega)
  · exact decide_eq_decide.2 (by omega)
theorem digZ_byte (c : UInt8) : digZ (c.toNat : Int) = digit c := by
  unfold digZ digit
  congr 1 <;> exact decide_eq_decide.2 (by omega)
theorem begZ_high {r : Nat} (h : 128 ≤ r) : begZ r = false ∧ digZ r = false := by
  simp only [begZ, digZ, Bool.or_eq_false_iff, Bool.and_eq_false_iff, decide_eq_false_iff_not]
  omega
theorem okAt_high {c : UInt8} (h : 128 ≤ c.toNat) (k : Nat) : okAt c k = false := by
  have h1 := begZ_high h
  rw [begZ_byte, digZ_byte] at h1
  simp [okAt, h1]
theorem rune_at {l : List UInt8} {k : Nat} (h : k < l.length) {c : UInt8} (hc : l[k] = c) :
    ∃ r m, Utf8.decode (bs l) k = (r, m) ∧ 1 ≤ m ∧ ((begZ r = true ∧ okAt c k = true ∧ m = 1) ∨ (begZ r = false ∧ digZ r = true ∧ okAt c k = decide (0 < k) ∧ m = 1) ∨ (begZ r = false ∧ digZ r = false ∧ okAt c k = false)) := by
  have hs : k < (bs l).size := h
  have hg : (bs l)[k]'hs = c := hc
  by_cases ha : c.toNat < 128
  · refine ⟨c.toNat, 1, by rw [decode_ascii (bs l) k hs (by rw [hg]; exact ha), hg], Nat.le_refl _, ?_⟩
    rw [begZ_byte, digZ_byte]
    cases h1 : letter c
    · cases h2 : digit c
      · right; right
        exact ⟨rfl, rfl, by simp [okAt, h1, h2]⟩
      · right; left
        exact ⟨rfl, rfl, by simp [okAt, h1, h2], rfl⟩
    · left
      exact ⟨rfl, by simp [okAt, h1], rfl⟩
  · have h1 := decode_high (bs l) k hs (by rw [hg]; omega)
    obtain ⟨b1, b2⟩ := begZ_high h1.1
    exact ⟨_, _, rfl, h1.2, .inr (.inr ⟨b1, b2, okAt_high (by omega) k⟩)⟩
set_option maxHeartbeats 2000000 in
theorem IsName_any (l : List UInt8) (w : World) (hl : l.length ≤ 140737488351232) :
    Calls Tryz.prog 76 #[.string (bs l)] w fun e w' => e = .returned (.bool (nameB l)) ∧ Ext w w' := by
  have hsz : (bs l).size = l.length := rfl
  have hbs := bs_nil l
  by_cases h0 : l = []
  · subst h0
    go_enter Tryz.func76, Tryz.ntmps76
    go_wp2
    go_ret
    exact ⟨rfl, Ext.refl w⟩
  have he : l.isEmpty = false := by cases l with | nil => exact absurd rfl h0 | cons => rfl
  have he2 : (l == []) = false := by simpa using h0
  have hp : 0 < l.length := List.length_pos_iff.2 h0
  have Hp := Lib.hid hp
  clear h0 hp
  by_cases h64 : 64 < l.length
  · rw [nameB_long h64]
    go_enter Tryz.func76, Tryz.ntmps76
    go_wp2
    go_ret
    exact ⟨rfl, Ext.refl w⟩
  go_enter Tryz.func76, Tryz.ntmps76
  go_wp2
  go_loopw [] (fun wr => ∃ k : Nat, k ≤ l.length ∧ wr.heap[w.heap.size]? = some (.stringIter (bs l) k) ∧ Ext w wr ∧ Hid (∀ j (h : j < l.length), j < k → okAt l[j] j = true)) (fun wr => l.length - wr.iterPos w.heap.size)
  case atStart =>
    refine ⟨0, by omega, ?_, Ext.alloc (Ext.refl w) (.stringIter (bs l) 0), Lib.hid (fun j _ h => absurd h (Nat.not_lt_zero _))⟩
    have := World.iter_heap w (bs l) 0
    simpa using this
  case round =>
    obtain ⟨k, hk, hit, hx, Ht⟩ := hrel
    have hszr : w.heap.size < wr.heap.size := lt_of_get hit
    by_cases hlt : k < l.length
    · obtain ⟨c, hc⟩ : ∃ c, l[k] = c := ⟨_, rfl⟩
      obtain ⟨r, m, hdec, hm, hr⟩ := rune_at hlt hc
      have hnx : ∀ ty, (Instr.next (.pointer (some ⟨w.heap.size, 0, none⟩)) true ty).run Tryz.prog wr = _ := fun ty => Lib.run_next_any_at wr w.heap.size (bs l) k ty hit hlt
      simp only [hdec] at hnx
      have hit2 := Lib.iterAt_heap wr w.heap.size (bs l) k (k + m) hit
      have hx2 : Ext w (wr.iterAt w.heap.size (bs l) (k + m)) := Lib.below_iterAt hx (Nat.le_refl _) (bs l) (k + m)
      have Next := Lib.hid (show okAt c k = true → m = 1 → k + m ≤ l.length ∧ ∀ j (h : j < l.length), j < k + m → okAt l[j] j = true from by
        rintro ho rfl
        refine ⟨by omega, fun j h hj => ?_⟩
        by_cases hjk : j < k
        · exact Ht.out j h hjk
        · obtain rfl : j = k := by omega
          rw [hc]
          exact ho)
      have Bad := Lib.hid (fun hb => nameB_bad hlt hc hb)
      clear hdec hc
      have CB := Lib.hid (fun W => beginsName_any r W)
      have CD := Lib.hid (fun W => isDigit_any r W)
      rcases hr with ⟨hb, ho, rfl⟩ | ⟨hb, hd, ho, rfl⟩ | ⟨hb, hd, ho⟩
      · rw [hb] at CB
        obtain ⟨n1, n2⟩ := Next.out ho rfl
        have N2 := Lib.hid n2
        clear hb ho n2
        go_wp2_with fail
        refine (CB.out _).mono ?_
        rintro e w2 ⟨rfl, rfl⟩
        go_wp2
        go_roundw
        case rel => exact ⟨k + 1, n1, hit2, hx2, N2⟩
        case measure =>
          simp only [World.iterPos, hit2, hit]
          omega
      · rw [hb] at CB
        rw [hd] at CD
        by_cases hk0 : k = 0
        · have hk1 : ((k : Int) == 0) = true := by rw [beq_iff_eq]; omega
          have Ho := Lib.hid (Bad.out (ho.trans (by rw [hk0]; rfl)))
          clear hb ho hd hk0
          go_wp2_with fail
          refine (CB.out _).mono ?_
          rintro e w2 ⟨rfl, rfl⟩
          go_wp2
          go_ret
          exact ⟨by rw [Ho.out]; rfl, hx2⟩
        · have hk1 : ((k : Int) == 0) = false := by rw [beq_eq_false_iff_ne]; omega
          obtain ⟨n1, n2⟩ := Next.out (ho.trans (decide_eq_true (by omega))) rfl
          have N2 := Lib.hid n2
          clear hb ho n2 hd
          go_wp2_with fail
          refine (CB.out _).mono ?_
          rintro e w2 ⟨rfl, rfl⟩
          go_wp2_with fail
          refine (CD.out _).mono ?_
          rintro e w2 ⟨rfl, rfl⟩
          go_wp2
          go_roundw
          case rel => exact ⟨k + 1, n1, hit2, hx2, N2⟩
          case measure =>
            simp only [World.iterPos, hit2, hit]
            omega
      · rw [hb] at CB
        rw [hd] at CD
        have Ho := Lib.hid (Bad.out ho)
        clear hb ho hd
        cases hk1 : ((k : Int) == 0)
        · go_wp2_with fail
          refine (CB.out _).mono ?_
          rintro e w2 ⟨rfl, rfl⟩
          go_wp2_with fail
          refine (CD.out _).mono ?_
          rintro e w2 ⟨rfl, rfl⟩
          go_wp2
          go_ret
          exact ⟨by rw [Ho.out]; rfl, hx2⟩
        · go_wp2_with fail
          refine (CB.out _).mono ?_
          rintro e w2 ⟨rfl, rfl⟩
          go_wp2
          go_ret
          exact ⟨by rw [Ho.out]; rfl, hx2⟩
    · obtain rfl : k = l.length := by omega
      have hnx : ∀ ty, (Instr.next (.pointer (some ⟨w.heap.size, 0, none⟩)) true ty).run Tryz.prog wr = _ := fun ty => Lib.run_next_end_at wr w.heap.size (bs l) l.length ty hit hlt
      have HE := Lib.hid (nameB_at.2 ⟨Hp.out, by omega, fun j h => Ht.out j h (by omega)⟩)
      go_wp2
      go_ret
      exact ⟨by rw [HE.out]; rfl, hx⟩
set_option maxHeartbeats 8000000 in
theorem CheckType_any (t : TyD) (w : World) (hl : t.s.length ≤ 140737488351232) :
    Calls Tryz.prog 134 #[.agg t.vals] w fun e w' => e = .returned (.int .i64 (checkT t)) ∧ Ext w w' := by
  obtain ⟨k, s⟩ := t
  have hbs := bs_nil s
  have hsz : (bs s).size = s.length := rfl
  rcases kinds k with rfl | rfl | rfl | rfl | rfl | rfl | ⟨n1, n2, n3, n4, n5, n6, -⟩
  · by_cases hn : s = []
    · subst hn
      rw [checkT_yes (t := ⟨1, []⟩) rfl]
      unfold TyD.vals
      go_enter Tryz.func134, Tryz.ntmps134
      go_wp2
      go_ret
      exact ⟨rfl, (Ext.refl w).alloc _⟩
    · rw [checkT_no (t := ⟨1, s⟩) (by unfold okT; simpa using hn)]
      have he : (s == []) = false := by simpa using hn
      clear hn
      unfold TyD.vals
      go_enter Tryz.func134, Tryz.ntmps134
      go_wp2
      go_ret
      exact ⟨rfl, (Ext.refl w).alloc _⟩
  · by_cases hn : s = []
    · subst hn
      rw [checkT_yes (t := ⟨2, []⟩) rfl]
      unfold TyD.vals
      go_enter Tryz.func134, Tryz.ntmps134
      go_wp2
      go_ret
      exact ⟨rfl, (Ext.refl w).alloc _⟩
    · rw [checkT_no (t := ⟨2, s⟩) (by unfold okT; simpa using hn)]
      have he : (s == []) = false := by simpa using hn
      clear hn
      unfold TyD.vals
      go_enter Tryz.func134, Tryz.ntmps134
      go_wp2
      go_ret
      exact ⟨rfl, (Ext.refl w).alloc _⟩
  · cases hn : nameB s
    · rw [checkT_no (t := ⟨3, s⟩) hn]
      have HN := Lib.hid hn
      clear hn
      unfold TyD.vals
      go_enter Tryz.func134, Tryz.ntmps134
      go_wp2_with fail
      refine (IsName_any s _ hl).mono ?_
      rw [HN.out]
      rintro e w1 ⟨rfl, x1⟩
      go_wp2
      go_ret
      exact ⟨rfl, ((Ext.refl w).alloc _).trans x1⟩
    · rw [checkT_yes (t := ⟨3, s⟩) hn]
      have HN := Lib.hid hn
      clear hn
      unfold TyD.vals
      go_enter Tryz.func134, Tryz.ntmps134
      go_wp2_with fail
      refine (IsName_any s _ hl).mono ?_
      rw [HN.out]
      rintro e w1 ⟨rfl, x1⟩
      go_wp2
      go_ret
      exact ⟨rfl, ((Ext.refl w).alloc _).trans x1⟩
  · by_cases hn : s = []
    · subst hn
      rw [checkT_yes (t := ⟨4, []⟩) rfl]
      unfold TyD.vals
      go_enter Tryz.func134, Tryz.ntmps134
      go_wp2
      go_ret
      exact ⟨rfl, (Ext.refl w).alloc _⟩
    · rw [checkT_no (t := ⟨4, s⟩) (by unfold okT; simpa using hn)]
      have he : (s == []) = false := by simpa using hn
      clear hn
      unfold TyD.vals
      go_enter Tryz.func134, Tryz.ntmps134
      go_wp2
      go_ret
      exact ⟨rfl, (Ext.refl w).alloc _⟩
  · by_cases hn : s = []
    · subst hn
      rw [checkT_yes (t := ⟨5, []⟩) rfl]
      unfold TyD.vals
      go_enter Tryz.func134, Tryz.ntmps134
      go_wp2
      go_ret
      exact ⟨rfl, (Ext.refl w).alloc _⟩
    · rw [checkT_no (t := ⟨5, s⟩) (by unfold okT; simpa using hn)]
      have he : (s == []) = false := by simpa using hn
      clear hn
      unfold TyD.vals
      go_enter Tryz.func134, Tryz.ntmps134
      go_wp2
      go_ret
      exact ⟨rfl, (Ext.refl w).alloc _⟩
  · cases hn : nameB s
    · rw [checkT_no (t := ⟨6, s⟩) hn]
      have HN := Lib.hid hn
      clear hn
      unfold TyD.vals
      go_enter Tryz.func134, Tryz.ntmps134
      go_wp2_with fail
      refine (IsName_any s _ hl).mono ?_
      rw [HN.out]
      rintro e w1 ⟨rfl, x1⟩
      go_wp2
      go_ret
      exact ⟨rfl, ((Ext.refl w).alloc _).trans x1⟩
    · rw [checkT_yes (t := ⟨6, s⟩) hn]
      have HN := Lib.hid hn
      clear hn
      unfold TyD.vals
      go_enter Tryz.func134, Tryz.ntmps134
      go_wp2_with fail
      refine (IsName_any s _ hl).mono ?_
      rw [HN.out]
      rintro e w1 ⟨rfl, x1⟩
      go_wp2
      go_ret
      exact ⟨rfl, ((Ext.refl w).alloc _).trans x1⟩
  · rw [checkT_no (okT_odd n1 n2 n3 n4 n5 n6)]
    unfold TyD.vals
    go_enter Tryz.func134, Tryz.ntmps134
    go_wp2
    go_ret
    exact ⟨rfl, (Ext.refl w).alloc _⟩
end Go.Proofs.YtokmeomjdpfknaaGreatDoor
