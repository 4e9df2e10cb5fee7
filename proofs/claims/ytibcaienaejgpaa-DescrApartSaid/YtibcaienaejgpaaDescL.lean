/- The library's Cut at a ';', walked; the project's reader up to the next ';'. -/
import Derived.Test.YtibcaienaejgpaaDescK
import Derived.Lib.Bytealg
import Derived.BigQuiet
namespace Go.Proofs.Ytibcaienaejgpaa
open Go.RowKit
set_option linter.unusedVariables false

/-- What stands ahead of the first ';', what behind it; all, and none, if there is none. -/
def cutZ (l : List UInt8) : List UInt8 × List UInt8 × Bool := if semi l < l.length then (l.take (semi l), l.drop (semi l + 1), true) else (l, [], false)
theorem index_semi : ∀ l : List UInt8, Lib.indexByte l 59 = if semi l < l.length then (semi l : Int) else -1 := by
  intro l
  induction l with
  | nil => rfl
  | cons c r ih =>
    rw [Lib.indexByte, semi]
    by_cases hc : c = 59
    · subst hc
      simp
    · have : (c == 59) = false := by simpa using hc
      rw [if_neg hc, this, ih, if_neg Bool.false_ne_true]
      have hl := semi_le r
      simp only [List.length_cons]
      by_cases hlt : semi r < r.length
      · have h1 : ((semi r : Int) == -1) = false := by rw [beq_eq_false_iff_ne]; omega
        rw [if_pos hlt, if_pos (show semi r + 1 < r.length + 1 by omega), h1]
        rfl
      · rw [if_neg hlt, if_neg (show ¬ semi r + 1 < r.length + 1 by omega)]
        rfl
theorem index_any (l : List UInt8) (w : World) :
    Calls Try.prog 77 #[.string (bs l), .string (bs [59])] w fun e w' => e = .returned (.int .i64 (Lib.indexByte l 59)) ∧ w' = w := by
  have h1 : (bs [59]).size = 1 := rfl
  have hb1 := bs_nil l
  have hb2 := bs_nil [59]
  have i0 : ∀ W, (Instr.index 9 (.string (bs [59])) (.int .i64 0)).run Try.prog W = .ok (.int .u8 59) W := fun W => run_bs (k := 0) (by simp) rfl W
  have hp := fun W => Try.stringslite_IndexByte (bs l) 59 W
  have e59 : (bs l).data.toList = l := rfl
  simp only [e59] at hp
  have e8 : (Int.toNat 59).toUInt8 = (59 : UInt8) := rfl
  simp only [e8] at hp
  by_cases he : l = [59]
  · have E1 := Lib.hid (show Lib.indexByte l 59 = 0 by rw [he]; rfl)
    have hbe : ([59] == l) = true := by rw [he]; rfl
    rw [E1.out]
    clear hp
    have HL := Lib.hid he
    clear he
    go_enter Try.func77, Try.ntmps77
    go_wp2
    go_ret
    exact ⟨rfl, rfl⟩
  · have hbe : ([59] == l) = false := by
      simp only [beq_eq_false_iff_ne, ne_eq]
      exact fun e => he e.symm
    obtain ⟨x, hx⟩ : ∃ x, x = Lib.indexByte l 59 := ⟨_, rfl⟩
    rw [← hx] at hp ⊢
    have HP := Lib.hid hp
    clear hp he hx
    go_enter Try.func77, Try.ntmps77
    go_wp2_with fail
    refine (HP.out _).mono ?_
    rintro e w1 ⟨rfl, rfl⟩
    go_wp2
    go_ret
    exact ⟨rfl, rfl⟩
set_option maxHeartbeats 1000000 in
theorem cut_any (l : List UInt8) (hl : l.length ≤ 140737488351232) (w : World) :
    Calls Try.prog 76 #[.string (bs l), .string (bs [59])] w fun e w' => e = .returned (.tuple #[.string (bs (cutZ l).1), .string (bs (cutZ l).2.1), .bool (cutZ l).2.2]) ∧ ∃ m, w' = w.drewN m := by
  have hp := fun W => index_any l W
  rw [index_semi] at hp
  have h1 : (bs [59]).size = 1 := rfl
  by_cases hlt : semi l < l.length
  · rw [if_pos hlt] at hp
    have hz : cutZ l = (l.take (semi l), l.drop (semi l + 1), true) := by rw [cutZ, if_pos hlt]
    obtain ⟨X, hX⟩ : ∃ X, X = l.take (semi l) := ⟨_, rfl⟩
    obtain ⟨Y, hY⟩ : ∃ Y, Y = l.drop (semi l + 1) := ⟨_, rfl⟩
    rw [← hX, ← hY] at hz
    rw [hz]
    obtain ⟨n, hn⟩ : ∃ n, n = semi l := ⟨_, rfl⟩
    rw [← hn] at hp hX hY hlt
    have c1 : ∀ W, (Instr.slice 9 (.string (bs l)) none (some (.int .i64 n)) none).run Try.prog W = .ok (.string (bs X)) W :=
      fun W => run_head (x := X) (n := l.drop n) (by rw [hX]; simp) (by rw [hX]; simp; omega) W
    have c2 : ∀ W, (Instr.slice 9 (.string (bs l)) (some (.int .i64 ((n : Int) + 1))) none none).run Try.prog W = .ok (.string (bs Y)) W :=
      fun W => run_tail (x := l.take (n + 1)) (n := Y) (by rw [hY]; simp) (by simp; omega) W
    have HP := Lib.hid hp
    clear hp hz hX hY hn
    have hn1 : (n : Int) + 1 ≤ 140737488351232 := by omega
    clear hlt
    go_enter Try.func76, Try.ntmps76
    go_wp2_with fail
    refine (HP.out _).mono ?_
    rintro e w1 ⟨rfl, rfl⟩
    go_wp2
    go_quiet (fail)
    go_wp2
    refine bodyPost_ret (v := .tuple #[.string (bs X), .string (bs Y), .bool true]) (by simp [results, Try.results76, go_sem]; try exact ⟨rfl, rfl⟩) rfl ⟨rfl, _, rfl⟩
  · rw [if_neg hlt] at hp
    have hz : cutZ l = (l, [], false) := by rw [cutZ, if_neg hlt]
    rw [hz]
    have HP := Lib.hid hp
    clear hp hz hlt
    go_enter Try.func76, Try.ntmps76
    go_wp2_with fail
    refine (HP.out _).mono ?_
    rintro e w1 ⟨rfl, rfl⟩
    go_wp2
    refine bodyPost_ret (v := .tuple #[.string (bs l), .string (bs []), .bool false]) (by simp [results, Try.results76, go_sem]; rfl) rfl ⟨rfl, 0, rfl⟩
theorem sCut_any (l : List UInt8) (hl : l.length ≤ 140737488351232) (w : World) :
    Calls Try.prog 75 #[.string (bs l), .string (bs [59])] w fun e w' => e = .returned (.tuple #[.string (bs (cutZ l).1), .string (bs (cutZ l).2.1), .bool (cutZ l).2.2]) ∧ ∃ m, w' = w.drewN m := by
  have hp := fun W => cut_any l hl W
  obtain ⟨X, hX⟩ : ∃ X, X = cutZ l := ⟨_, rfl⟩
  rw [← hX] at hp ⊢
  have HP := Lib.hid hp
  clear hp hX
  go_enter Try.func75, Try.ntmps75
  go_wp2_with fail
  refine (HP.out _).mono ?_
  rintro e w1 ⟨rfl, m, rfl⟩
  go_wp2
  refine bodyPost_ret (v := .tuple #[.string (bs X.1), .string (bs X.2.1), .bool X.2.2]) (by simp [results, Try.results75, go_sem]; try exact ⟨rfl, rfl⟩) rfl ⟨rfl, _, rfl⟩
theorem grown_drewN {w w' : World} {r : Option Nat} (h : w.grownBy w' r) (n : Nat) : w.grownBy (w'.drewN n) r := ⟨h.os, h.tape, h.output, h.size, h.block⟩
theorem upTo_any (w : World) (g : Nat) (l : List UInt8) (b : Bool) (hl : l.length ≤ 140737488351232) (h : RD w g l b) :
    Calls Try.prog 74 #[.pointer (some ⟨g, 0, none⟩), .string (bs [59])] w (RRet w g (.tuple #[.string (bs (cutZ l).1), .bool (cutZ l).2.2]) (cutZ l).2.1 b) := by
  have hp := fun W => sCut_any l hl W
  obtain ⟨a0, a1, f0, f1⟩ := h.cells
  obtain ⟨X, hX⟩ : ∃ X, X = cutZ l := ⟨_, rfl⟩
  rw [← hX] at hp ⊢
  have HP := Lib.hid hp
  have HS := fun n => Lib.hid (RD.setText (w := w.drewN n) (show RD (w.drewN n) g l b from h) X.2.1)
  have HS := Lib.hid HS
  clear hp hX h
  go_enter Try.func74, Try.ntmps74
  go_wp2_with fail
  refine (HP.out _).mono ?_
  rintro e w1 ⟨rfl, m, rfl⟩
  go_wp2
  go_ret2
  exact ⟨rfl, (HS.out m).out, only_set (grown_drewN (World.grownBy.refl w _) m) 0 _⟩
end Go.Proofs.Ytibcaienaejgpaa
