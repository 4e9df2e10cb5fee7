/- Package text: a character off the beginning of bytes. -/
import Derived.Test.YtkjjmdmaffeboaaDoorTextP
import Derived.Test.YtkjjmdmaffeboaaDoorShelf
import Derived.LoopN
namespace Go.Proofs.YtkjjmdmaffeboaaDoor
open Go.RowKit
set_option linter.unusedVariables false

theorem takeRow_any (v : Value) (b : List Int) (w : World) (h : Row w .u8 v b) :
    Calls Tryd.prog 36 #[v] w fun e w' => e = .returned (.tuple #[.int .i32 (rowZ b).1, .int .i64 (rowZ b).2]) ∧ w = w' := by
  have hf := h.fit
  obtain ⟨A, c, rfl, h2, h3, h4, h5, h6⟩ := h
  unfold maxLen at h3
  clear h4 h5
  obtain ⟨n, hn⟩ : ∃ n, n = b.length := ⟨_, rfl⟩
  by_cases h0 : n = 0
  · have hb : b = [] := List.eq_nil_of_length_eq_zero (by omega)
    subst hb
    clear h6 hn
    go_enter Tryd.func36, Tryd.ntmps36
    go_wp2
    go_ret2
    exact ⟨rfl, rfl⟩
  · obtain ⟨bl, o, rfl, _, hc⟩ := h6 (by omega)
    have g0 := hf.gi 0
    have hne : ¬ b = [] := fun e => by subst e; simp at hn; omega
    have hc0 : w.cell? ⟨bl, o, none⟩ = some (.int .u8 (gi b 0)) := hc 0 (by omega)
    obtain ⟨x, hx⟩ : ∃ x, x = gi b 0 := ⟨_, rfl⟩
    rw [← hx] at g0 hc0
    have HX := Lib.hid hx
    have HN := Lib.hid hn
    have HE := Lib.hid hne
    rw [← hn] at h2 ⊢
    clear hn hne hx h6
    by_cases c1 : x < 192
    · have hr : rowZ b = (x, 1) := by unfold rowZ; rw [if_neg HE.out, if_pos (by rw [← HX.out]; exact c1), ← HX.out]
      rw [hr]
      have hn1 : ¬ (n : Int) < 1 := by omega
      clear hr hc
      by_cases hc1 : c = 1
      · go_enter Tryd.func36, Tryd.ntmps36
        go_wp2
        refine wp_loop_rounds 1 ?_
        rw [rounds_succ]
        go_wp2
        go_ret2
        exact ⟨rfl, rfl⟩
      · have hc2 : ¬ (c : Int) = 1 := by omega
        go_enter Tryd.func36, Tryd.ntmps36
        go_wp2
        refine wp_loop_rounds 1 ?_
        rw [rounds_succ]
        go_wp2
        go_ret2
        exact ⟨rfl, rfl⟩
    · by_cases c2 : x < 224
      · by_cases hn2 : 2 ≤ n
        · have hr : rowZ b = ((x - 192) * 64 + gi b 1 % 64, 2) := by unfold rowZ; rw [if_neg HE.out, if_neg (by rw [← HX.out]; exact c1), if_pos (by rw [← HX.out]; exact c2), if_pos (by rw [← HN.out]; exact hn2), ← HX.out]
          rw [hr]
          have g1 := hf.gi 1
          have hc1 : w.cell? ⟨bl, o + 1, none⟩ = some (.int .u8 (gi b 1)) := hc 1 (by have := HN.out; omega)
          obtain ⟨y, hy⟩ : ∃ y, y = gi b 1 := ⟨_, rfl⟩
          rw [← hy] at g1 hc1 ⊢
          have HY := Lib.hid hy
          clear hr hc hy
          have b1 := b8_and63 y (by omega) (by omega)
          have b2 := b32_or6 (x - 192) (y % 64) (by omega) (by omega) (by omega) (by omega)
          have b3 : (x - 192) % 256 = x - 192 := by omega
          have hcc : ¬ c = 1 := by omega
          go_enter Tryd.func36, Tryd.ntmps36
          go_wp2
          refine wp_loop_rounds 2 ?_
          rw [rounds_succ]
          go_wp2
          rw [rounds_succ]
          go_wp2
          go_ret2
          exact ⟨rfl, rfl⟩
        · have hr : rowZ b = (0, 0) := by unfold rowZ; rw [if_neg HE.out, if_neg (by rw [← HX.out]; exact c1), if_pos (by rw [← HX.out]; exact c2), if_neg (by rw [← HN.out]; exact hn2)]
          rw [hr]
          clear hr hc
          go_enter Tryd.func36, Tryd.ntmps36
          go_wp2
          go_ret2
          exact ⟨rfl, rfl⟩
      · by_cases hn3 : 3 ≤ n
        · have hr : rowZ b = ((x - 224) * 4096 + gi b 1 % 64 * 64 + gi b 2 % 64, 3) := by unfold rowZ; rw [if_neg HE.out, if_neg (by rw [← HX.out]; exact c1), if_neg (by rw [← HX.out]; exact c2), if_pos (by rw [← HN.out]; exact hn3), ← HX.out]
          rw [hr]
          have g1 := hf.gi 1
          have g2 := hf.gi 2
          have hc1 : w.cell? ⟨bl, o + 1, none⟩ = some (.int .u8 (gi b 1)) := hc 1 (by have := HN.out; omega)
          have hc2 : w.cell? ⟨bl, o + 1 + 1, none⟩ = some (.int .u8 (gi b 2)) := hc 2 (by have := HN.out; omega)
          obtain ⟨y, hy⟩ : ∃ y, y = gi b 1 := ⟨_, rfl⟩
          obtain ⟨z, hz⟩ : ∃ z, z = gi b 2 := ⟨_, rfl⟩
          rw [← hy] at g1 hc1 ⊢
          rw [← hz] at g2 hc2 ⊢
          have HY := Lib.hid hy
          have HZ := Lib.hid hz
          clear hr hc hy hz
          have b1 := b8_and63 y (by omega) (by omega)
          have b1' := b8_and63 z (by omega) (by omega)
          have b2 := b32_or6 (x - 224) (y % 64) (by omega) (by omega) (by omega) (by omega)
          have b2' := b32_or6 ((x - 224) * 64 + y % 64) (z % 64) (by omega) (by omega) (by omega) (by omega)
          have b3 : (x - 224) % 256 = x - 224 := by omega
          have hcc : ¬ c = 1 := by omega
          go_enter Tryd.func36, Tryd.ntmps36
          go_wp2
          refine wp_loop_rounds 3 ?_
          rw [rounds_succ]
          go_wp2
          rw [rounds_succ]
          go_wp2
          rw [rounds_succ]
          go_wp2
          go_ret2
          exact ⟨by rw [show (x - 224) * 4096 + y % 64 * 64 + z % 64 = ((x - 32 - 192) * 64 + y % 64) * 64 + z % 64 by omega]; rfl, rfl⟩
        · have hr : rowZ b = (0, 0) := by unfold rowZ; rw [if_neg HE.out, if_neg (by rw [← HX.out]; exact c1), if_neg (by rw [← HX.out]; exact c2), if_neg (by rw [← HN.out]; exact hn3)]
          rw [hr]
          clear hr hc
          go_enter Tryd.func36, Tryd.ntmps36
          go_wp2
          go_ret2
          exact ⟨rfl, rfl⟩

theorem cut_zero {w : World} {k : IntKind} {A : Option Addr} {c : Nat} (hA : A = none → c = 0) (hc : c ≤ maxLen) : Row w k (.slice A 0 c) [] :=
  ⟨A, c, rfl, Nat.zero_le _, hc, hA, Fit.nil _, fun h => by simp at h⟩
theorem head_slice {w : World} {v : Value} {b : List Int} (h : Row w .u8 v b) (q : Nat) (hq : q ≤ b.length) :
    ∃ v2, (∀ W, (Instr.sliceAt 22 v none (some (.int .i64 q)) none).run Tryd.prog W = .ok v2 W) ∧ (∀ W, (Instr.slice 22 v none (some (.int .i64 q)) none).run Tryd.prog W = .ok v2 W) ∧ Row w .u8 v2 (b.take q) := by
  have hk := h
  obtain ⟨A, c, rfl, h2, h3, h4, h5, h6⟩ := h
  have k1 : ¬ c < q := by omega
  have k3 : q ≤ c := by omega
  by_cases hb : b.length = 0
  · have hq0 : q = 0 := by omega
    subst hq0
    have e : b = [] := List.eq_nil_of_length_eq_zero hb
    subst e
    by_cases hc : c = 0
    · subst hc
      exact ⟨.slice A 0 0, fun W => by go_simp, fun W => by go_simp, cut_zero (fun _ => rfl) h3⟩
    · obtain ⟨ad, rfl⟩ : ∃ ad, A = some ad := by
        cases A with
        | none => exact absurd (h4 rfl) hc
        | some ad => exact ⟨ad, rfl⟩
      exact ⟨.slice (some (ad.add 0)) 0 c, fun W => by go_simp, fun W => by go_simp, cut_zero (fun h => by cases h) h3⟩
  · obtain ⟨bl, o, rfl, h7, h8⟩ := h6 (by omega)
    have k2 : ¬ c = 0 := by omega
    clear h6 h8
    exact ⟨_, fun W => by go_simp, fun W => by go_simp, Row.head hk q hq⟩
theorem tail_slice {w : World} {v : Value} {b : List Int} (h : Row w .u8 v b) (q : Nat) (hq : q ≤ b.length) :
    ∃ v2, (∀ W, (Instr.sliceAt 22 v (some (.int .i64 q)) none none).run Tryd.prog W = .ok v2 W) ∧ (∀ W, (Instr.slice 22 v (some (.int .i64 q)) none none).run Tryd.prog W = .ok v2 W) ∧ Row w .u8 v2 (b.drop q) := by
  have hk := h
  obtain ⟨A, c, rfl, h2, h3, h4, h5, h6⟩ := h
  have k1 : ¬ b.length < q := by omega
  have k3 : q ≤ c := by omega
  by_cases hc : c = q
  · have e : b.drop q = [] := List.drop_eq_nil_iff.2 (by omega)
    rw [e]
    have hlq : b.length = q := by omega
    have HE := Lib.hid e
    clear e
    subst hc
    rw [hlq] at *
    exact ⟨.slice A 0 0, fun W => by go_simp, fun W => by go_simp, cut_zero (fun _ => rfl) (by simp [maxLen])⟩
  · have k4 : ¬ c = q := hc
    by_cases hb : b.length = 0
    · have hq0 : q = 0 := by omega
      subst hq0
      have e : b = [] := List.eq_nil_of_length_eq_zero hb
      subst e
      obtain ⟨ad, rfl⟩ : ∃ ad, A = some ad := by
        cases A with
        | none => exact absurd (h4 rfl) hc
        | some ad => exact ⟨ad, rfl⟩
      exact ⟨.slice (some (ad.add 0)) 0 c, fun W => by go_simp, fun W => by go_simp, cut_zero (fun h => by cases h) h3⟩
    · obtain ⟨bl, o, rfl, h7, h8⟩ := h6 (by omega)
      clear h6 h8
      exact ⟨_, fun W => by go_simp, fun W => by go_simp, Row.tail hk q hq⟩
end Go.Proofs.YtkjjmdmaffeboaaDoor
