/- Slice expressions over a slice of which only the list is known. -/
import Derived.Test.YtokegociipcccaaEq0
namespace Go.Proofs.Ytokegociipcccaa
open Go.RowKit
set_option linter.unusedVariables false

theorem cut_zero {w : World} {k : IntKind} {A : Option Addr} {c : Nat} (hA : A = none → c = 0) (hc : c ≤ maxLen) : Row w k (.slice A 0 c) [] :=
  ⟨A, c, rfl, Nat.zero_le _, hc, hA, Fit.nil _, fun h => by simp at h⟩
theorem head_slice {w : World} {v : Value} {b : List Int} (h : Row w .u8 v b) (q : Nat) (hq : q ≤ b.length) :
    ∃ v2, (∀ W, (Instr.sliceAt 23 v none (some (.int .i64 q)) none).run Try.prog W = .ok v2 W) ∧ (∀ W, (Instr.slice 23 v none (some (.int .i64 q)) none).run Try.prog W = .ok v2 W) ∧ Row w .u8 v2 (b.take q) := by
  have hk := h
  obtain ⟨A, c, rfl, h2, h3, h4, h5, h6⟩ := h
  have k1 : ¬ c < q := by omega
  have k3 : q ≤ c := by omega
  by_cases hb : b.length = 0
  · have hq0 : q = 0 := by omega
    subst hq0
    have e : b = [] := List.eq_nil_of_length_eq_zero hb
    subst e
    by_cases hc : c = 0
    · subst hc
      exact ⟨.slice A 0 0, fun W => by go_simp, fun W => by go_simp, cut_zero (fun _ => rfl) h3⟩
    · obtain ⟨ad, rfl⟩ : ∃ ad, A = some ad := by
        cases A with
        | none => exact absurd (h4 rfl) hc
        | some ad => exact ⟨ad, rfl⟩
      exact ⟨.slice (some (ad.add 0)) 0 c, fun W => by go_simp, fun W => by go_simp, cut_zero (fun h => by cases h) h3⟩
  · obtain ⟨bl, o, rfl, h7, h8⟩ := h6 (by omega)
    have k2 : ¬ c = 0 := by omega
    clear h6 h8
    exact ⟨_, fun W => by go_simp, fun W => by go_simp, Row.head hk q hq⟩
theorem tail_slice {w : World} {v : Value} {b : List Int} (h : Row w .u8 v b) (q : Nat) (hq : q ≤ b.length) :
    ∃ v2, (∀ W, (Instr.sliceAt 23 v (some (.int .i64 q)) none none).run Try.prog W = .ok v2 W) ∧ (∀ W, (Instr.slice 23 v (some (.int .i64 q)) none none).run Try.prog W = .ok v2 W) ∧ Row w .u8 v2 (b.drop q) := by
  have hk := h
  obtain ⟨A, c, rfl, h2, h3, h4, h5, h6⟩ := h
  have k1 : ¬ b.length < q := by omega
  have k3 : q ≤ c := by omega
  by_cases hc : c = q
  · have e : b.drop q = [] := List.drop_eq_nil_iff.2 (by omega)
    rw [e]
    have hlq : b.length = q := by omega
    have HE := Lib.hid e
    clear e
    subst hc
    rw [hlq] at *
    exact ⟨.slice A 0 0, fun W => by go_simp, fun W => by go_simp, cut_zero (fun _ => rfl) (by simp [maxLen])⟩
  · have k4 : ¬ c = q := hc
    by_cases hb : b.length = 0
    · have hq0 : q = 0 := by omega
      subst hq0
      have e : b = [] := List.eq_nil_of_length_eq_zero hb
      subst e
      obtain ⟨ad, rfl⟩ : ∃ ad, A = some ad := by
        cases A with
        | none => exact absurd (h4 rfl) hc
        | some ad => exact ⟨ad, rfl⟩
      exact ⟨.slice (some (ad.add 0)) 0 c, fun W => by go_simp, fun W => by go_simp, cut_zero (fun h => by cases h) h3⟩
    · obtain ⟨bl, o, rfl, h7, h8⟩ := h6 (by omega)
      clear h6 h8
      exact ⟨_, fun W => by go_simp, fun W => by go_simp, Row.tail hk q hq⟩
/-- The first so many numbers of a slice, with no room behind them. -/
theorem head3_slice {w : World} {v : Value} {b : List Int} (h : Row w .u8 v b) (q : Nat) (hq : q ≤ b.length) :
    ∃ v2, (∀ W, (Instr.slice 23 v none (some (.int .i64 q)) (some (.int .i64 q))).run Try.prog W = .ok v2 W) ∧ (∀ W, (Instr.sliceAt 23 v none (some (.int .i64 q)) (some (.int .i64 q))).run Try.prog W = .ok v2 W) ∧ Row w .u8 v2 (b.take q) := by
  obtain ⟨A, c, rfl, h2, h3, h4, h5, h6⟩ := h
  have k3 : q ≤ c := by omega
  by_cases hq0 : q = 0
  · subst hq0
    exact ⟨.slice A 0 0, fun W => by cases A <;> go_simp, fun W => by cases A <;> go_simp, cut_zero (fun _ => rfl) (by simp [maxLen])⟩
  · obtain ⟨bl, o, rfl, h7, h8⟩ := h6 (by omega)
    clear h6
    have h9 : (b.take q).length = q := by simp; omega
    have k2 : ¬ q = 0 := hq0
    refine ⟨.slice (some ⟨bl, o, none⟩) q q, fun W => by clear h8; go_simp, fun W => by clear h8; go_simp, ⟨_, _, by rw [h9], by omega, by omega, (fun h => by cases h), h5.take q, fun _ => ⟨bl, o, rfl, h7, fun j hj => ?_⟩⟩⟩
    rw [h8 j (by omega)]
    simp [gi, show j < q by omega]
end Go.Proofs.Ytokegociipcccaa
