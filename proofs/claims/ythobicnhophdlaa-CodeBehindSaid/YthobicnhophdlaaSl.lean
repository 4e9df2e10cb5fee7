/- Slice expressions over a slice of which only the list is known. -/
import Derived.Test.YthobicnhophdlaaEq0
namespace Go.Proofs.Ythobicnhophdlaa
open Go.RowKit
set_option linter.unusedVariables false

theorem cut_zero {w : World} {k : IntKind} {A : Option Addr} {c : Nat} (hA : A = none → c = 0) (hc : c ≤ maxLen) : Row w k (.slice A 0 c) [] :=
  ⟨A, c, rfl, Nat.zero_le _, hc, hA, Fit.nil _, fun h => by simp at h⟩
theorem head_slice {w : World} {v : Value} {b : List Int} (h : Row w .u8 v b) (q : Nat) (hq : q ≤ b.length) :
    ∃ v2, (∀ W, (Instr.sliceAt 22 v none (some (.int .i64 q)) none).run Try.prog W = .ok v2 W) ∧ (∀ W, (Instr.slice 22 v none (some (.int .i64 q)) none).run Try.prog W = .ok v2 W) ∧ Row w .u8 v2 (b.take q) := by
  have hk := h
  obtain ⟨A, c, rfl, h2, h3, h4, h5, h6⟩ := h
  have k1 : ¬ c < q := by omega
  have k3 : q ≤ c := by omega
  by_cases hb : b.length = 0
  · have hq0 : q = 0 := by omega
    subst hq0
    have e : b = [] := List.eq_nil_of_length_eq_zero hb
    subst e
    by_cases hc : c = 0
    · subst hc
      exact ⟨.slice A 0 0, fun W => by go_simp, fun W => by go_simp, cut_zero (fun _ => rfl) h3⟩
    · obtain ⟨ad, rfl⟩ : ∃ ad, A = some ad := by
        cases A with
        | none => exact absurd (h4 rfl) hc
        | some ad => exact ⟨ad, rfl⟩
      exact ⟨.slice (some (ad.add 0)) 0 c, fun W => by go_simp, fun W => by go_simp, cut_zero (fun h => by cases h) h3⟩
  · obtain ⟨bl, o, rfl, h7, h8⟩ := h6 (by omega)
    have k2 : ¬ c = 0 := by omega
    clear h6 h8
    exact ⟨_, fun W => by go_simp, fun W => by go_simp, Row.head hk q hq⟩
/-- A list's bytes lie in a block of a type. -/
def Typed (T : TypeId) (w : World) (v : Value) (l : List Int) : Prop := 0 < l.length → ∃ b o n c cur, v = .slice (some ⟨b, o, none⟩) n c ∧ w.heap[b]? = some (.cells cur T (0, 0))
theorem Typed.ext {T : TypeId} {w w' : World} {v : Value} {l : List Int} (h : Typed T w v l) (he : Ext w w') : Typed T w' v l := fun hl => by
  obtain ⟨b, o, n, c, cur, h1, h2⟩ := h hl
  exact ⟨b, o, n, c, cur, h1, (he.block b (lt_of_get h2)).trans h2⟩
theorem Own.typed {B : Nat} {w : World} {e : TypeId} {k : IntKind} {v : Value} {l : List Int} (h : Own B w e k v l) : Typed e w v l := fun hl => by
  obtain ⟨⟨h1, h2⟩, hf⟩ := h
  rcases h2 with ⟨_, h0⟩ | ⟨g, cap, cur, rfl, hb, hg, hn, hm, hs, ht⟩
  · omega
  · exact ⟨g, 0, _, cap, cur, rfl, hg⟩
theorem typed_nil (T : TypeId) (w : World) (v : Value) : Typed T w v [] := fun h => by simp at h
theorem tail_sliceT {w : World} {v : Value} {b : List Int} (h : Row w .u8 v b) (q : Nat) (hq : q ≤ b.length) :
    ∃ v2, (∀ W, (Instr.sliceAt 22 v (some (.int .i64 q)) none none).run Try.prog W = .ok v2 W) ∧ (∀ W, (Instr.slice 22 v (some (.int .i64 q)) none none).run Try.prog W = .ok v2 W) ∧ Row w .u8 v2 (b.drop q) ∧ ∀ T, Typed T w v b → Hid (Typed T w v2 (b.drop q)) := by
  have hk := h
  obtain ⟨A, c, rfl, h2, h3, h4, h5, h6⟩ := h
  have k1 : ¬ b.length < q := by omega
  have k3 : q ≤ c := by omega
  by_cases hc : c = q
  · have e : b.drop q = [] := List.drop_eq_nil_iff.2 (by omega)
    rw [e]
    have hlq : b.length = q := by omega
    have HE := Lib.hid e
    clear e
    subst hc
    rw [hlq] at *
    exact ⟨.slice A 0 0, fun W => by go_simp, fun W => by go_simp, cut_zero (fun _ => rfl) (by simp [maxLen]), fun T _ => typed_nil _ _ _⟩
  · have k4 : ¬ c = q := hc
    by_cases hb : b.length = 0
    · have hq0 : q = 0 := by omega
      subst hq0
      have e : b = [] := List.eq_nil_of_length_eq_zero hb
      subst e
      obtain ⟨ad, rfl⟩ : ∃ ad, A = some ad := by
        cases A with
        | none => exact absurd (h4 rfl) hc
        | some ad => exact ⟨ad, rfl⟩
      exact ⟨.slice (some (ad.add 0)) 0 c, fun W => by go_simp, fun W => by go_simp, cut_zero (fun h => by cases h) h3, fun T _ => typed_nil _ _ _⟩
    · obtain ⟨bl, o, rfl, h7, h8⟩ := h6 (by omega)
      clear h6 h8
      exact ⟨_, fun W => by go_simp, fun W => by go_simp, Row.tail hk q hq, fun T ht => fun _ => by
        obtain ⟨b1, o1, n1, c1, cur, e1, e2⟩ := ht (by omega)
        injection e1 with e1
        injection e1 with e1
        injection e1 with e1 e3
        subst e1
        exact ⟨_, _, _, _, cur, rfl, e2⟩⟩
theorem tail_slice {w : World} {v : Value} {b : List Int} (h : Row w .u8 v b) (q : Nat) (hq : q ≤ b.length) :
    ∃ v2, (∀ W, (Instr.sliceAt 22 v (some (.int .i64 q)) none none).run Try.prog W = .ok v2 W) ∧ (∀ W, (Instr.slice 22 v (some (.int .i64 q)) none none).run Try.prog W = .ok v2 W) ∧ Row w .u8 v2 (b.drop q) := by
  obtain ⟨v2, h1, h2, h3, _⟩ := tail_sliceT h q hq
  exact ⟨v2, h1, h2, h3⟩
/-- The first so many numbers of a slice, with no room behind them. -/
theorem head3_slice {w : World} {v : Value} {b : List Int} (h : Row w .u8 v b) (q : Nat) (hq : q ≤ b.length) :
    ∃ v2, (∀ W, (Instr.slice 22 v none (some (.int .i64 q)) (some (.int .i64 q))).run Try.prog W = .ok v2 W) ∧ (∀ W, (Instr.sliceAt 22 v none (some (.int .i64 q)) (some (.int .i64 q))).run Try.prog W = .ok v2 W) ∧ Row w .u8 v2 (b.take q) := by
  obtain ⟨A, c, rfl, h2, h3, h4, h5, h6⟩ := h
  have k3 : q ≤ c := by omega
  by_cases hq0 : q = 0
  · subst hq0
    exact ⟨.slice A 0 0, fun W => by cases A <;> go_simp, fun W => by cases A <;> go_simp, cut_zero (fun _ => rfl) (by simp [maxLen])⟩
  · obtain ⟨bl, o, rfl, h7, h8⟩ := h6 (by omega)
    clear h6
    have h9 : (b.take q).length = q := by simp; omega
    have k2 : ¬ q = 0 := hq0
    refine ⟨.slice (some ⟨bl, o, none⟩) q q, fun W => by clear h8; go_simp, fun W => by clear h8; go_simp, ⟨_, _, by rw [h9], by omega, by omega, (fun h => by cases h), h5.take q, fun _ => ⟨bl, o, rfl, h7, fun j hj => ?_⟩⟩⟩
    rw [h8 j (by omega)]
    simp [gi, show j < q by omega]
end Go.Proofs.Ythobicnhophdlaa
