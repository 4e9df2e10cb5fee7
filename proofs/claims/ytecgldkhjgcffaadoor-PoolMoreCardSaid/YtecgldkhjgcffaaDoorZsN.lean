/- Several texts of this proof, one behind the other. -/
import Derived.Test.YtecgldkhjgcffaaDoorZsM
import Derived.Test.YtecgldkhjgcffaaDoorZsH
import Derived.Test.YtecgldkhjgcffaaDoorZsA
/- May a constant be: the document's answer, walked. -/
namespace Go.Proofs.YtecgldkhjgcffaaDoor
open Go.RowKit
set_option linter.unusedVariables false

/-- May a constant be, as far as it tells itself, and by whom it names? -/
def MayC (l : List Cst) (x : Cst) : Prop :=
  (x.k = 1 ∧ x.n = 0 ∧ x.a = 0 ∧ x.b = 0 ∧ x.c = 0 ∧ Lib.validD x.t.data.toList = true) ∨
  (x.k = 2 ∧ x.t.toList = [] ∧ x.a = 0 ∧ x.b = 0 ∧ x.c = 0 ∧ -2147483648 ≤ x.n ∧ x.n < 2147483648) ∨
  (x.k = 3 ∧ x.t.toList = [] ∧ x.a = 0 ∧ x.b = 0 ∧ x.c = 0) ∨
  (x.k = 4 ∧ x.t.toList = [] ∧ x.n = 0 ∧ x.b = 0 ∧ x.c = 0 ∧ isK l x.a 1 = true) ∨
  ((x.k = 5 ∨ x.k = 6) ∧ x.t.toList = [] ∧ x.n = 0 ∧ isK l x.a 4 = true ∧ isK l x.b 1 = true ∧ isK l x.c 1 = true)
instance (l : List Cst) (x : Cst) : Decidable (MayC l x) := by unfold MayC; infer_instance
def mayC (l : List Cst) (x : Cst) : Bool := decide (MayC l x)
theorem ext_new {w : World} {o p : Obj} {q : Addr} {u : Value} (h : w.heap.size ≤ q.block) : Ext w (((w.alloc o).alloc p).setCell q u) := (((Ext.refl w).alloc o).alloc p).set_ h u
theorem ext_new3 {w : World} {o p : Obj} {q q1 q2 : Addr} {u u1 u2 : Value} (h : w.heap.size ≤ q.block) (h1 : w.heap.size ≤ q1.block) (h2 : w.heap.size ≤ q2.block) : Ext w (((((w.alloc o).alloc p).setCell q u).setCell q1 u1).setCell q2 u2) :=
  (((((Ext.refl w).alloc o).alloc p).set_ h u).set_ h1 u1).set_ h2 u2

end Go.Proofs.YtecgldkhjgcffaaDoor
/- Check: the document's answer, walked. -/
namespace Go.Proofs.YtecgldkhjgcffaaDoor
open Go.RowKit
set_option linter.unusedVariables false

/-- What may be encoded at all: each text's bytes have room. -/
def Room (l : List Cst) : Prop := ∀ x ∈ l, x.t.size ≤ 9223372036854775807 ∧ (encZ x.t.data.toList).length ≤ 140737488355328
theorem Room.at_ {l : List Cst} (h : Room l) {j : Nat} (hj : j < l.length) : (gc l j).t.size ≤ 9223372036854775807 ∧ (encZ (gc l j).t.data.toList).length ≤ 140737488355328 := h _ (gc_mem hj)

/-- May constants be? -/
def AllMay (l : List Cst) : Prop := gc l 0 = c0 ∧ ∀ j, 1 ≤ j → j < l.length → mayC l (gc l j) = true
noncomputable def checkC (l : List Cst) : Int := if 4096 < l.length then 5 else if l = [] then 40 else @ite _ (AllMay l) (Classical.propDecidable _) 0 40
theorem checkC_big {l : List Cst} (h : 4096 < l.length) : checkC l = 5 := by unfold checkC; rw [if_pos h]
theorem checkC_nil : checkC [] = 40 := by unfold checkC; rw [if_neg (by simp), if_pos rfl]
theorem checkC_yes {l : List Cst} (h : l.length ≤ 4096) (h0 : 0 < l.length) (ha : AllMay l) : checkC l = 0 := by
  unfold checkC
  rw [if_neg (by omega), if_neg (fun e => by rw [e] at h0; simp at h0), @if_pos _ (Classical.propDecidable _) ha]
theorem checkC_no {l : List Cst} (h : l.length ≤ 4096) (ha : ¬ AllMay l) : checkC l = 40 := by
  unfold checkC
  rw [if_neg (by omega)]
  by_cases he : l = []
  · rw [if_pos he]
  · rw [if_neg he, @if_neg _ (Classical.propDecidable _) ha]
theorem zero_of {x : Cst} (h0 : x.k = 0) (h1 : x.t.toList = []) (h2 : x.n = 0) (h3 : x.a = 0) (h4 : x.b = 0) (h5 : x.c = 0) : x = c0 :=
  Cst.ext_ h0 (toList_inj (by rw [h1, ByteArray.toList_eq]; rfl)) h2 h3 h4 h5
theorem ret_i {a b : Int} (h : a = b) : Ending.returned (.int .i64 a) = .returned (.int .i64 b) := by rw [h]

end Go.Proofs.YtecgldkhjgcffaaDoor
/- Slice expressions over a slice of which only the list is known. -/
namespace Go.Proofs.YtecgldkhjgcffaaDoor
open Go.RowKit
set_option linter.unusedVariables false

/-- A list's bytes lie in a block of a type. -/
def Typed (T : TypeId) (w : World) (v : Value) (l : List Int) : Prop := 0 < l.length → ∃ b o n c cur, v = .slice (some ⟨b, o, none⟩) n c ∧ w.heap[b]? = some (.cells cur T (0, 0))
theorem Typed.ext {T : TypeId} {w w' : World} {v : Value} {l : List Int} (h : Typed T w v l) (he : Ext w w') : Typed T w' v l := fun hl => by
  obtain ⟨b, o, n, c, cur, h1, h2⟩ := h hl
  exact ⟨b, o, n, c, cur, h1, (he.block b (lt_of_get h2)).trans h2⟩
theorem Own.typed {B : Nat} {w : World} {e : TypeId} {k : IntKind} {v : Value} {l : List Int} (h : Own B w e k v l) : Typed e w v l := fun hl => by
  obtain ⟨⟨h1, h2⟩, hf⟩ := h
  rcases h2 with ⟨_, h0⟩ | ⟨g, cap, cur, rfl, hb, hg, hn, hm, hs, ht⟩
  · omega
  · exact ⟨g, 0, _, cap, cur, rfl, hg⟩
theorem typed_nil (T : TypeId) (w : World) (v : Value) : Typed T w v [] := fun h => by simp at h
theorem tail_sliceT {w : World} {v : Value} {b : List Int} (h : Row w .u8 v b) (q : Nat) (hq : q ≤ b.length) :
    ∃ v2, (∀ W, (Instr.sliceAt 22 v (some (.int .i64 q)) none none).run Tryd.prog W = .ok v2 W) ∧ (∀ W, (Instr.slice 22 v (some (.int .i64 q)) none none).run Tryd.prog W = .ok v2 W) ∧ Row w .u8 v2 (b.drop q) ∧ ∀ T, Typed T w v b → Hid (Typed T w v2 (b.drop q)) := by
  have hk := h
  obtain ⟨A, c, rfl, h2, h3, h4, h5, h6⟩ := h
  have k1 : ¬ b.length < q := by omega
  have k3 : q ≤ c := by omega
  by_cases hc : c = q
  · have e : b.drop q = [] := List.drop_eq_nil_iff.2 (by omega)
    rw [e]
    have hlq : b.length = q := by omega
    have HE := Lib.hid e
    clear e
    subst hc
    rw [hlq] at *
    exact ⟨.slice A 0 0, fun W => by go_simp, fun W => by go_simp, cut_zero (fun _ => rfl) (by simp [maxLen]), fun T _ => typed_nil _ _ _⟩
  · have k4 : ¬ c = q := hc
    by_cases hb : b.length = 0
    · have hq0 : q = 0 := by omega
      subst hq0
      have e : b = [] := List.eq_nil_of_length_eq_zero hb
      subst e
      obtain ⟨ad, rfl⟩ : ∃ ad, A = some ad := by
        cases A with
        | none => exact absurd (h4 rfl) hc
        | some ad => exact ⟨ad, rfl⟩
      exact ⟨.slice (some (ad.add 0)) 0 c, fun W => by go_simp, fun W => by go_simp, cut_zero (fun h => by cases h) h3, fun T _ => typed_nil _ _ _⟩
    · obtain ⟨bl, o, rfl, h7, h8⟩ := h6 (by omega)
      clear h6 h8
      exact ⟨_, fun W => by go_simp, fun W => by go_simp, Row.tail hk q hq, fun T ht => fun _ => by
        obtain ⟨b1, o1, n1, c1, cur, e1, e2⟩ := ht (by omega)
        injection e1 with e1
        injection e1 with e1
        injection e1 with e1 e3
        subst e1
        exact ⟨_, _, _, _, cur, rfl, e2⟩⟩
/-- The first so many numbers of a slice, with no room behind them. -/
theorem head3_slice {w : World} {v : Value} {b : List Int} (h : Row w .u8 v b) (q : Nat) (hq : q ≤ b.length) :
    ∃ v2, (∀ W, (Instr.slice 22 v none (some (.int .i64 q)) (some (.int .i64 q))).run Tryd.prog W = .ok v2 W) ∧ (∀ W, (Instr.sliceAt 22 v none (some (.int .i64 q)) (some (.int .i64 q))).run Tryd.prog W = .ok v2 W) ∧ Row w .u8 v2 (b.take q) := by
  obtain ⟨A, c, rfl, h2, h3, h4, h5, h6⟩ := h
  have k3 : q ≤ c := by omega
  by_cases hq0 : q = 0
  · subst hq0
    exact ⟨.slice A 0 0, fun W => by cases A <;> go_simp, fun W => by cases A <;> go_simp, cut_zero (fun _ => rfl) (by simp [maxLen])⟩
  · obtain ⟨bl, o, rfl, h7, h8⟩ := h6 (by omega)
    clear h6
    have h9 : (b.take q).length = q := by simp; omega
    have k2 : ¬ q = 0 := hq0
    refine ⟨.slice (some ⟨bl, o, none⟩) q q, fun W => by clear h8; go_simp, fun W => by clear h8; go_simp, ⟨_, _, by rw [h9], by omega, by omega, (fun h => by cases h), h5.take q, fun _ => ⟨bl, o, rfl, h7, fun j hj => ?_⟩⟩⟩
    rw [h8 j (by omega)]
    simp [gi, show j < q by omega]
end Go.Proofs.YtecgldkhjgcffaaDoor
