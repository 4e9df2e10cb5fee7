/- An instruction that is moved, with all to which it goes: plain mathematics. -/
import Derived.Test.YtdjenhgngjmkjaaOpsSpec
namespace Go.Proofs.Ytdjenhgngjmkjaa
set_option linter.unusedVariables false

def mv (x : In) (d : Int) : In := ⟨x.a + d, x.o, x.n, x.m, x.to.map (· + d), x.ks⟩
/-- Is that a byte of a code? -/
def inC (t : Int) : Bool := decide (0 ≤ t ∧ t < 8192)
def inB (x : In) (d : Int) (k : Nat) : Bool := inC (x.a + d) && (x.to.take k).all fun t => inC (t + d)
theorem mv_fields (x : In) (d : Int) : fieldsOk (mv x d) = fieldsOk x := by
  unfold fieldsOk mv
  simp
theorem all_congr {l : List Int} {p q : Int → Bool} (h : ∀ t ∈ l, p t = q t) : l.all p = l.all q := by
  induction l with
  | nil => rfl
  | cons a l ih => rw [List.all_cons, List.all_cons, h a (by simp), ih fun t ht => h t (by simp [ht])]
theorem mv_may {x : In} (h : mayI x = true) (d : Int) : mayI (mv x d) = inB x d x.to.length := by
  obtain ⟨ha, ht, hf, hr⟩ := may_parts h
  unfold mayI
  rw [mv_fields, hf]
  show (decide (0 ≤ x.a + d ∧ x.a + d < 8192 ∧ 0 ≤ x.o ∧ x.o ≤ 89) && (x.to.map (· + d)).all (mayTo (x.a + d)) && true && rise x.ks) = _
  rw [hr, Bool.and_true, Bool.and_true]
  unfold inB
  rw [List.take_length, List.all_map]
  have e1 : decide (0 ≤ x.a + d ∧ x.a + d < 8192 ∧ 0 ≤ x.o ∧ x.o ≤ 89) = inC (x.a + d) := by
    unfold inC
    rw [decide_eq_decide]
    omega
  rw [e1]
  congr 1
  refine all_congr fun t htm => ?_
  have := mayTo_in (List.all_eq_true.1 ht t htm)
  simp only [Function.comp]
  unfold mayTo inC
  rw [decide_eq_decide]
  omega
theorem mv_tos (a d : Int) : ∀ l : List Int, tos (a + d) (l.map (· + d)) = tos a l
  | [] => rfl
  | t :: l => by
    rw [List.map_cons, tos, tos, mv_tos a d l]
    congr 2
    omega
theorem mv_kts (a d : Int) : ∀ ks l : List Int, kts (a + d) ks (l.map (· + d)) = kts a ks l
  | [], l => by cases l <;> rfl
  | k :: ks, [] => rfl
  | k :: ks, t :: l => by
    rw [List.map_cons, kts, kts, mv_kts a d ks l]
    congr 3
    omega
theorem mv_enc {x : In} (h : mayI x = true) (d : Int) : encB (mv x d) = encB x := by
  obtain ⟨-, -, hf, -⟩ := may_parts h
  obtain ⟨a, o, n, m, to, ks⟩ := x
  unfold mv encB tailB
  simp only
  have hz7 := shapeZ_le o
  have hc : shapeZ o = 0 ∨ shapeZ o = 1 ∨ shapeZ o = 2 ∨ shapeZ o = 3 ∨ shapeZ o = 4 ∨ shapeZ o = 5 ∨ shapeZ o = 6 ∨ shapeZ o = 7 := by omega
  unfold fieldsOk at hf
  simp only at hf
  cases to with
  | nil =>
    rcases hc with hz | hz | hz | hz | hz | hz | hz | hz
    all_goals
      simp [hz] at hf ⊢
  | cons t to =>
    have e : t + d - (a + d) = t - a := by omega
    simp [mv_tos, mv_kts, e]
/-- Moved up to so many of them. -/
def mvK (l : List Int) (d : Int) (k : Nat) : List Int := (l.take k).map (· + d) ++ l.drop k
theorem mvK_zero (l : List Int) (d : Int) : mvK l d 0 = l := by simp [mvK]
theorem mvK_len (l : List Int) (d : Int) (k : Nat) : (mvK l d k).length = l.length := by simp [mvK]; omega
theorem mvK_all (l : List Int) (d : Int) : mvK l d l.length = l.map (· + d) := by simp [mvK]
theorem mvK_at {l : List Int} {d : Int} {k : Nat} (h : k < l.length) : gi (mvK l d k) k = gi l k := by
  unfold mvK gi
  rw [List.getD_eq_getElem?_getD, List.getElem?_append_right (by simp; omega)]
  simp [Nat.min_eq_left (Nat.le_of_lt h)]
theorem mvK_set {l : List Int} {d : Int} {k : Nat} (h : k < l.length) : (mvK l d k).set k (gi l k + d) = mvK l d (k + 1) := by
  have e1 : l.drop k = gi l k :: l.drop (k + 1) := by
    rw [List.drop_eq_getElem_cons h]
    simp [gi, h]
  have e2 : l.take (k + 1) = l.take k ++ [gi l k] := by
    rw [List.take_succ_eq_append_getElem h]
    simp [gi, h]
  unfold mvK
  rw [e2, e1, List.set_append_right _ _ (by simp; omega)]
  simp [Nat.min_eq_left (Nat.le_of_lt h)]
theorem inB_next {x : In} {d : Int} {k : Nat} (h : k < x.to.length) : inB x d (k + 1) = (inB x d k && inC (gi x.to k + d)) := by
  have e2 : x.to.take (k + 1) = x.to.take k ++ [gi x.to k] := by
    rw [List.take_succ_eq_append_getElem h]
    simp [gi, h]
  unfold inB
  rw [e2, List.all_append, Bool.and_assoc]
  simp
end Go.Proofs.Ytdjenhgngjmkjaa
