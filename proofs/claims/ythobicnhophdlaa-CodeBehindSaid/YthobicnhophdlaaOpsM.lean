/- A reader of an instruction's fields, step by step, with a mark that says that the bytes have ended: plain mathematics. -/
import Derived.Test.YthobicnhophdlaaLebOM
namespace Go.Proofs.Ythobicnhophdlaa
set_option linter.unusedVariables false

/-- One number: st says whether nothing is read any more once the bytes have ended. -/
def rdN (st : Bool) (s : Nat) (sg : Bool) (q : List Int × Bool) : Int × List Int × Bool :=
  if (st = true ∧ q.2 = true) ∨ q.1.length < s then (0, q.1, true) else (pk s sg q.1, q.1.drop s, q.2)
theorem rdN_ended {st : Bool} {s : Nat} {sg : Bool} {q : List Int × Bool} (h : q.2 = true) : (rdN st s sg q).2.2 = true := by
  unfold rdN
  split
  · rfl
  · exact h
theorem rdN_short {st : Bool} {s : Nat} {sg : Bool} {l : List Int} (e : Bool) (h : l.length < s) : rdN st s sg (l, e) = (0, l, true) := by
  unfold rdN
  rw [if_pos (.inr h)]
theorem rdN_ok {st : Bool} {s : Nat} {sg : Bool} {l : List Int} (h : s ≤ l.length) : rdN st s sg (l, false) = (pk s sg l, l.drop s, false) := by
  unfold rdN
  rw [if_neg (by simp; omega)]
/-- So many places; so many keys with their places; no more once the bytes have ended. -/
def rdT (st : Bool) (a : Int) : Nat → List Int × Bool → List Int × List Int × Bool
  | 0, q => ([], q)
  | n + 1, q => if q.2 = true then ([], q) else
    let r := rdN st 2 true q
    let y := rdT st a n r.2
    ((a + r.1) :: y.1, y.2)
def rdK (st : Bool) (a : Int) : Nat → List Int × Bool → List Int × List Int × List Int × Bool
  | 0, q => ([], [], q)
  | n + 1, q => if q.2 = true then ([], [], q) else
    let r := rdN st 4 true q
    let p := rdN st 2 true r.2
    let y := rdK st a n p.2
    (r.1 :: y.1, (a + p.1) :: y.2.1, y.2.2)
/-- All fields. -/
def insM (st : Bool) (a o : Int) (q : List Int × Bool) : In × List Int × Bool :=
  let z := shapeZ o
  if z = 1 then let r := rdN st 1 false q; (⟨a, o, r.1, 0, [], []⟩, r.2)
  else if z = 2 then let r := rdN st 2 true q; (⟨a, o, r.1, 0, [], []⟩, r.2)
  else if z = 3 then let r := rdN st 2 false q; (⟨a, o, r.1, 0, [], []⟩, r.2)
  else if z = 4 then let r := rdN st 2 true q; (⟨a, o, 0, 0, [a + r.1], []⟩, r.2)
  else if z = 5 then let r := rdN st 1 false q; let p := rdN st 1 true r.2; (⟨a, o, r.1, p.1, [], []⟩, p.2)
  else if z = 6 then
    let r := rdN st 2 true q; let p := rdN st 4 true r.2; let c := rdN st 2 false p.2; let y := rdT st a c.1.toNat c.2
    (⟨a, o, p.1, 0, (a + r.1) :: y.1, []⟩, y.2)
  else if z = 7 then
    let r := rdN st 2 true q; let c := rdN st 2 false r.2; let y := rdK st a c.1.toNat c.2
    (⟨a, o, 0, 0, (a + r.1) :: y.2.1, y.1⟩, y.2.2)
  else (⟨a, o, 0, 0, [], []⟩, q)
theorem rdT_ended {st : Bool} {a : Int} : ∀ {n : Nat} {q : List Int × Bool}, q.2 = true → rdT st a n q = ([], q)
  | 0, q, h => rfl
  | n + 1, q, h => by rw [rdT, if_pos h]
theorem rdK_ended {st : Bool} {a : Int} : ∀ {n : Nat} {q : List Int × Bool}, q.2 = true → rdK st a n q = ([], [], q)
  | 0, q, h => rfl
  | n + 1, q, h => by rw [rdK, if_pos h]
theorem rdT_body {st : Bool} {a : Int} : ∀ {n : Nat} {l : List Int}, match rdTos a n l with | some x => rdT st a n (l, false) = (x.1, x.2, false) | none => (rdT st a n (l, false)).2.2 = true
  | 0, l => rfl
  | n + 1, l => by
    by_cases h : 2 ≤ l.length
    · match l, h with
      | p :: q :: l, h =>
        have ih := rdT_body (st := st) (a := a) (n := n) (l := l)
        rw [rdT, if_neg (by simp), rdN_ok (by simp), rdTos]
        simp only [List.drop_succ_cons, List.drop_zero, pk]
        cases hx : rdTos a n l with
        | none => rw [hx] at ih; exact ih
        | some x => rw [hx] at ih; simp only at ih; simp [ih]
    · have e : rdTos a (n + 1) l = none := by
        match l with
        | [] => rfl
        | [_] => rfl
        | _ :: _ :: l => simp at h
      rw [e]
      simp only
      rw [rdT, if_neg (by simp), rdN_short _ (by omega)]
      simp only
      rw [rdT_ended (q := (l, true)) rfl]
theorem rdK_body {st : Bool} {a : Int} : ∀ {n : Nat} {l : List Int}, match rdKts a n l with | some x => rdK st a n (l, false) = (x.1, x.2.1, x.2.2, false) | none => (rdK st a n (l, false)).2.2.2 = true
  | 0, l => rfl
  | n + 1, l => by
    by_cases h : 6 ≤ l.length
    · match l, h with
      | b :: c :: d :: e :: p :: q :: l, h =>
        have ih := rdK_body (st := st) (a := a) (n := n) (l := l)
        rw [rdK, if_neg (by simp), rdN_ok (by simp)]
        simp only [List.drop_succ_cons, List.drop_zero]
        rw [rdN_ok (by simp), rdKts]
        simp only [List.drop_succ_cons, List.drop_zero, pk]
        cases hx : rdKts a n l with
        | none => rw [hx] at ih; exact ih
        | some x => rw [hx] at ih; simp only at ih; simp [ih]
    · have e : rdKts a (n + 1) l = none := by
        match l with
        | [] => rfl
        | [_] => rfl
        | [_, _] => rfl
        | [_, _, _] => rfl
        | [_, _, _, _] => rfl
        | [_, _, _, _, _] => rfl
        | _ :: _ :: _ :: _ :: _ :: _ :: l => simp at h
      rw [e]
      simp only
      rw [rdK, if_neg (by simp)]
      simp only
      by_cases h4 : l.length < 4
      · rw [rdN_short _ h4]
        have := rdN_ended (st := st) (s := 2) (sg := true) (q := (l, true)) rfl
        rw [rdK_ended this]
        exact this
      · rw [rdN_ok (s := 4) (by omega), rdN_short (s := 2) _ (by simp; omega)]
        simp only
        rw [rdK_ended (q := (l.drop 4, true)) rfl]
/-- What is read is what the bytes say; where they end too early the mark is set. -/
theorem insM_body {st : Bool} {a o : Int} {l : List Int} : match body a o l with | some x => insM st a o (l, false) = (x.1, x.2, false) | none => (insM st a o (l, false)).2.2 = true := by
  unfold body insM
  simp only
  obtain ⟨z, hz⟩ : ∃ z, z = shapeZ o := ⟨_, rfl⟩
  have hz7 := shapeZ_le o
  rw [← hz] at hz7 ⊢
  have hc : z = 0 ∨ z = 1 ∨ z = 2 ∨ z = 3 ∨ z = 4 ∨ z = 5 ∨ z = 6 ∨ z = 7 := by omega
  clear hz hz7
  rcases hc with rfl | rfl | rfl | rfl | rfl | rfl | rfl | rfl
  · simp
  · match l with
    | [] => simp [rdN_short]
    | p :: l => simp [rdN_ok, pk]
  · match l with
    | [] => simp [rdN_short]
    | [_] => simp [rdN_short]
    | p :: q :: l => simp [rdN_ok, pk]
  · match l with
    | [] => simp [rdN_short]
    | [_] => simp [rdN_short]
    | p :: q :: l => simp [rdN_ok, pk]
  · match l with
    | [] => simp [rdN_short]
    | [_] => simp [rdN_short]
    | p :: q :: l => simp [rdN_ok, pk]
  · match l with
    | [] => simp [rdN_short]
    | [_] => simp [rdN_ok, rdN_short]
    | p :: q :: l => simp [rdN_ok, pk]
  · simp only [if_neg (show ¬ (6 : Int) = 1 by omega), if_neg (show ¬ (6 : Int) = 2 by omega), if_neg (show ¬ (6 : Int) = 3 by omega), if_neg (show ¬ (6 : Int) = 4 by omega), if_neg (show ¬ (6 : Int) = 5 by omega), if_pos]
    by_cases h : 8 ≤ l.length
    · match l, h with
      | p :: q :: b :: c :: d :: e :: f :: g :: r, h =>
        have ih := rdT_body (st := st) (a := a) (n := (u2 f g).toNat) (l := r)
        rw [rdN_ok (by simp)]
        simp only [List.drop_succ_cons, List.drop_zero]
        rw [rdN_ok (by simp)]
        simp only [List.drop_succ_cons, List.drop_zero]
        rw [rdN_ok (by simp)]
        simp only [List.drop_succ_cons, List.drop_zero, pk]
        cases hx : rdTos a (u2 f g).toNat r with
        | none => rw [hx] at ih; exact ih
        | some x => rw [hx] at ih; simp only at ih; simp [ih]
    · have key : (rdN st 2 false (rdN st 4 true (rdN st 2 true (l, false)).2).2).2.2 = true := by
        by_cases h2 : l.length < 2
        · rw [rdN_short _ h2]; exact rdN_ended (rdN_ended rfl)
        · rw [rdN_ok (by omega)]
          by_cases h4 : l.length < 6
          · rw [rdN_short (s := 4) _ (by simp; omega)]; exact rdN_ended rfl
          · rw [rdN_ok (s := 4) (by simp; omega), rdN_short (s := 2) _ (by simp; omega)]
      match l, h with
      | [], _ => simp only; rw [rdT_ended key]; exact key
      | [_], _ => simp only; rw [rdT_ended key]; exact key
      | [_, _], _ => simp only; rw [rdT_ended key]; exact key
      | [_, _, _], _ => simp only; rw [rdT_ended key]; exact key
      | [_, _, _, _], _ => simp only; rw [rdT_ended key]; exact key
      | [_, _, _, _, _], _ => simp only; rw [rdT_ended key]; exact key
      | [_, _, _, _, _, _], _ => simp only; rw [rdT_ended key]; exact key
      | [_, _, _, _, _, _, _], _ => simp only; rw [rdT_ended key]; exact key
      | _ :: _ :: _ :: _ :: _ :: _ :: _ :: _ :: r, h => simp at h
  · simp only [if_neg (show ¬ (7 : Int) = 1 by omega), if_neg (show ¬ (7 : Int) = 2 by omega), if_neg (show ¬ (7 : Int) = 3 by omega), if_neg (show ¬ (7 : Int) = 4 by omega), if_neg (show ¬ (7 : Int) = 5 by omega), if_neg (show ¬ (7 : Int) = 6 by omega), if_pos]
    by_cases h : 4 ≤ l.length
    · match l, h with
      | p :: q :: f :: g :: r, h =>
        have ih := rdK_body (st := st) (a := a) (n := (u2 f g).toNat) (l := r)
        rw [rdN_ok (by simp)]
        simp only [List.drop_succ_cons, List.drop_zero]
        rw [rdN_ok (by simp)]
        simp only [List.drop_succ_cons, List.drop_zero, pk]
        cases hx : rdKts a (u2 f g).toNat r with
        | none => rw [hx] at ih; exact ih
        | some x => rw [hx] at ih; simp only at ih; simp [ih]
    · have key : (rdN st 2 false (rdN st 2 true (l, false)).2).2.2 = true := by
        by_cases h2 : l.length < 2
        · rw [rdN_short _ h2]; exact rdN_ended rfl
        · rw [rdN_ok (by omega), rdN_short _ (by simp; omega)]
      match l, h with
      | [], _ => simp only; rw [rdK_ended key]; exact key
      | [_], _ => simp only; rw [rdK_ended key]; exact key
      | [_, _], _ => simp only; rw [rdK_ended key]; exact key
      | [_, _, _], _ => simp only; rw [rdK_ended key]; exact key
      | _ :: _ :: _ :: _ :: r, h => simp at h
end Go.Proofs.Ythobicnhophdlaa
