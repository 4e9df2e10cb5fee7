/- Several texts of this proof, one behind the other. -/
import Derived.Test.YtokmeomjdpfknaaGreatDoorZbE
import Derived.Test.YtokmeomjdpfknaaGreatDoorZbC
import Derived.Test.YtokmeomjdpfknaaGreatDoorZbA
import Derived.Laws.Concat
namespace Go.Proofs.YtokmeomjdpfknaaGreatDoor
set_option linter.unusedVariables false

def hasAt (l : List In) (t : Int) : Bool := l.any fun x => decide (x.a = t)
def cuts (b : List Int) : Nat → Nat → List In × Int × Int
  | 0, _ => ([], 0, 0)
  | n + 1, k =>
    if k < b.length then
      if (opsDec b k).2.2 = 0 then
        (if (cuts b n (opsDec b k).2.1.toNat).2.2 = 0 then ((opsDec b k).1 :: (cuts b n (opsDec b k).2.1.toNat).1, 0, 0) else cuts b n (opsDec b k).2.1.toNat)
      else ([], (k : Int), (opsDec b k).2.2)
    else ([], 0, 0)
def cutF (b : List Int) (k : Nat) : List In × Int × Int := cuts b (b.length - k) k
def Bytes (b : List Int) : Prop := ∀ c ∈ b, B8 c
theorem cuts_none {b : List Int} : ∀ {n k : Nat}, (cuts b n k).2.2 ≠ 0 → (cuts b n k).1 = [] := by
  intro n
  induction n with
  | zero => intro k h; rfl
  | succ n ih =>
    intro k h
    unfold cuts at h ⊢
    split at h <;> rename_i h1
    · rw [if_pos h1]
      split at h <;> rename_i h2
      · rw [if_pos h2]
        split at h <;> rename_i h3
        · exact absurd rfl h
        · rw [if_neg h3]
          exact ih h
      · rw [if_neg h2]
    · exact absurd rfl h
theorem cuts_zero {b : List Int} : ∀ {n k : Nat}, (cuts b n k).2.2 = 0 → (cuts b n k).2.1 = 0 := by
  intro n
  induction n with
  | zero => intro k h; rfl
  | succ n ih =>
    intro k h
    unfold cuts at h ⊢
    split at h <;> rename_i h1
    · rw [if_pos h1]
      split at h <;> rename_i h2
      · rw [if_pos h2]
        split at h <;> rename_i h3
        · rw [if_pos h3]
        · exact absurd h h3
      · exact absurd h h2
    · rw [if_neg h1]
theorem dec_next {b : List Int} (hb : Bytes b) {k : Nat} (h : (opsDec b k).2.2 = 0) : ∃ n : Nat, (opsDec b k).2.1 = n ∧ k < n ∧ n ≤ b.length := by
  obtain ⟨h1, h2, h3, h4, h5, h6⟩ := enc_dec hb h
  exact ⟨(opsDec b k).2.1.toNat, by omega, by omega, by omega⟩
theorem cuts_fuel {b : List Int} (hb : Bytes b) : ∀ (n m k : Nat), b.length - k ≤ n → b.length - k ≤ m → cuts b n k = cuts b m k := by
  intro n
  induction n with
  | zero =>
    intro m k h1 h2
    cases m with
    | zero => rfl
    | succ m =>
      rw [cuts, cuts, if_neg (by omega)]
  | succ n ih =>
    intro m k h1 h2
    cases m with
    | zero => rw [cuts, cuts, if_neg (by omega)]
    | succ m =>
      rw [cuts, cuts]
      by_cases hk : k < b.length
      · rw [if_pos hk, if_pos hk]
        by_cases he : (opsDec b k).2.2 = 0
        · obtain ⟨j, hj, hj1, hj2⟩ := dec_next hb he
          rw [hj, Int.toNat_natCast, ih m j (by omega) (by omega)]
        · rw [if_neg he, if_neg he]
      · rw [if_neg hk, if_neg hk]
theorem cutF_step {b : List Int} (hb : Bytes b) {k j : Nat} {x : In} (hk : k < b.length) (h : opsDec b k = (x, (j : Int), 0)) :
    cutF b k = if (cutF b j).2.2 = 0 then (x :: (cutF b j).1, 0, 0) else cutF b j := by
  have h0 : (opsDec b k).2.2 = 0 := by rw [h]
  obtain ⟨i, hi, hi1, hi2⟩ := dec_next hb h0
  have hij : i = j := by rw [h] at hi; simp only at hi; omega
  subst hij
  unfold cutF
  rw [show b.length - k = (b.length - k - 1) + 1 by omega, cuts, if_pos hk, if_pos h0, hi, Int.toNat_natCast, h, cuts_fuel hb (b.length - k - 1) (b.length - i) i (by omega) (by omega)]
theorem cutF_bad {b : List Int} {k : Nat} (hk : k < b.length) (h : (opsDec b k).2.2 ≠ 0) : cutF b k = ([], (k : Int), (opsDec b k).2.2) := by
  unfold cutF
  rw [show b.length - k = (b.length - k - 1) + 1 by omega, cuts, if_pos hk, if_neg h]
theorem cutF_end {b : List Int} {k : Nat} (hk : b.length ≤ k) : cutF b k = ([], 0, 0) := by
  unfold cutF
  rw [show b.length - k = 0 by omega, cuts]
def Come (b : List Int) (R : List In × Int × Int) (acc : List In) (k : Nat) : Prop := R = if (cutF b k).2.2 = 0 then (acc ++ (cutF b k).1, 0, 0) else cutF b k
theorem Come.start (b : List Int) : Come b (cutF b 0) [] 0 := by
  unfold Come
  split
  · rename_i h
    have h1 : (cutF b 0).2.1 = 0 := cuts_zero h
    rw [List.nil_append]
    exact Prod.ext rfl (Prod.ext h1 h)
  · rfl
theorem Come.next {b : List Int} (hb : Bytes b) {R : List In × Int × Int} {acc : List In} {k j : Nat} {x : In} (h : Come b R acc k) (hk : k < b.length) (hd : opsDec b k = (x, (j : Int), 0)) : Come b R (acc ++ [x]) j := by
  unfold Come at *
  rw [cutF_step hb hk hd] at h
  by_cases h2 : (cutF b j).2.2 = 0
  · rw [if_pos h2] at h ⊢
    rw [h]
    simp
  · rw [if_neg h2, if_neg h2] at h
    rw [if_neg h2]
    exact h
theorem Come.end_ {b : List Int} {R : List In × Int × Int} {acc : List In} {k : Nat} (h : Come b R acc k) (hk : b.length ≤ k) : R = (acc, 0, 0) := by
  unfold Come at h
  rw [cutF_end hk] at h
  simpa using h
theorem Come.bad {b : List Int} {R : List In × Int × Int} {acc : List In} {k : Nat} (h : Come b R acc k) (hk : k < b.length) (he : (opsDec b k).2.2 ≠ 0) : R = ([], (k : Int), (opsDec b k).2.2) := by
  unfold Come at h
  rw [cutF_bad hk he, if_neg he] at h
  exact h
def firstNot (p : In → Bool) : List In → Int × Bool
  | [] => (0, false)
  | x :: l => if p x = true then firstNot p l else (x.a, true)
theorem firstNot_all {p : In → Bool} : ∀ {l : List In}, (firstNot p l).2 = false → ∀ x ∈ l, p x = true := by
  intro l
  induction l with
  | nil => intro _ x hx; cases hx
  | cons y l ih =>
    intro h x hx
    unfold firstNot at h
    split at h <;> rename_i h1
    · rcases List.mem_cons.1 hx with rfl | hx
      · exact h1
      · exact ih h x hx
    · cases h
theorem firstNot_next {p : In → Bool} {l : List In} {k : Nat} (h : k < l.length) (hp : p (l.getD k i0) = true) : firstNot p (l.drop k) = firstNot p (l.drop (k + 1)) := by
  have e : l.getD k i0 = l[k] := by simp [h]
  rw [e] at hp
  rw [List.drop_eq_getElem_cons h, firstNot, if_pos hp]
theorem firstNot_here {p : In → Bool} {l : List In} {k : Nat} (h : k < l.length) (hp : p (l.getD k i0) = false) : firstNot p (l.drop k) = ((l.getD k i0).a, true) := by
  have e : l.getD k i0 = l[k] := by simp [h]
  rw [List.drop_eq_getElem_cons h, firstNot, e]
  rw [e] at hp
  rw [if_neg (by rw [hp]; simp)]
def good (l : List In) (x : In) : Bool := x.to.all (hasAt l)
def cutL (R : List In × Int × Int) : List In × Int × Int :=
  if R.2.2 = 0 then
    if (firstNot (good R.1) R.1).2 = true then ([], (firstNot (good R.1) R.1).1, 70)
    else if endsZ (R.1.getD (R.1.length - 1) i0).o = true then (R.1, 0, 0) else ([], (R.1.getD (R.1.length - 1) i0).a, 70)
  else ([], R.2.1, R.2.2)
def cutZ (b : List Int) : List In × Int × Int := if 8192 < b.length then ([], 0, 5) else if b.length = 0 then ([], 0, 70) else cutL (cutF b 0)
theorem cutF_all {b : List Int} (hb : Bytes b) : ∀ (n k : Nat), b.length - k = n → (cutF b k).2.2 = 0 → ∀ x ∈ (cutF b k).1, mayI x = true ∧ (k : Int) ≤ x.a ∧ x.a < b.length := by
  intro n
  induction n using Nat.strongRecOn with
  | ind n ih =>
    intro k hn h x hx
    by_cases hk : k < b.length
    · by_cases he : (opsDec b k).2.2 = 0
      · obtain ⟨j, hj, hj1, hj2⟩ := dec_next hb he
        obtain ⟨h1, h2, h3, h4, h5, h6⟩ := enc_dec hb he
        have hd : opsDec b k = ((opsDec b k).1, (j : Int), 0) := Prod.ext rfl (Prod.ext hj he)
        rw [cutF_step hb hk hd] at h hx
        split at h <;> rename_i h7
        · rw [if_pos h7] at hx
          simp only at hx
          rcases List.mem_cons.1 hx with rfl | hx
          · exact ⟨h1, by omega, by omega⟩
          · obtain ⟨q1, q2, q3⟩ := ih (b.length - j) (by omega) j rfl h7 x hx
            exact ⟨q1, by omega, q3⟩
        · exact absurd h h7
      · rw [cutF_bad hk he] at h
        exact absurd h he
    · rw [cutF_end (by omega)] at hx
      cases hx
theorem cutF_one {b : List Int} (hb : Bytes b) (h0 : 0 < b.length) (h : (cutF b 0).2.2 = 0) : 0 < (cutF b 0).1.length := by
  by_cases he : (opsDec b (0 : Nat)).2.2 = 0
  · obtain ⟨j, hj, hj1, hj2⟩ := dec_next hb he
    have hd : opsDec b (0 : Nat) = ((opsDec b (0 : Nat)).1, (j : Int), 0) := Prod.ext rfl (Prod.ext hj he)
    rw [cutF_step hb h0 hd] at h ⊢
    split at h <;> rename_i h7
    · rw [if_pos h7]
      simp
    · exact absurd h h7
  · rw [cutF_bad h0 he] at h
    exact absurd h he
theorem cutF_len {b : List Int} (hb : Bytes b) : ∀ (n k : Nat), b.length - k = n → (cutF b k).1.length ≤ n := by
  intro n
  induction n using Nat.strongRecOn with
  | ind n ih =>
    intro k hn
    by_cases hk : k < b.length
    · by_cases he : (opsDec b k).2.2 = 0
      · obtain ⟨j, hj, hj1, hj2⟩ := dec_next hb he
        have hd : opsDec b k = ((opsDec b k).1, (j : Int), 0) := Prod.ext rfl (Prod.ext hj he)
        have := ih (b.length - j) (by omega) j rfl
        rw [cutF_step hb hk hd]
        split
        · simp; omega
        · omega
      · rw [cutF_bad hk he]; simp
    · rw [cutF_end (by omega)]; simp
theorem cutZ_parts {b : List Int} (h : (cutZ b).2.2 = 0) : b.length ≤ 8192 ∧ 0 < b.length ∧ cutF b 0 = cutZ b ∧ (∀ x ∈ (cutZ b).1, good (cutZ b).1 x = true) ∧ endsZ ((cutZ b).1.getD ((cutZ b).1.length - 1) i0).o = true := by
  unfold cutZ at h ⊢
  split at h <;> rename_i h1
  · cases h
  · rw [if_neg h1]
    split at h <;> rename_i h2
    · cases h
    · rw [if_neg h2]
      unfold cutL at h ⊢
      split at h <;> rename_i h3
      · rw [if_pos h3]
        split at h <;> rename_i h4
        · cases h
        · rw [if_neg h4]
          split at h <;> rename_i h5
          · rw [if_pos h5]
            refine ⟨by omega, by omega, Prod.ext rfl (Prod.ext (cuts_zero h3) h3), firstNot_all (by simpa using h4), h5⟩
          · cases h
      · exact absurd h h3
theorem cutZ_none {b : List Int} (h : (cutZ b).2.2 ≠ 0) : (cutZ b).1 = [] := by
  unfold cutZ at h ⊢
  split at h <;> rename_i h1
  · rw [if_pos h1]
  · rw [if_neg h1]
    split at h <;> rename_i h2
    · rw [if_pos h2]
    · rw [if_neg h2]
      unfold cutL at h ⊢
      split at h <;> rename_i h3
      · rw [if_pos h3]
        split at h <;> rename_i h4
        · rw [if_pos h4]
        · rw [if_neg h4]
          split at h <;> rename_i h5
          · exact absurd rfl h
          · rw [if_neg h5]
      · rw [if_neg h3]
theorem cutZ_all {b : List Int} (hb : Bytes b) : ∀ x ∈ (cutZ b).1, mayI x = true ∧ 0 ≤ x.a ∧ x.a < b.length := by
  intro x hx
  by_cases h : (cutZ b).2.2 = 0
  · obtain ⟨_, _, h3, _⟩ := cutZ_parts h
    rw [← h3] at h hx
    have := cutF_all hb _ 0 rfl h x hx
    exact ⟨this.1, by omega, this.2.2⟩
  · rw [cutZ_none h] at hx
    cases hx
theorem cutZ_len {b : List Int} (hb : Bytes b) : (cutZ b).1.length ≤ 8192 := by
  by_cases h : (cutZ b).2.2 = 0
  · obtain ⟨h1, _, h3, _⟩ := cutZ_parts h
    rw [← h3]
    have := cutF_len hb _ 0 rfl
    omega
  · rw [cutZ_none h]; simp
theorem hasAt_iff {l : List In} {t : Int} : hasAt l t = true ↔ ∃ x ∈ l, x.a = t := by simp [hasAt]
end Go.Proofs.YtokmeomjdpfknaaGreatDoor
namespace Go.Proofs.YtokmeomjdpfknaaGreatDoor
open Go.RowKit
set_option linter.unusedVariables false

structure Shp (α : Type) where
  T : TypeId
  n : Nat
  vals : α → Array Value
  zero : α
  nest : World → α → Prop
  nestO : Nat → World → α → Prop
  pos : 0 < n
  size : ∀ x, (vals x).size = n
  one : ∀ {w x}, nest w x → ∀ u ∈ (vals x).toList, u.oneCell' = true
  ext : ∀ {w w' x}, nest w x → Ext w w' → nest w' x
  extO : ∀ {B w w' x}, nestO B w x → Ext w w' → nestO B w' x
  low : ∀ {B w x}, nestO B w x → nest w x
  kept : ∀ {B w w' x row}, nestO B w x → w.grownBy w' row → (∀ g, row = some g → ∃ c z, w.heap[g]? = some (.cells c T z)) → nestO B w' x

section
variable {α : Type} (S : Shp α)
def Shp.el (l : List α) (j : Nat) : α := l.getD j S.zero
def Shp.At (w : World) (b o : Nat) (x : α) : Prop := ∀ i, i < S.n → w.cell? ⟨b, o + i, none⟩ = (S.vals x)[i]?
def Shp.Row (w : World) (v : Value) (l : List α) : Prop :=
  ∃ (A : Option Addr) (c : Nat), v = .slice A l.length c ∧ l.length ≤ c ∧ c ≤ maxLen ∧ (A = none → c = 0) ∧
    (0 < l.length → ∃ b o, A = some ⟨b, o, none⟩ ∧ b < w.heap.size ∧ ∀ j, j < l.length → S.At w b (o + j * S.n) (S.el l j)) ∧ ∀ x ∈ l, S.nest w x
def Shp.Own (B : Nat) (w : World) (v : Value) (l : List α) : Prop := w.ownsRow B S.T S.n v l.length (l.flatMap fun x => (S.vals x).toList) ∧ ∀ x ∈ l, S.nestO B w x
end
section
variable {α : Type} {S : Shp α} {w w' : World} {B : Nat} {v : Value} {l : List α}
theorem Shp.At.ext {b o : Nat} {x : α} (h : S.At w b o x) (he : Ext w w') (hb : b < w.heap.size) : S.At w' b o x := fun i hi => (he.cell (p := ⟨b, o + i, none⟩) hb).trans (h i hi)
theorem Shp.Row.ext (h : S.Row w v l) (he : Ext w w') : S.Row w' v l := by
  obtain ⟨A, c, h1, h2, h3, h4, h6, h7⟩ := h
  refine ⟨A, c, h1, h2, h3, h4, fun hl => ?_, fun e hm => S.ext (h7 e hm) he⟩
  obtain ⟨b, o, ha, hb, hc⟩ := h6 hl
  exact ⟨b, o, ha, Nat.lt_of_lt_of_le hb he.size, fun j hj => (hc j hj).ext he hb⟩
theorem Shp.Row.nil (S : Shp α) (w : World) : S.Row w (.slice none 0 0) [] := ⟨none, 0, rfl, Nat.le_refl _, by simp [maxLen], fun _ => rfl, fun h => by simp at h, fun _ h => by cases h⟩
theorem Shp.el_mem {j : Nat} (h : j < l.length) : S.el l j ∈ l := by
  unfold Shp.el
  rw [List.getD_eq_getElem?_getD, List.getElem?_eq_getElem h]
  exact List.getElem_mem h
theorem Shp.el_get {j : Nat} (h : j < l.length) : S.el l j = l[j] := by
  unfold Shp.el
  rw [List.getD_eq_getElem?_getD, List.getElem?_eq_getElem h]
  rfl
theorem Shp.el_of_mem {x : α} (h : x ∈ l) : ∃ i, i < l.length ∧ S.el l i = x := by
  obtain ⟨i, hi, he⟩ := List.mem_iff_getElem.1 h
  exact ⟨i, hi, by rw [S.el_get hi, he]⟩
theorem Shp.Row.cut (h : S.Row w v l) : ∃ A c, v = .slice A l.length c ∧ l.length ≤ c ∧ c ≤ maxLen ∧ (A = none → c = 0) := by
  obtain ⟨A, c, h1, h2, h3, h4, -⟩ := h
  exact ⟨A, c, h1, h2, h3, h4⟩
theorem Shp.Row.at {A : Option Addr} {n c : Nat} (h : S.Row w (.slice A n c) l) (hl : 0 < l.length) :
    ∃ b o, A = some ⟨b, o, none⟩ ∧ ∀ W, Ext w W → ∀ j, j < l.length → S.At W b (o + j * S.n) (S.el l j) ∧ S.nest W (S.el l j) := by
  obtain ⟨A', c', h1, h2, h3, h4, h6, h7⟩ := h
  obtain ⟨b, o, rfl, hb, hc⟩ := h6 hl
  injection h1 with e1 e2 e3
  subst e1 e2 e3
  exact ⟨b, o, rfl, fun W e j hj => ⟨(hc j hj).ext e hb, S.ext (h7 _ (S.el_mem hj)) e⟩⟩
theorem Shp.Row.low (h : S.Row w v l) : ∀ x ∈ l, S.nest w x := by
  obtain ⟨A, c, h1, h2, h3, h4, h6, h7⟩ := h
  exact h7
theorem Shp.flat_len (l : List α) : (l.flatMap fun x => (S.vals x).toList).length = l.length * S.n := by
  induction l with
  | nil => simp
  | cons x l ih => rw [List.flatMap_cons, List.length_append, ih, Array.length_toList, S.size, List.length_cons, Nat.add_mul]; omega
theorem Shp.flat_at : ∀ (l : List α) (j i : Nat), j < l.length → i < S.n → (l.flatMap fun x => (S.vals x).toList)[j * S.n + i]? = (S.vals (S.el l j))[i]? := by
  intro l
  induction l with
  | nil => intro j i h; simp at h
  | cons x l ih =>
    intro j i hj hi
    rw [List.flatMap_cons]
    match j with
    | 0 =>
      rw [List.getElem?_append_left (by rw [Array.length_toList, S.size]; omega)]
      simp [Shp.el]
    | j + 1 =>
      have e : (j + 1) * S.n + i = S.n + (j * S.n + i) := by rw [Nat.add_mul]; omega
      rw [List.getElem?_append_right (by rw [Array.length_toList, S.size]; omega), Array.length_toList, S.size, show (j + 1) * S.n + i - S.n = j * S.n + i by omega, ih j i (by simpa using hj) hi]
      simp [Shp.el]
theorem Shp.Own.row (h : S.Own B w v l) : S.Row w v l := by
  obtain ⟨⟨h1, h2⟩, hf⟩ := h
  have hf' : ∀ e ∈ l, S.nest w e := fun e he => S.low (hf e he)
  rcases h2 with ⟨rfl, h0⟩ | ⟨g, cap, cur, rfl, hb, hg, hn, hm, hs, ht⟩
  · exact ⟨none, 0, by rw [h0], by omega, by simp [maxLen], fun _ => rfl, fun hp => by omega, hf'⟩
  · refine ⟨_, _, rfl, hn, hm, (fun h => by cases h), fun _ => ⟨g, 0, rfl, lt_of_get hg, fun j hj i hi => ?_⟩, hf'⟩
    have hlt : j * S.n + i < l.length * S.n := by
      have := Nat.mul_le_mul_right S.n (show j + 1 ≤ l.length from hj)
      rw [Nat.add_mul] at this
      omega
    have e1 := S.flat_at l j i hj hi
    rw [← ht, List.getElem?_take_of_lt hlt] at e1
    rw [cell_of_row w g _ cur S.T (0, 0) hg, ← e1]
    simp
theorem Shp.Own.nil (S : Shp α) (B : Nat) (w : World) : S.Own B w (.slice none 0 0) [] := ⟨World.ownsRow_nil w B S.T S.n, fun _ h => by cases h⟩
theorem Shp.Own.ext (h : S.Own B w v l) (he : Ext w w') : S.Own B w' v l := by
  obtain ⟨⟨h1, h2⟩, hf⟩ := h
  refine ⟨⟨h1, ?_⟩, fun e hm => S.extO (hf e hm) he⟩
  rcases h2 with h2 | ⟨g, cap, cur, hv, hb, hg, hr⟩
  · exact .inl h2
  · exact .inr ⟨g, cap, cur, hv, hb, (he.block g (lt_of_get hg)).trans hg, hr⟩
theorem Shp.Own.low (h : S.Own B w v l) : ∀ g, v.ownBlock = some g → B ≤ g := fun g hg => (World.ownsRow.lt h.1 g hg).1
theorem Shp.Own.slice (h : S.Own B w v l) : ∃ A c, v = .slice A l.length c ∧ l.length ≤ c ∧ c ≤ maxLen := by
  obtain ⟨A, c, h1, h2, h3, -⟩ := h.row.cut
  exact ⟨A, c, h1, h2, h3⟩
theorem Shp.Own.typed (h : S.Own B w v l) : ∀ g, v.ownBlock = some g → ∃ c z, w.heap[g]? = some (.cells c S.T z) := by
  intro g hg
  rcases h.1.2 with ⟨rfl, _⟩ | ⟨g', cap, cur, rfl, _, hg', _⟩
  · cases hg
  · injection hg with hg
    subst hg
    exact ⟨_, _, hg'⟩
theorem Shp.Own.ne (h : S.Own B w v l) {g : Nat} {c : Array Value} {T : TypeId} {z : Nat × Nat} (hg : w.heap[g]? = some (.cells c T z)) (hT : T ≠ S.T) : v.ownBlock ≠ some g := by
  intro e
  obtain ⟨c', z', h'⟩ := h.typed g e
  rw [hg] at h'
  injection h' with h'
  injection h' with h1 h2 h3
  exact hT h2
theorem Shp.Own.kept (h : S.Own B w v l) {row : Option Nat} (hg : w.grownBy w' row) (hne : ∀ g, v.ownBlock = some g → row ≠ some g) (hf : ∀ x ∈ l, S.nestO B w x → S.nestO B w' x) : S.Own B w' v l := by
  obtain ⟨⟨h1, h2⟩, h3⟩ := h
  refine ⟨⟨h1, ?_⟩, fun e he => hf e he (h3 e he)⟩
  rcases h2 with h2 | ⟨g, cap, cur, hv, hb, hg', hr'⟩
  · exact .inl h2
  · refine .inr ⟨g, cap, cur, hv, hb, (hg.block g (lt_of_get hg') ?_).trans hg', hr'⟩
    exact fun e => hne g (by rw [hv]; rfl) e.symm
theorem Shp.flat_one (h : ∀ x ∈ l, S.nest w x) : ∀ u ∈ (l.flatMap fun x => (S.vals x).toList), u.oneCell' = true := by
  intro u hu
  obtain ⟨x, hm, hx⟩ := List.mem_flatMap.1 hu
  exact S.one (h x hm) u hx
theorem Shp.Row.single {g : Nat} {T : TypeId} {x : α} (h : w.heap[g]? = some (.cells (S.vals x) T (0, 0))) (hx : S.nest w x) : S.Row w (.slice (some ⟨g, 0, none⟩) 1 1) [x] := by
  refine ⟨_, _, rfl, Nat.le_refl _, by simp [maxLen], (fun h => by cases h), fun _ => ⟨g, 0, rfl, lt_of_get h, fun j hj i hi => ?_⟩, fun e he => by rw [List.mem_singleton.1 he]; exact hx⟩
  have : j = 0 := by simp at hj; omega
  subst this
  rw [cell_of_row w g _ _ T (0, 0) h]
  simp [Shp.el]
theorem Shp.run_app {P : Program} (w : World) (B : Nat) (t ty : TypeId) (z : Value) (bytes : Nat) (ht : P.underlying t = some (.slice S.T))
    (hi : (P.info? S.T).map (fun i => (i.zero, i.size, i.bytes)) = some (some z, S.n, bytes)) (hz : z.cells.size = S.n)
    (v : Value) (l : List α) (ho : S.Own B w v l) (x : Value) (m : List α) (hr : S.Row w x m) (hmo : ∀ e ∈ m, S.nestO B w e)
    (hb : (l.length + m.length) * bytes ≤ 140737488355328) (hb1 : 1 ≤ bytes) (hB : B ≤ w.heap.size) :
    ∃ v' w', (Builtin.append_ #[t, t] ty #[v, x]).run P w = .ok v' w' ∧ S.Own B w' v' (l ++ m) ∧ w.grownBy w' v.ownBlock ∧ (v'.ownBlock = v.ownBlock ∨ v'.ownBlock = some w.heap.size) := by
  obtain ⟨i, hi1, hi2, hi3, hi4⟩ := info_parts hi
  obtain ⟨A, c, rfl, h2, h3, h4, h6, h7⟩ := hr
  have hlen : l.length + m.length ≤ 140737488355328 := Nat.le_trans (Nat.le_mul_of_pos_right _ (by omega)) hb
  rcases A with _ | ad
  · have hc := h4 rfl
    have hm : m = [] := List.eq_nil_of_length_eq_zero (by omega)
    subst hm
    refine ⟨v, w, ?_, by simpa using ho, World.grownBy.refl w _, .inl rfl⟩
    rcases ho.1.2 with ⟨rfl, _⟩ | ⟨g, cap, cur, rfl, _, _, hnc, _⟩
    · simp [Builtin.append_, run_underlying ht, sizeOf, typeInfo, hi1, Builtin.lenOf, Builtin.firstCells]
    · simp [Builtin.append_, run_underlying ht, sizeOf, typeInfo, hi1, Builtin.lenOf, Builtin.firstCells, hnc, storeCells]
  · have hcells : ∀ j u, (m.flatMap fun x => (S.vals x).toList)[j]? = some u → w.cell? (ad.add j) = some u := by
      intro j u hu
      have hj : j < m.length * S.n := by
        have := (List.getElem?_eq_some_iff.1 hu).1
        rwa [S.flat_len] at this
      have hp := S.pos
      have hm0 : 0 < m.length := by
        rcases Nat.eq_zero_or_pos m.length with h | h
        · rw [h] at hj; omega
        · exact h
      obtain ⟨b, o, hA, _, hc⟩ := h6 hm0
      injection hA with hA
      subst hA
      have hq : j / S.n < m.length := by rw [Nat.div_lt_iff_lt_mul hp]; exact hj
      have hr := Nat.mod_lt j hp
      have he : j = j / S.n * S.n + j % S.n := by have := Nat.div_add_mod j S.n; rw [Nat.mul_comm] at this; omega
      rw [he, S.flat_at m _ _ hq hr] at hu
      have := hc _ hq _ hr
      rw [Addr.add_lit, ← hu, ← this]
      congr 2
      omega
    obtain ⟨v', w', hrun, k2, k3, _, k5⟩ := run_append_own_at (P := P) w B t ty S.T i z S.n bytes ht hi1 hi2 hi3 hi4 hz S.pos v l.length (l.flatMap fun x => (S.vals x).toList) ho.1 ad m.length c (m.flatMap fun x => (S.vals x).toList) (S.flat_len m) hcells (S.flat_one h7) (by simp only [maxLen]; omega) hb hB
    refine ⟨v', w', hrun, ⟨?_, fun e he => ?_⟩, k3, k5⟩
    · rw [List.flatMap_append, List.length_append]
      exact k2
    · exact S.kept ((List.mem_append.1 he).elim (ho.2 e) (hmo e)) k3 ho.typed
theorem Shp.wpList_app {P : Program} (S : Shp α) (w : World) {ops : Array Oper} {rest : List Oper} {o : Oper} {a : Act} {Q : Exit → Act → World → Prop} (hgd : Region.wanted o (yielded ops a.tmps) = true) (s y : Operand) (B : Nat) (t : TypeId) (z : Value) (bytes : Nat)
    (hop : o.op = .call { callee := .builtin .append, args := #[s, y], argTypes := #[t, t] }) (ht : P.underlying t = some (.slice S.T))
    (hi : (P.info? S.T).map (fun i => (i.zero, i.size, i.bytes)) = some (some z, S.n, bytes)) (hz : z.cells.size = S.n) (hb1 : 1 ≤ bytes)
    (v : Value) (l : List α) (hs : a.eval s = v) (ho : S.Own B w v l) (x : Value) (m : List α) (hx : a.eval y = x) (hr : S.Row w x m) (hmo : ∀ e ∈ m, S.nestO B w e)
    (hb : (l.length + m.length) * bytes ≤ 140737488355328) (hB : B ≤ w.heap.size)
    (h : ∀ v' w', S.Own B w' v' (l ++ m) → w.grownBy w' v.ownBlock → (v'.ownBlock = v.ownBlock ∨ v'.ownBlock = some w.heap.size) → wpList P ops Q rest (a.put o.dst v') w') :
    wpList P ops Q (o :: rest) a w := by
  refine wpList_step fun K hK => ?_
  rw [if_pos hgd]
  obtain ⟨v', w', hrun, h2, h3, h4⟩ := S.run_app (P := P) w B t o.type z bytes ht hi hz v l ho x m hr hmo hb hb1 hB
  unfold Oper.wp execOp
  simp only [hop, resolve, invoke, builtin, Sem.run_bind, Sem.run_pure, Result.andThen_ok, List.map_toArray, List.map_cons, List.map_nil, hs, hx, hrun]
  exact hK _ _ (h v' w' h2 h3 h4)
end
end Go.Proofs.YtokmeomjdpfknaaGreatDoor
namespace Go.Proofs.YtokmeomjdpfknaaGreatDoor
open Go.RowKit
set_option linter.unusedVariables false

def flat {α : Type} (T : TypeId) (n : Nat) (vals : α → Array Value) (zero : α) (pos : 0 < n) (size : ∀ x, (vals x).size = n) (one : ∀ x, ∀ u ∈ (vals x).toList, u.oneCell' = true) : Shp α where
  T := T
  n := n
  vals := vals
  zero := zero
  nest := fun _ _ => True
  nestO := fun _ _ _ => True
  pos := pos
  size := size
  one := fun {w x} _ u hu => one x u hu
  ext := fun _ _ => trivial
  extO := fun _ _ => trivial
  low := fun _ => trivial
  kept := fun _ _ _ => trivial
structure Hd where
  f : Int
  t : Int
  a : Int
  c : Int
deriving DecidableEq
structure Ty where
  k : Int
  s : ByteArray
deriving DecidableEq
def h0 : Hd := ⟨0, 0, 0, 0⟩
def t0 : Ty := ⟨0, ⟨#[]⟩⟩
def Hd.vals (x : Hd) : Array Value := #[.int .i64 x.f, .int .i64 x.t, .int .i64 x.a, .int .i64 x.c]
def Ty.vals (x : Ty) : Array Value := #[.int .i64 x.k, .string x.s]
def ShC : Shp Cst := flat 49 6 Cst.vals c0 (by decide) (fun _ => rfl) (fun x u hu => by
  have h : u = .int .i64 x.k ∨ u = .string x.t ∨ u = .int .i64 x.n ∨ u = .int .i64 x.a ∨ u = .int .i64 x.b ∨ u = .int .i64 x.c := by simpa [Cst.vals] using hu
  rcases h with rfl | rfl | rfl | rfl | rfl | rfl <;> rfl)
def ShH : Shp Hd := flat 58 4 Hd.vals h0 (by decide) (fun _ => rfl) (fun x u hu => by
  have h : u = .int .i64 x.f ∨ u = .int .i64 x.t ∨ u = .int .i64 x.a ∨ u = .int .i64 x.c := by simpa [Hd.vals] using hu
  rcases h with rfl | rfl | rfl | rfl <;> rfl)
def ShT : Shp Ty := flat 41 2 Ty.vals t0 (by decide) (fun _ => rfl) (fun x u hu => by
  have h : u = .int .i64 x.k ∨ u = .string x.s := by simpa [Ty.vals] using hu
  rcases h with rfl | rfl <;> rfl)
def gh (l : List Hd) (j : Nat) : Hd := l.getD j h0
def gt (l : List Ty) (j : Nat) : Ty := l.getD j t0
def AtC (w : World) (b o : Nat) (x : Cst) : Prop :=
  w.cell? ⟨b, o, none⟩ = some (.int .i64 x.k) ∧ w.cell? ⟨b, o + 1, none⟩ = some (.string x.t) ∧ w.cell? ⟨b, o + 2, none⟩ = some (.int .i64 x.n) ∧
  w.cell? ⟨b, o + 3, none⟩ = some (.int .i64 x.a) ∧ w.cell? ⟨b, o + 4, none⟩ = some (.int .i64 x.b) ∧ w.cell? ⟨b, o + 5, none⟩ = some (.int .i64 x.c)
def AtH (w : World) (b o : Nat) (x : Hd) : Prop :=
  w.cell? ⟨b, o, none⟩ = some (.int .i64 x.f) ∧ w.cell? ⟨b, o + 1, none⟩ = some (.int .i64 x.t) ∧ w.cell? ⟨b, o + 2, none⟩ = some (.int .i64 x.a) ∧ w.cell? ⟨b, o + 3, none⟩ = some (.int .i64 x.c)
theorem AtC.of {w : World} {b o : Nat} {x : Cst} (h : ShC.At w b o x) : AtC w b o x :=
  ⟨h 0 (by decide), h 1 (by decide), h 2 (by decide), h 3 (by decide), h 4 (by decide), h 5 (by decide)⟩
theorem AtH.of {w : World} {b o : Nat} {x : Hd} (h : ShH.At w b o x) : AtH w b o x := ⟨h 0 (by decide), h 1 (by decide), h 2 (by decide), h 3 (by decide)⟩
section
variable {w : World} {A : Option Addr} {n c : Nat}
theorem rowC_at {l : List Cst} (h : ShC.Row w (.slice A n c) l) (hl : 0 < l.length) : ∃ b o, A = some ⟨b, o, none⟩ ∧ ∀ W, Ext w W → ∀ j, j < l.length → AtC W b (o + j * 6) (gc l j) := by
  obtain ⟨b, o, ha, h⟩ := h.at hl
  exact ⟨b, o, ha, fun W e j hj => AtC.of (h W e j hj).1⟩
theorem rowH_at {l : List Hd} (h : ShH.Row w (.slice A n c) l) (hl : 0 < l.length) : ∃ b o, A = some ⟨b, o, none⟩ ∧ ∀ W, Ext w W → ∀ j, j < l.length → AtH W b (o + j * 4) (gh l j) := by
  obtain ⟨b, o, ha, h⟩ := h.at hl
  exact ⟨b, o, ha, fun W e j hj => AtH.of (h W e j hj).1⟩
end
structure Me where
  st : Bool
  ab : Bool
  nm : ByteArray
  ret : Ty
  args : List Ty
  sk : Int
  lo : Int
  code : List Int
  hs : List Hd
deriving DecidableEq
def Me.vals (m : Me) (va vc vh : Value) : Array Value := #[.bool m.st, .bool m.ab, .string m.nm, .int .i64 m.ret.k, .string m.ret.s, va, .int .i64 m.sk, .int .i64 m.lo, vc, vh]
def MeAt (w : World) (m : Me) (va vc vh : Value) : Prop := ShT.Row w va m.args ∧ Row w .u8 vc m.code ∧ ShH.Row w vh m.hs
theorem MeAt.ext {w w' : World} {m : Me} {va vc vh : Value} (h : MeAt w m va vc vh) (e : Ext w w') : MeAt w' m va vc vh := ⟨h.1.ext e, h.2.1.ext e, h.2.2.ext e⟩
def MeB (w : World) (g : Nat) (m : Me) (va vc vh : Value) : Prop := w.heap[g]? = some (.cells (m.vals va vc vh) 47 (0, 0))
theorem MeB.ext {w w' : World} {g : Nat} {m : Me} {va vc vh : Value} (h : MeB w g m va vc vh) (e : Ext w w') : MeB w' g m va vc vh := (e.block g (lt_of_get h)).trans h
theorem MeB.cells {w : World} {g : Nat} {m : Me} {va vc vh : Value} (h : MeB w g m va vc vh) :
    w.cell? ⟨g, 0, none⟩ = some (.bool m.st) ∧ w.cell? ⟨g, 1, none⟩ = some (.bool m.ab) ∧ w.cell? ⟨g, 2, none⟩ = some (.string m.nm) ∧ w.cell? ⟨g, 3, none⟩ = some (.int .i64 m.ret.k) ∧ w.cell? ⟨g, 4, none⟩ = some (.string m.ret.s) ∧
    w.cell? ⟨g, 5, none⟩ = some va ∧ w.cell? ⟨g, 6, none⟩ = some (.int .i64 m.sk) ∧ w.cell? ⟨g, 7, none⟩ = some (.int .i64 m.lo) ∧ w.cell? ⟨g, 8, none⟩ = some vc ∧ w.cell? ⟨g, 9, none⟩ = some vh := by
  have e : ∀ i, w.cell? ⟨g, i, none⟩ = (m.vals va vc vh)[i]? := fun i => by rw [cell_of_row w g i _ _ (0, 0) h]
  exact ⟨e 0, e 1, e 2, e 3, e 4, e 5, e 6, e 7, e 8, e 9⟩
theorem MeB.free {w : World} {g : Nat} {m : Me} {va vc vh : Value} (h : MeB w g m va vc vh) (j : Nat) : w.frozen? ⟨g, j, none⟩ = false := by simp [World.frozen?, show w.heap[g]? = _ from h]
theorem MeB.lt {w : World} {g : Nat} {m : Me} {va vc vh : Value} (h : MeB w g m va vc vh) : g < w.heap.size := lt_of_get h
theorem MeB.new (w : World) (m : Me) (va vc vh : Value) : MeB (w.alloc (.cells (m.vals va vc vh) 47)) w.heap.size m va vc vh := heap_alloc_new w _
end Go.Proofs.YtokmeomjdpfknaaGreatDoor
namespace Go.Proofs.YtokmeomjdpfknaaGreatDoor
set_option linter.unusedVariables false

def isKZ (pool : List Cst) (n a b : Int) : Bool := decide (0 < n) && (decide (n < pool.length) && (decide ((gc pool n.toNat).k = a) || decide ((gc pool n.toNat).k = b)))
def fitZ (lo : Int) (pool : List Cst) (x : In) : Bool :=
  if x.o = 6 ∨ x.o = 9 then decide (x.n + 1 < lo) else if 5 ≤ x.o ∧ x.o ≤ 11 then decide (x.n < lo) else if x.o = 3 then isKZ pool x.n 2 3
  else if 61 ≤ x.o ∧ x.o ≤ 64 then isKZ pool x.n 5 5 else if x.o = 65 ∨ x.o = 68 ∨ x.o = 76 ∨ x.o = 77 then isKZ pool x.n 4 4
  else if 79 ≤ x.o ∧ x.o ≤ 82 then isKZ pool x.n 6 6 else true
def handZ (l : List In) (len : Int) (pool : List Cst) (h : Hd) : Bool := hasAt l h.f && (hasAt l h.a && (decide (h.f < h.t) && ((hasAt l h.t || decide (h.t = len)) && (decide (h.c = 0) || isKZ pool h.c 4 4))))
def handsZ (l : List In) (m : Me) (pool : List Cst) : Bool := m.hs.all (handZ l m.code.length pool) && decide (m.hs.length ≤ 256)
def roomZ (m : Me) : Bool := decide (0 ≤ m.sk ∧ m.sk ≤ 255 ∧ 0 ≤ m.lo ∧ m.lo ≤ 255)
def chkL (m : Me) (pool : List Cst) (R : List In × Int × Int) : List In × Int × Int :=
  if R.2.2 = 0 then
    if (firstNot (fitZ m.lo pool) R.1).2 = true then ([], (firstNot (fitZ m.lo pool) R.1).1, 70)
    else if roomZ m = true ∧ handsZ R.1 m pool = true then (R.1, 0, 0) else ([], 0, 70)
  else ([], R.2.1, R.2.2)
def checkZ (m : Me) (pool : List Cst) : List In × Int × Int := chkL m pool (cutZ m.code)
theorem gh_get {l : List Hd} {k : Nat} (h : k < l.length) : gh l k = l[k] := by simp [gh, h]
theorem gh_some {l : List Hd} {k : Nat} (h : k < l.length) : l[k]? = some (gh l k) := by rw [gh_get h]; simp [h]
theorem gh_mem {l : List Hd} {k : Nat} (h : k < l.length) : gh l k ∈ l := by rw [gh_get h]; exact List.getElem_mem h
end Go.Proofs.YtokmeomjdpfknaaGreatDoor
namespace Go.Proofs.YtokmeomjdpfknaaGreatDoor
open Go.RowKit
set_option linter.unusedVariables false

theorem kinds (k : Int) : k = 1 ∨ k = 2 ∨ k = 3 ∨ k = 4 ∨ k = 5 ∨ k = 6 ∨ ((k == 1) = false ∧ (k == 2) = false ∧ (k == 3) = false ∧ (k == 4) = false ∧ (k == 5) = false ∧ (k == 6) = false ∧ (k < 3 ∨ 6 < k)) := by
  simp
  omega
theorem bs_nil (l : List UInt8) : (bs l).toList = l := ByteArray.toList_mk l
theorem okT_odd {k : Int} {s : List UInt8} (h1 : (k == 1) = false) (h2 : (k == 2) = false) (h3 : (k == 3) = false) (h4 : (k == 4) = false) (h5 : (k == 5) = false) (h6 : (k == 6) = false) : okT ⟨k, s⟩ = false := by
  simp only [beq_eq_false_iff_ne, ne_eq] at h1 h2 h3 h4 h5 h6
  unfold okT
  rw [if_neg (by simp only; omega), if_neg (by simp only; omega)]
theorem checkT_no {t : TyD} (h : okT t = false) : checkT t = 2 := by rw [checkT, h]; rfl
theorem checkT_yes {t : TyD} (h : okT t = true) : checkT t = 0 := by rw [checkT, h]; rfl

def elemT (t : TyD) : TyD × Bool := if t.k = 4 ∨ t.k = 5 ∨ t.k = 6 then (⟨t.k - 3, t.s⟩, true) else (t0D, false)
def overT (t : TyD) : TyD × Bool := if t.k = 1 ∨ t.k = 2 ∨ t.k = 3 then (⟨t.k + 3, t.s⟩, true) else (t0D, false)
theorem elemT_1 (s : List UInt8) : elemT ⟨1, s⟩ = (t0D, false) := rfl
theorem elemT_2 (s : List UInt8) : elemT ⟨2, s⟩ = (t0D, false) := rfl
theorem elemT_3 (s : List UInt8) : elemT ⟨3, s⟩ = (t0D, false) := rfl
theorem elemT_4 (s : List UInt8) : elemT ⟨4, s⟩ = (⟨1, s⟩, true) := rfl
theorem elemT_5 (s : List UInt8) : elemT ⟨5, s⟩ = (⟨2, s⟩, true) := rfl
theorem elemT_6 (s : List UInt8) : elemT ⟨6, s⟩ = (⟨3, s⟩, true) := rfl
theorem elemT_0 {k : Int} {s : List UInt8} (h1 : (k == 1) = false) (h2 : (k == 2) = false) (h3 : (k == 3) = false) (h4 : (k == 4) = false) (h5 : (k == 5) = false) (h6 : (k == 6) = false) : elemT ⟨k, s⟩ = (t0D, false) := by
  simp only [beq_eq_false_iff_ne, ne_eq] at h1 h2 h3 h4 h5 h6
  unfold elemT
  rw [if_neg (by simp only; omega)]
theorem overT_1 (s : List UInt8) : overT ⟨1, s⟩ = (⟨4, s⟩, true) := rfl
theorem overT_2 (s : List UInt8) : overT ⟨2, s⟩ = (⟨5, s⟩, true) := rfl
theorem overT_3 (s : List UInt8) : overT ⟨3, s⟩ = (⟨6, s⟩, true) := rfl
theorem overT_4 (s : List UInt8) : overT ⟨4, s⟩ = (t0D, false) := rfl
theorem overT_5 (s : List UInt8) : overT ⟨5, s⟩ = (t0D, false) := rfl
theorem overT_6 (s : List UInt8) : overT ⟨6, s⟩ = (t0D, false) := rfl
theorem overT_0 {k : Int} {s : List UInt8} (h1 : (k == 1) = false) (h2 : (k == 2) = false) (h3 : (k == 3) = false) (h4 : (k == 4) = false) (h5 : (k == 5) = false) (h6 : (k == 6) = false) : overT ⟨k, s⟩ = (t0D, false) := by
  simp only [beq_eq_false_iff_ne, ne_eq] at h1 h2 h3 h4 h5 h6
  unfold overT
  rw [if_neg (by simp only; omega)]
end Go.Proofs.YtokmeomjdpfknaaGreatDoor
namespace Go.Proofs.YtokmeomjdpfknaaGreatDoor
open Go.RowKit
set_option linter.unusedVariables false

theorem bs_app (l m : List UInt8) : bs l ++ bs m = bs (l ++ m) := by
  apply ByteArray.ext
  simp [bs]
theorem add_bs (a b : ByteArray) (l m : List UInt8) (ha : a = bs l) (hb : b = bs m) (h : l.length + m.length ≤ 9223372036854775807) (W : World) :
    (Op.stringOp .add a b).run Tryz.prog W = .ok (.string (bs (l ++ m))) W := by
  subst ha hb
  rw [run_string_add_sum _ _ _ (by exact h), bs_app]
def AtTD (w : World) (g : Nat) (t : TyD) : Prop := w.cell? ⟨g, 0, none⟩ = some (.int .i64 t.k) ∧ w.cell? ⟨g, 1, none⟩ = some (.string (bs t.s))
theorem AtTD.of {w : World} {g : Nat} {t : TyD} {T : TypeId} (h : w.heap[g]? = some (.cells t.vals T (0, 0))) : AtTD w g t := by
  refine ⟨?_, ?_⟩
  all_goals
    rw [cell_of_row w g _ _ T (0, 0) h]
    rfl
theorem AtTD.ext {w w' : World} {g : Nat} {t : TyD} (h : AtTD w g t) (he : Ext w w') (hg : g < w.heap.size) : AtTD w' g t := by
  obtain ⟨h0, h1⟩ := h
  exact ⟨(he.cell (p := ⟨g, 0, none⟩) hg).trans h0, (he.cell (p := ⟨g, 1, none⟩) hg).trans h1⟩

theorem textT_1 (s : List UInt8) : textT ⟨1, s⟩ = [73] := rfl
theorem textT_2 (s : List UInt8) : textT ⟨2, s⟩ = [74] := rfl
theorem textT_4 (s : List UInt8) : textT ⟨4, s⟩ = [91, 73] := rfl
theorem textT_5 (s : List UInt8) : textT ⟨5, s⟩ = [91, 74] := rfl
theorem textT_3 (s : List UInt8) : textT ⟨3, s⟩ = 76 :: (s ++ [59]) := rfl
theorem textT_6 (s : List UInt8) : textT ⟨6, s⟩ = 91 :: 76 :: (s ++ [59]) := rfl
theorem textT_0 {k : Int} {s : List UInt8} (h1 : (k == 1) = false) (h2 : (k == 2) = false) (h3 : (k == 3) = false) (h4 : (k == 4) = false) (h5 : (k == 5) = false) (h6 : (k == 6) = false) : textT ⟨k, s⟩ = [86] := by
  simp only [beq_eq_false_iff_ne, ne_eq] at h1 h2 h3 h4 h5 h6
  unfold textT
  simp only
  rw [if_neg h1, if_neg h2, if_neg h3, if_neg h4, if_neg h5, if_neg h6]
end Go.Proofs.YtokmeomjdpfknaaGreatDoor
