/- Several texts of this proof, one behind the other. -/
import Derived.Test.YtkkfkjjmmdpafaaDoorYdB
import Derived.Test.YtkkfkjjmmdpafaaDoorYdA
namespace Go.Proofs.YtkkfkjjmmdpafaaDoor
set_option linter.unusedVariables false
set_option linter.unusedSectionVars false

structure Kl where
  nm : ByteArray
  sup : ByteArray
  inf : Bool
  ifs : List ByteArray
deriving DecidableEq
def findA (nm : ByteArray) : Nat → List Kl → Int
  | _, [] => -1
  | k, h :: t => if h.nm = nm then (k : Int) else findA nm (k + 1) t
def findZ (N : List Kl) (nm : ByteArray) : Int := findA nm 0 N
theorem findA_cases (nm : ByteArray) : ∀ (N : List Kl) (k : Nat), (findA nm k N = -1 ∧ ∀ h ∈ N, h.nm ≠ nm) ∨ (∃ j, j < N.length ∧ findA nm k N = ((k + j : Nat) : Int) ∧ (∃ h, N[j]? = some h ∧ h.nm = nm) ∧ ∀ i h, i < j → N[i]? = some h → h.nm ≠ nm)
  | [], k => .inl ⟨rfl, fun h hh => by cases hh⟩
  | h :: t, k => by
    unfold findA
    split
    · rename_i e
      exact .inr ⟨0, by simp, by simp, ⟨h, rfl, e⟩, fun i _ hi => by omega⟩
    · rename_i e
      rcases findA_cases nm t (k + 1) with ⟨h1, h2⟩ | ⟨j, h1, h2, ⟨h3, h4⟩, h5⟩
      · refine .inl ⟨h1, fun x hx => ?_⟩
        rcases List.mem_cons.1 hx with rfl | hx
        · exact e
        · exact h2 x hx
      · refine .inr ⟨j + 1, by simp; omega, by rw [h2]; congr 1; omega, ⟨h3, by simpa using h4⟩, fun i x hi hx => ?_⟩
        rcases i with _ | i
        · simp at hx; rw [← hx]; exact e
        · exact h5 i x (by omega) (by simpa using hx)
theorem findZ_cases (N : List Kl) (nm : ByteArray) : (findZ N nm = -1 ∧ ∀ h ∈ N, h.nm ≠ nm) ∨ (∃ j, j < N.length ∧ findZ N nm = (j : Int) ∧ (∃ h, N[j]? = some h ∧ h.nm = nm) ∧ ∀ i h, i < j → N[i]? = some h → h.nm ≠ nm) := by
  rcases findA_cases nm N 0 with h | ⟨j, h1, h2, h3⟩
  · exact .inl h
  · exact .inr ⟨j, h1, by rw [findZ, h2]; simp, h3⟩

section
inductive Rch (ups : Nat → List Nat) : Nat → Nat → Prop
  | one {i j} : j ∈ ups i → Rch ups i j
  | more {i j k} : j ∈ ups i → Rch ups j k → Rch ups i k
variable {ups : Nat → List Nat}
theorem Rch.trans {i j k : Nat} (h : Rch ups i j) (h2 : Rch ups j k) : Rch ups i k := by
  induction h with
  | one h => exact .more h h2
  | more h _ ih => exact .more h (ih h2)
theorem Rch.last {i j k : Nat} (h : Rch ups i j) (h2 : k ∈ ups j) : Rch ups i k := h.trans (.one h2)
theorem rch_closed {i : Nat} {S : Nat → Prop} (h0 : ∀ j, j ∈ ups i → S j) (hc : ∀ x, S x → ∀ j, j ∈ ups x → S j) : ∀ j, Rch ups i j → S j := by
  intro j h
  induction h with
  | one h => exact h0 _ h
  | more h _ ih => exact ih (fun j hj => hc _ (h0 _ h) j hj)
def gbl (m : List Bool) (i : Nat) : Bool := m.getD i false
theorem gb_set (m : List Bool) (i j : Nat) (hj : j < m.length) : gbl (m.set j true) i = (decide (i = j) || gbl m i) := by
  unfold gbl
  rw [List.getD_eq_getElem?_getD, List.getD_eq_getElem?_getD, List.getElem?_set]
  by_cases e : j = i
  · subst e; simp [hj]
  · have e' : ¬ i = j := fun h => e h.symm
    simp [e, e']
def markL (m : List Bool) (l : List Nat) : List Bool := l.foldl (fun m j => m.set j true) m
theorem mark_len : ∀ (l : List Nat) (m : List Bool), (markL m l).length = m.length
  | [], _ => rfl
  | j :: l, m => by unfold markL; rw [List.foldl_cons]; exact (mark_len l _).trans (by simp)
theorem mark_gb : ∀ (l : List Nat) (m : List Bool), (∀ j ∈ l, j < m.length) → ∀ i, gbl (markL m l) i = true ↔ (i ∈ l ∨ gbl m i = true)
  | [], m, _, i => by simp [markL]
  | j :: l, m, h, i => by
    have hj := h j (List.mem_cons_self ..)
    unfold markL
    rw [List.foldl_cons]
    rw [show l.foldl (fun m j => m.set j true) (m.set j true) = markL (m.set j true) l from rfl, mark_gb l _ (fun x hx => by rw [List.length_set]; exact h x (List.mem_cons_of_mem _ hx)) i, gb_set m i j hj]
    simp only [Bool.or_eq_true, decide_eq_true_eq, List.mem_cons]
    constructor
    · rintro (h | h | h)
      · exact .inl (.inr h)
      · exact .inl (.inl h)
      · exact .inr h
    · rintro ((h | h) | h)
      · exact .inr (.inl h)
      · exact .inl h
      · exact .inr (.inr h)
def roundF (ups : Nat → List Nat) (m : List Bool) (ks : List Nat) : List Bool := ks.foldl (fun m k => if gbl m k then markL m (ups k) else m) m
theorem roundF_len : ∀ (ks : List Nat) (m : List Bool), (roundF ups m ks).length = m.length
  | [], _ => rfl
  | k :: ks, m => by
    unfold roundF
    rw [List.foldl_cons]
    refine (roundF_len ks _).trans ?_
    split
    · exact mark_len _ _
    · rfl
def roundsF (ups : Nat → List Nat) (n : Nat) : Nat → List Bool → List Bool
  | 0, m => m
  | r + 1, m => roundsF ups n r (roundF ups m (List.range n))
section
variable {n : Nat} (hu : ∀ i j, j ∈ ups i → j < n)
include hu
theorem roundF_up : ∀ (ks : List Nat) (m : List Bool), m.length = n → ∀ i, gbl m i = true → gbl (roundF ups m ks) i = true
  | [], _, _, _, h => h
  | k :: ks, m, hm, i, h => by
    unfold roundF
    rw [List.foldl_cons]
    by_cases e : gbl m k = true
    · rw [if_pos e]
      exact roundF_up ks _ (by rw [mark_len]; exact hm) i ((mark_gb _ _ (fun j hj => by rw [hm]; exact hu k j hj) i).2 (.inr h))
    · rw [if_neg e]
      exact roundF_up ks _ hm i h
theorem roundF_does : ∀ (ks : List Nat) (m : List Bool), m.length = n → ∀ k, k ∈ ks → gbl m k = true → ∀ j, j ∈ ups k → gbl (roundF ups m ks) j = true
  | [], _, _, _, h, _, _, _ => by cases h
  | k0 :: ks, m, hm, k, hk, h, j, hj => by
    have hm2 : ∀ x, x ∈ ups k0 → x < m.length := fun x hx => by rw [hm]; exact hu k0 x hx
    unfold roundF
    rw [List.foldl_cons]
    rcases List.mem_cons.1 hk with rfl | hk
    · rw [if_pos h]
      exact roundF_up hu ks _ (by rw [mark_len]; exact hm) j ((mark_gb _ _ hm2 j).2 (.inl hj))
    · by_cases e : gbl m k0 = true
      · rw [if_pos e]
        exact roundF_does ks _ (by rw [mark_len]; exact hm) k hk ((mark_gb _ _ hm2 k).2 (.inr h)) j hj
      · rw [if_neg e]
        exact roundF_does ks _ hm k hk h j hj
theorem roundF_only {S : Nat → Prop} (hS : ∀ x, S x → ∀ j, j ∈ ups x → S j) : ∀ (ks : List Nat) (m : List Bool), m.length = n → (∀ i, gbl m i = true → S i) → ∀ i, gbl (roundF ups m ks) i = true → S i
  | [], _, _, h, i, hi => h i hi
  | k :: ks, m, hm, h, i, hi => by
    unfold roundF at hi
    rw [List.foldl_cons] at hi
    by_cases e : gbl m k = true
    · rw [if_pos e] at hi
      refine roundF_only hS ks _ (by rw [mark_len]; exact hm) (fun x hx => ?_) i hi
      rcases (mark_gb _ _ (fun j hj => by rw [hm]; exact hu k j hj) x).1 hx with h2 | h2
      · exact hS k (h k e) x h2
      · exact h x h2
    · rw [if_neg e] at hi
      exact roundF_only hS ks _ hm h i hi
omit hu in
theorem count_up : ∀ {m m' : List Bool}, m.length = m'.length → (∀ i, gbl m i = true → gbl m' i = true) → m.count true ≤ m'.count true ∧ (m ≠ m' → m.count true < m'.count true)
  | [], [], _, _ => by simp
  | [], _ :: _, h, _ => by simp at h
  | _ :: _, [], h, _ => by simp at h
  | a :: m, b :: m', h, hi => by
    have h1 := count_up (m := m) (m' := m') (by simpa using h) (fun i hh => by have := hi (i + 1); simpa [gbl] using this (by simpa [gbl] using hh))
    have h2 := hi 0
    simp only [gbl, List.getD_cons_zero] at h2
    rcases a with _ | _ <;> rcases b with _ | _
    · simpa using h1
    · simp; omega
    · cases h2 rfl
    · simpa using h1
omit hu in
theorem count_all {m : List Bool} (h : m.length ≤ m.count true) : ∀ i, i < m.length → gbl m i = true := by
  intro i hi
  have h2 : m.count true = m.length := Nat.le_antisymm List.count_le_length h
  have h3 : ∀ b ∈ m, true = b := List.count_eq_length.1 h2
  unfold gbl
  rw [List.getD_eq_getElem?_getD, List.getElem?_eq_getElem hi]
  exact (h3 _ (List.getElem_mem hi)).symm
def Clo (ups : Nat → List Nat) (m : List Bool) : Prop := ∀ k, gbl m k = true → ∀ j, j ∈ ups k → gbl m j = true
omit hu in
theorem gb_lt {m : List Bool} {k : Nat} (h : gbl m k = true) : k < m.length := by
  rcases Nat.lt_or_ge k m.length with h1 | h1
  · exact h1
  · unfold gbl at h; rw [List.getD_eq_getElem?_getD, List.getElem?_eq_none h1] at h; cases h
theorem rounds_clo : ∀ (r : Nat) (m : List Bool), m.length = n → (Clo ups m ∨ n ≤ m.count true + r) → Clo ups (roundsF ups n r m) ∧ (roundsF ups n r m).length = n ∧ ∀ i, gbl m i = true → gbl (roundsF ups n r m) i = true
  | 0, m, hm, h => by
    refine ⟨?_, hm, fun _ h => h⟩
    rcases h with h | h
    · exact h
    · intro k hk j hj
      show gbl m j = true
      exact count_all (by omega) j (by rw [hm]; exact hu k j hj)
  | r + 1, m, hm, h => by
    have hl : (roundF ups m (List.range n)).length = n := (roundF_len _ _).trans hm
    have hup := roundF_up hu (List.range n) m hm
    have hc := count_up (hm.trans hl.symm) hup
    have h2 : Clo ups (roundF ups m (List.range n)) ∨ n ≤ (roundF ups m (List.range n)).count true + r := by
      by_cases e : m = roundF ups m (List.range n)
      · left
        intro k hk j hj
        rw [← e] at hk
        exact roundF_does hu _ m hm k (List.mem_range.2 (by rw [← hm]; exact gb_lt hk)) hk j hj
      · have := hc.2 e
        rcases h with h | h
        · exfalso
          apply e
          have hs : ∀ i, gbl (roundF ups m (List.range n)) i = true → gbl m i = true := roundF_only hu (S := fun i => gbl m i = true) h _ m hm (fun _ h => h)
          have := count_up (hl.trans hm.symm) hs
          omega
        · right; omega
    obtain ⟨q1, q2, q3⟩ := rounds_clo r _ hl h2
    exact ⟨q1, q2, fun i hi => q3 i (hup i hi)⟩
theorem rounds_only {S : Nat → Prop} (hS : ∀ x, S x → ∀ j, j ∈ ups x → S j) : ∀ (r : Nat) (m : List Bool), m.length = n → (∀ i, gbl m i = true → S i) → ∀ i, gbl (roundsF ups n r m) i = true → S i
  | 0, _, _, h, i, hi => h i hi
  | r + 1, m, hm, h, i, hi => rounds_only hS r _ ((roundF_len _ _).trans hm) (roundF_only hu hS _ m hm h) i hi
def ringF (ups : Nat → List Nat) (n i : Nat) : Bool := gbl (roundsF ups n n (markL (List.replicate n false) (ups i))) i
theorem ring_iff (i : Nat) : ringF ups n i = true ↔ Rch ups i i := by
  unfold ringF
  have h0 : ∀ x, gbl (List.replicate n false) x = false := fun x => by
    unfold gbl
    rw [List.getD_eq_getElem?_getD, List.getElem?_replicate]
    split <;> rfl
  have hl : (markL (List.replicate n false) (ups i)).length = n := by rw [mark_len]; simp
  have hm : ∀ x, gbl (markL (List.replicate n false) (ups i)) x = true ↔ x ∈ ups i := fun x => by
    rw [mark_gb _ _ (fun j hj => by simp; exact hu i j hj) x, h0]
    simp
  constructor
  · intro h
    exact rounds_only hu (S := fun x => Rch ups i x) (fun x hx j hj => hx.last hj) n _ hl (fun x hx => .one ((hm x).1 hx)) i h
  · intro h
    obtain ⟨q1, q2, q3⟩ := rounds_clo hu n _ hl (.inr (by omega))
    exact rch_closed (S := fun x => gbl (roundsF ups n n (markL (List.replicate n false) (ups i))) x = true) (fun j hj => q3 j ((hm j).2 hj)) q1 i h
end
structure Vis (ups : Nat → List Nat) (m m' : List Bool) (is : List Nat) : Prop where
  len : m'.length = m.length
  up : ∀ x, gbl m x = true → gbl m' x = true
  has : ∀ u ∈ is, gbl m' u = true
  only : ∀ x, gbl m' x = true → gbl m x = true ∨ x ∈ is ∨ ∃ i ∈ is, Rch ups i x
  clo : ∀ x, gbl m' x = true → gbl m x = false → ∀ u ∈ ups x, gbl m' u = true
theorem Vis.nil (m : List Bool) : Vis ups m m [] := ⟨rfl, fun _ h => h, fun u hu => (by cases hu), fun _ h => .inl h, fun x h h2 => by rw [h] at h2; cases h2⟩
theorem Vis.seen {m : List Bool} {u : Nat} (h : gbl m u = true) : Vis ups m m [u] := ⟨rfl, fun _ h => h, fun v hv => by rw [List.mem_singleton.1 hv]; exact h, fun _ h => .inl h, fun x h h2 => by rw [h] at h2; cases h2⟩
theorem Vis.trans {m m1 m2 : List Bool} {is js : List Nat} (h : Vis ups m m1 is) (h2 : Vis ups m1 m2 js) : Vis ups m m2 (is ++ js) := by
  refine ⟨h2.len.trans h.len, fun x hx => h2.up x (h.up x hx), fun u hu => ?_, fun x hx => ?_, fun x hx hn u hu => ?_⟩
  · rcases List.mem_append.1 hu with hu | hu
    · exact h2.up u (h.has u hu)
    · exact h2.has u hu
  · rcases h2.only x hx with h3 | h3 | ⟨i, h3, h4⟩
    · rcases h.only x h3 with h5 | h5 | ⟨i, h5, h6⟩
      · exact .inl h5
      · exact .inr (.inl (List.mem_append.2 (.inl h5)))
      · exact .inr (.inr ⟨i, List.mem_append.2 (.inl h5), h6⟩)
    · exact .inr (.inl (List.mem_append.2 (.inr h3)))
    · exact .inr (.inr ⟨i, List.mem_append.2 (.inr h3), h4⟩)
  · cases e : gbl m1 x
    · exact h2.clo x hx e u hu
    · exact h2.up u (h.clo x e hn u hu)
theorem Vis.one {m m2 : List Bool} {u : Nat} (hu : u < m.length) (h : Vis ups (m.set u true) m2 (ups u)) : Vis ups m m2 [u] := by
  refine ⟨h.len.trans (by simp), fun x hx => h.up x (by rw [gb_set _ _ _ hu, hx]; simp), fun v hv => by rw [List.mem_singleton.1 hv]; exact h.up u (by rw [gb_set _ _ _ hu]; simp), fun x hx => ?_, fun x hx hn v hv => ?_⟩
  · rcases h.only x hx with h3 | h3 | ⟨i, h3, h4⟩
    · rw [gb_set _ _ _ hu] at h3
      by_cases e : x = u
      · exact .inr (.inl (by simp [e]))
      · exact .inl (by simpa [e] using h3)
    · exact .inr (.inr ⟨u, by simp, .one h3⟩)
    · exact .inr (.inr ⟨u, by simp, .more h3 h4⟩)
  · by_cases e : x = u
    · subst e; exact h.has v hv
    · exact h.clo x hx (by rw [gb_set _ _ _ hu]; simp [e, hn]) v hv
theorem gb_false (n x : Nat) : gbl (List.replicate n false) x = false := by
  unfold gbl
  rw [List.getD_eq_getElem?_getD, List.getElem?_replicate]
  split <;> rfl
theorem Vis.ring {n i : Nat} {m' : List Bool} (h : Vis ups (List.replicate n false) m' (ups i)) : gbl m' i = true ↔ Rch ups i i := by
  constructor
  · intro hi
    rcases h.only i hi with h2 | h2 | ⟨j, h2, h3⟩
    · rw [gb_false] at h2; cases h2
    · exact .one h2
    · exact .more h2 h3
  · intro hr
    exact rch_closed (S := fun x => gbl m' x = true) (fun j hj => h.has j hj) (fun x hx j hj => h.clo x hx (gb_false n x) j hj) i hr
theorem count_set {m : List Bool} {u : Nat} (hu : u < m.length) (h : gbl m u = false) : (m.set u true).count false < m.count false := by
  induction m generalizing u with
  | nil => simp at hu
  | cons a m ih =>
    rcases u with _ | u
    · have : a = false := by simpa [gbl] using h
      subst this
      simp
    · have := ih (u := u) (by simpa using hu) (by simpa [gbl] using h)
      cases a <;> simp <;> omega
theorem Vis.count {m m' : List Bool} {is : List Nat} (h : Vis ups m m' is) : m'.count false ≤ m.count false := by
  have h1 := (count_up h.len.symm h.up).1
  have c : ∀ l : List Bool, l.count true + l.count false = l.length := fun l => by
    induction l with
    | nil => rfl
    | cons a l ih => cases a <;> simp <;> omega
  have := c m
  have := c m'
  have := h.len
  omega
end
structure Gr where
  n : Nat
  sup : Nat → Option Nat
  ifs : Nat → List Nat
def Gr.ups (g : Gr) (i : Nat) : List Nat := (g.sup i).toList ++ g.ifs i
structure Gr.Ok (g : Gr) : Prop where
  pos : 0 < g.n
  in_ : ∀ i j, j ∈ g.ups i → j < g.n
  acy : ∀ i, ¬ Rch g.ups i i
  root : ∀ i, i < g.n → (g.sup i = none ↔ i = 0)
  top : ∀ i j, j ∈ g.ifs i → g.sup j = some 0
theorem Gr.sup_ups {g : Gr} {i j : Nat} (h : g.sup i = some j) : j ∈ g.ups i := by unfold Gr.ups; rw [h]; simp
theorem Gr.ifs_ups {g : Gr} {i j : Nat} (h : j ∈ g.ifs i) : j ∈ g.ups i := by unfold Gr.ups; exact List.mem_append.2 (.inr h)
open Classical in
noncomputable def Gr.rank (g : Gr) (i : Nat) : Nat := ((List.range g.n).filter (fun j => decide (Rch g.ups i j))).length
theorem filter_lt {p q : Nat → Bool} (hpq : ∀ x, p x = true → q x = true) : ∀ (l : List Nat), (∃ x ∈ l, q x = true ∧ p x = false) → (l.filter p).length < (l.filter q).length
  | [], h => by obtain ⟨x, hx, _⟩ := h; cases hx
  | y :: l, ⟨x, hx, h1, h2⟩ => by
    have hle : ∀ l : List Nat, (l.filter p).length ≤ (l.filter q).length := fun l => by
      induction l with
      | nil => exact Nat.le_refl _
      | cons a l ih =>
        simp only [List.filter_cons]
        cases e : p a <;> cases e2 : q a
        · exact ih
        · simp; omega
        · rw [hpq a e] at e2; cases e2
        · simp; exact ih
    rcases List.mem_cons.1 hx with rfl | hx
    · simp only [List.filter_cons, h1, h2]
      have := hle l
      simp; omega
    · have ih := filter_lt hpq l ⟨x, hx, h1, h2⟩
      simp only [List.filter_cons]
      cases e : p y <;> cases e2 : q y
      · exact ih
      · simp; omega
      · rw [hpq y e] at e2; cases e2
      · simp; exact ih
open Classical in
theorem Gr.Ok.rank_lt {g : Gr} (h : g.Ok) {i j : Nat} (hj : j ∈ g.ups i) : g.rank j < g.rank i := by
  unfold Gr.rank
  refine filter_lt (fun x hx => ?_) _ ⟨j, List.mem_range.2 (h.in_ i j hj), by simpa using Rch.one hj, by simpa using h.acy j⟩
  have hx := of_decide_eq_true hx
  exact decide_eq_true (Rch.more hj hx)
theorem Gr.rank_le (g : Gr) (i : Nat) : g.rank i ≤ g.n := by
  unfold Gr.rank
  exact Nat.le_trans (List.length_filter_le ..) (by simp)
def Gr.chainF (g : Gr) : Nat → Nat → List Nat
  | 0, _ => []
  | f + 1, i => i :: (match g.sup i with | none => [] | some j => g.chainF f j)
theorem Gr.Ok.chain_st {g : Gr} (h : g.Ok) : ∀ (f e i : Nat), g.rank i < f → g.rank i < e → g.chainF f i = g.chainF e i
  | 0, _, _, h1, _ => by omega
  | _ + 1, 0, _, _, h2 => by omega
  | f + 1, e + 1, i, h1, h2 => by
    unfold Gr.chainF
    cases hs : g.sup i with
    | none => rfl
    | some j =>
      have := h.rank_lt (Gr.sup_ups hs)
      simp only
      rw [h.chain_st f e j (by omega) (by omega)]
def Gr.chain (g : Gr) (i : Nat) : List Nat := g.chainF (g.n + 1) i
theorem Gr.Ok.chain_eq {g : Gr} (h : g.Ok) (i : Nat) : g.chain i = i :: (match g.sup i with | none => [] | some j => g.chain j) := by
  unfold Gr.chain
  rw [Gr.chainF]
  cases hs : g.sup i with
  | none => rfl
  | some j =>
    have := h.rank_lt (Gr.sup_ups hs)
    have := g.rank_le i
    simp only
    rw [h.chain_st g.n (g.n + 1) j (by omega) (by omega)]
def Gr.withF (g : Gr) : Nat → List Nat → Nat → List Nat
  | 0, l, _ => l
  | f + 1, l, i => if i ∈ l then l else (g.ifs i).foldl (g.withF f) (l ++ [i])
def Gr.Nd (g : Gr) (l : List Nat) : Prop := l.Nodup ∧ ∀ x ∈ l, x < g.n
theorem nodup_len : ∀ {n : Nat} {l : List Nat}, l.Nodup → (∀ x ∈ l, x < n) → l.length ≤ n
  | 0, [], _, _ => Nat.le_refl _
  | 0, x :: l, _, h => by have := h x (List.mem_cons_self ..); omega
  | n + 1, l, h, hx => by
    have h1 : (l.erase n).length ≤ n := nodup_len (h.erase n) (fun x h2 => by
      have h3 := (List.Nodup.mem_erase_iff h).1 h2
      have := hx x h3.2
      have := h3.1
      omega)
    rw [List.length_erase] at h1
    split at h1 <;> omega
theorem Gr.Nd.snoc {g : Gr} {l : List Nat} {i : Nat} (h : g.Nd l) (hi : i < g.n) (hn : i ∉ l) : g.Nd (l ++ [i]) := by
  refine ⟨List.nodup_append.2 ⟨h.1, by simp, fun a ha b hb => by rw [List.mem_singleton.1 hb]; exact fun e => hn (e ▸ ha)⟩, fun x hx => ?_⟩
  rcases List.mem_append.1 hx with hx | hx
  · exact h.2 x hx
  · rw [List.mem_singleton.1 hx]; exact hi
structure Gr.Wd (g : Gr) (l l' : List Nat) (is : List Nat) : Prop where
  nd : g.Nd l'
  pre : ∃ t, l' = l ++ t
  has : ∀ i ∈ is, i ∈ l'
  from_ : ∀ x ∈ l', x ∈ l ∨ x ∈ is ∨ ∃ i ∈ is, Rch g.ups i x
  clo : ∀ x ∈ l', x ∉ l → ∀ j ∈ g.ifs x, j ∈ l'
  isI : ∀ x ∈ l', x ∉ l → x ∈ is ∨ ∃ y, x ∈ g.ifs y
theorem Gr.with_ok {g : Gr} (hin : ∀ i j, j ∈ g.ups i → j < g.n) : ∀ (f : Nat),
    (∀ (l : List Nat) (i : Nat), g.Nd l → i < g.n → g.n < l.length + f → g.Wd l (g.withF f l i) [i] ∧ ∀ e, g.n < l.length + e → g.withF e l i = g.withF f l i) ∧
    (∀ (is l : List Nat), g.Nd l → (∀ i ∈ is, i < g.n) → g.n < l.length + f → g.Wd l (is.foldl (g.withF f) l) is ∧ ∀ e, g.n < l.length + e → is.foldl (g.withF e) l = is.foldl (g.withF f) l) := by
  intro f
  induction f with
  | zero =>
    refine ⟨fun l i h _ hl => ?_, fun is l h _ hl => ?_⟩ <;> (have := nodup_len h.1 h.2; omega)
  | succ f ih =>
    have one : ∀ (l : List Nat) (i : Nat), g.Nd l → i < g.n → g.n < l.length + (f + 1) → g.Wd l (g.withF (f + 1) l i) [i] ∧ ∀ e, g.n < l.length + e → g.withF e l i = g.withF (f + 1) l i := by
      intro l i h hi hl
      by_cases hm : i ∈ l
      · have e1 : ∀ e, g.n < l.length + e → g.withF e l i = l := fun e he => by
          rcases e with _ | e
          · have := nodup_len h.1 h.2; omega
          · unfold Gr.withF; rw [if_pos hm]
        rw [e1 _ hl]
        exact ⟨⟨h, ⟨[], by simp⟩, fun x hx => by rw [List.mem_singleton.1 hx]; exact hm, fun x hx => .inl hx, fun x hx hn => absurd hx hn, fun x hx hn => absurd hx hn⟩, e1⟩
      · have hs := h.snoc hi hm
        have hI : ∀ j ∈ g.ifs i, j < g.n := fun j hj => hin i j (Gr.ifs_ups hj)
        obtain ⟨w, st⟩ := ih.2 (g.ifs i) (l ++ [i]) hs hI (by simp; omega)
        have e1 : g.withF (f + 1) l i = (g.ifs i).foldl (g.withF f) (l ++ [i]) := by rw [Gr.withF, if_neg hm]
        rw [e1]
        obtain ⟨t, ht⟩ := w.pre
        refine ⟨⟨w.nd, ⟨i :: t, by rw [ht]; simp⟩, fun x hx => by rw [List.mem_singleton.1 hx, ht]; simp, fun x hx => ?_, fun x hx hn => ?_, fun x hx hn => ?_⟩, fun e he => ?_⟩
        · rcases w.from_ x hx with h1 | h1 | ⟨j, h1, h2⟩
          · rcases List.mem_append.1 h1 with h1 | h1
            · exact .inl h1
            · exact .inr (.inl h1)
          · exact .inr (.inr ⟨i, by simp, .one (Gr.ifs_ups h1)⟩)
          · exact .inr (.inr ⟨i, by simp, .more (Gr.ifs_ups h1) h2⟩)
        · by_cases e : x = i
          · subst e; exact w.has
          · exact w.clo x hx (fun h2 => by rcases List.mem_append.1 h2 with h2 | h2; exact hn h2; exact e (List.mem_singleton.1 h2))
        · by_cases e : x = i
          · left; rw [e]; simp
          · rcases w.isI x hx (fun h2 => by rcases List.mem_append.1 h2 with h2 | h2; exact hn h2; exact e (List.mem_singleton.1 h2)) with h2 | h2
            · exact .inr ⟨i, h2⟩
            · exact .inr h2
        · rcases e with _ | e
          · have := nodup_len h.1 h.2; omega
          · rw [Gr.withF, if_neg hm]
            exact st e (by simp; omega)
    refine ⟨one, ?_⟩
    intro is
    induction is with
    | nil => exact fun l h _ _ => ⟨⟨h, ⟨[], by simp⟩, fun x hx => (by cases hx), fun x hx => .inl hx, fun x hx hn => absurd hx hn, fun x hx hn => absurd hx hn⟩, fun _ _ => rfl⟩
    | cons i is ihs =>
      intro l h hi hl
      obtain ⟨w1, s1⟩ := one l i h (hi i (List.mem_cons_self ..)) hl
      obtain ⟨t1, ht1⟩ := w1.pre
      have hlen : l.length ≤ (g.withF (f + 1) l i).length := by rw [ht1]; simp
      obtain ⟨w2, s2⟩ := ihs (g.withF (f + 1) l i) w1.nd (fun j hj => hi j (List.mem_cons_of_mem _ hj)) (by omega)
      obtain ⟨t2, ht2⟩ := w2.pre
      rw [List.foldl_cons]
      have keep : ∀ x, x ∈ g.withF (f + 1) l i → x ∈ is.foldl (g.withF (f + 1)) (g.withF (f + 1) l i) := fun x hx => by rw [ht2]; exact List.mem_append.2 (.inl hx)
      refine ⟨⟨w2.nd, ⟨t1 ++ t2, by rw [ht2, ht1]; simp⟩, fun x hx => ?_, fun x hx => ?_, fun x hx hn => ?_, fun x hx hn => ?_⟩, fun e he => ?_⟩
      · rcases List.mem_cons.1 hx with rfl | hx
        · exact keep _ (w1.has _ (by simp))
        · exact w2.has x hx
      · rcases w2.from_ x hx with h1 | h1 | ⟨j, h1, h2⟩
        · rcases w1.from_ x h1 with h1 | h1 | ⟨j, h1, h2⟩
          · exact .inl h1
          · exact .inr (.inl (by rw [List.mem_singleton.1 h1]; simp))
          · exact .inr (.inr ⟨j, by rw [List.mem_singleton.1 h1]; simp, h2⟩)
        · exact .inr (.inl (List.mem_cons_of_mem _ h1))
        · exact .inr (.inr ⟨j, List.mem_cons_of_mem _ h1, h2⟩)
      · by_cases hx1 : x ∈ g.withF (f + 1) l i
        · exact fun j hj => keep _ (w1.clo x hx1 hn j hj)
        · exact w2.clo x hx hx1
      · by_cases hx1 : x ∈ g.withF (f + 1) l i
        · rcases w1.isI x hx1 hn with h2 | h2
          · left; rw [List.mem_singleton.1 h2]; simp
          · exact .inr h2
        · rcases w2.isI x hx hx1 with h2 | h2
          · exact .inl (List.mem_cons_of_mem _ h2)
          · exact .inr h2
      · rw [List.foldl_cons, s1 e he]
        exact s2 e (by omega)
def Gr.with_ (g : Gr) (l : List Nat) (i : Nat) : List Nat := g.withF (g.n + 1) l i
theorem Gr.with_eq {g : Gr} (hin : ∀ i j, j ∈ g.ups i → j < g.n) {l : List Nat} {i : Nat} (h : g.Nd l) (hi : i < g.n) : g.with_ l i = if i ∈ l then l else (g.ifs i).foldl g.with_ (l ++ [i]) := by
  unfold Gr.with_
  rw [Gr.withF]
  by_cases hm : i ∈ l
  · rw [if_pos hm, if_pos hm]
  · rw [if_neg hm, if_neg hm]
    have := ((Gr.with_ok hin (g.n + 1)).2 (g.ifs i) (l ++ [i]) (h.snoc hi hm) (fun j hj => hin i j (Gr.ifs_ups hj)) (by simp; omega)).2 g.n (by simp)
    exact this
theorem Gr.with_wd {g : Gr} (hin : ∀ i j, j ∈ g.ups i → j < g.n) {is l : List Nat} (h : g.Nd l) (hi : ∀ i ∈ is, i < g.n) : g.Wd l (is.foldl g.with_ l) is := ((Gr.with_ok hin (g.n + 1)).2 is l h hi (by omega)).1
def Gr.above (g : Gr) (i : Nat) : List Nat := ((g.chain i).flatMap g.ifs).foldl g.with_ (g.chain i)
theorem Gr.Ok.chain_ind {g : Gr} (h : g.Ok) {P : Nat → List Nat → Prop} (h0 : ∀ i, i < g.n → g.sup i = none → P i [i]) (h1 : ∀ i j, i < g.n → g.sup i = some j → P j (g.chain j) → P i (i :: g.chain j)) (i : Nat) (hi : i < g.n) : P i (g.chain i) := by
  have : ∀ r i, g.rank i < r → i < g.n → P i (g.chain i) := by
    intro r
    induction r with
    | zero => intro i hr; omega
    | succ r ih =>
      intro i hr hi
      rw [h.chain_eq i]
      cases hs : g.sup i with
      | none => exact h0 i hi hs
      | some j =>
        have hj := Gr.sup_ups hs
        have := h.rank_lt hj
        exact h1 i j hi hs (ih j (by omega) (h.in_ i j hj))
  exact this _ i (Nat.lt_succ_self _) hi
theorem Gr.Ok.chain_all {g : Gr} (h : g.Ok) (i : Nat) (hi : i < g.n) : g.Nd (g.chain i) ∧ 0 ∈ g.chain i ∧ i ∈ g.chain i ∧ (∀ x ∈ g.chain i, x = i ∨ Rch g.ups i x) ∧ (∀ x ∈ g.chain i, ∀ j, g.sup x = some j → j ∈ g.chain i) := by
  refine h.chain_ind (P := fun i l => g.Nd l ∧ 0 ∈ l ∧ i ∈ l ∧ (∀ x ∈ l, x = i ∨ Rch g.ups i x) ∧ (∀ x ∈ l, ∀ j, g.sup x = some j → j ∈ l)) ?_ ?_ i hi
  · intro i hi hs
    refine ⟨⟨by simp, by simpa using hi⟩, by simp [(h.root i hi).1 hs], by simp, by simp, fun x hx j hj => ?_⟩
    rw [List.mem_singleton.1 hx, hs] at hj; cases hj
  · rintro i j hi hs ⟨p1, p2, p3, p4, p5⟩
    have hij : Rch g.ups i j := .one (Gr.sup_ups hs)
    have hr : ∀ x ∈ g.chain j, Rch g.ups i x := fun x hx => by
      rcases p4 x hx with rfl | h2
      · exact hij
      · exact hij.trans h2
    refine ⟨⟨List.nodup_cons.2 ⟨fun hx => h.acy i (hr i hx), p1.1⟩, fun x hx => ?_⟩, List.mem_cons_of_mem _ p2, by simp, fun x hx => ?_, fun x hx k hk => ?_⟩
    · rcases List.mem_cons.1 hx with rfl | hx
      · exact hi
      · exact p1.2 x hx
    · rcases List.mem_cons.1 hx with rfl | hx
      · exact .inl rfl
      · exact .inr (hr x hx)
    · rcases List.mem_cons.1 hx with rfl | hx
      · rw [hs] at hk; injection hk with hk; rw [← hk]; exact List.mem_cons_of_mem _ p3
      · exact List.mem_cons_of_mem _ (p5 x hx k hk)
theorem Gr.Ok.above_wd {g : Gr} (h : g.Ok) (i : Nat) (hi : i < g.n) : g.Wd (g.chain i) (g.above i) ((g.chain i).flatMap g.ifs) :=
  Gr.with_wd h.in_ (h.chain_all i hi).1 (fun j hj => by obtain ⟨x, hx, h2⟩ := List.mem_flatMap.1 hj; exact h.in_ x j (Gr.ifs_ups h2))
theorem Gr.Ok.mem_above {g : Gr} (h : g.Ok) (i : Nat) (hi : i < g.n) (x : Nat) : x ∈ g.above i ↔ (x = i ∨ Rch g.ups i x) := by
  have w := h.above_wd i hi
  obtain ⟨c1, c2, c3, c4, c5⟩ := h.chain_all i hi
  obtain ⟨t, ht⟩ := w.pre
  have keep : ∀ x ∈ g.chain i, x ∈ g.above i := fun x hx => by rw [ht]; exact List.mem_append.2 (.inl hx)
  constructor
  · intro hx
    rcases w.from_ x hx with h1 | h1 | ⟨j, h1, h2⟩
    · exact c4 x h1
    · obtain ⟨y, hy, h2⟩ := List.mem_flatMap.1 h1
      right
      rcases c4 y hy with rfl | h3
      · exact .one (Gr.ifs_ups h2)
      · exact h3.last (Gr.ifs_ups h2)
    · obtain ⟨y, hy, h3⟩ := List.mem_flatMap.1 h1
      right
      rcases c4 y hy with rfl | h4
      · exact .more (Gr.ifs_ups h3) h2
      · exact (h4.last (Gr.ifs_ups h3)).trans h2
  · have clo : ∀ y ∈ g.above i, ∀ j ∈ g.ups y, j ∈ g.above i := by
      intro y hy j hj
      unfold Gr.ups at hj
      rcases List.mem_append.1 hj with hj | hj
      · by_cases hc : y ∈ g.chain i
        · exact keep j (c5 y hc j (by simpa using hj))
        · have : ∃ z, y ∈ g.ifs z := by
            rcases w.isI y hy hc with h1 | h1
            · obtain ⟨z, _, h2⟩ := List.mem_flatMap.1 h1; exact ⟨z, h2⟩
            · exact h1
          obtain ⟨z, hz⟩ := this
          have := h.top z y hz
          rw [this] at hj
          have e : j = 0 := by simpa using hj
          rw [e]; exact keep 0 c2
      · by_cases hc : y ∈ g.chain i
        · exact w.has j (List.mem_flatMap.2 ⟨y, hc, hj⟩)
        · exact w.clo y hy hc j hj
    rintro (rfl | hr)
    · exact keep _ c3
    · have : ∀ {a b}, Rch g.ups a b → a ∈ g.above i → b ∈ g.above i := by
        intro a b hr
        induction hr with
        | one h1 => exact fun ha => clo _ ha _ h1
        | more h1 _ ih => exact fun ha => ih (clo _ ha _ h1)
      exact this hr (keep _ c3)
theorem Gr.Ok.chain_cut {g : Gr} (h : g.Ok) (i : Nat) (hi : i < g.n) : ∀ x ∈ g.chain i, ∃ p, g.chain i = p ++ g.chain x := by
  refine h.chain_ind (P := fun i l => ∀ x ∈ l, ∃ p, l = p ++ g.chain x) ?_ ?_ i hi
  · intro i hi hs x hx
    rw [List.mem_singleton.1 hx]
    exact ⟨[], by rw [h.chain_eq i, hs]; rfl⟩
  · intro i j hi hs ih x hx
    rcases List.mem_cons.1 hx with rfl | hx
    · exact ⟨[], by rw [h.chain_eq x, hs]; rfl⟩
    · obtain ⟨p, hp⟩ := ih x hx
      exact ⟨i :: p, by rw [hp]; rfl⟩
def Gr.common (g : Gr) (i j : Nat) : Option Nat := (g.chain i).find? (fun x => decide (x ∈ g.chain j))
theorem Gr.Ok.common_cut {g : Gr} (h : g.Ok) (i j : Nat) (hi : i < g.n) (hj : j < g.n) : ∃ c p q, g.common i j = some c ∧ c < g.n ∧ g.chain i = p ++ g.chain c ∧ g.chain j = q ++ g.chain c ∧ (∀ x ∈ p, x ∉ g.chain j) ∧ (∀ x ∈ q, x ∉ g.chain i) := by
  obtain ⟨a1, a2, a3, a4, a5⟩ := h.chain_all i hi
  obtain ⟨b1, b2, b3, b4, b5⟩ := h.chain_all j hj
  cases hc : g.common i j with
  | none =>
    have := List.find?_eq_none.1 hc 0 a2
    exact absurd b2 (by simpa using this)
  | some c =>
    unfold Gr.common at hc
    obtain ⟨hcj, p, t, hp, hpn⟩ := List.find?_eq_some_iff_append.1 hc
    have hcj : c ∈ g.chain j := by simpa using hcj
    have hci : c ∈ g.chain i := by rw [hp]; simp
    have hcn : c < g.n := a1.2 c hci
    obtain ⟨p2, hp2⟩ := h.chain_cut i hi c hci
    obtain ⟨q, hq⟩ := h.chain_cut j hj c hcj
    have hce : g.chain c = c :: (match g.sup c with | none => [] | some j => g.chain j) := h.chain_eq c
    -- p = p2
    have hpp : p = p2 := by
      have h1 : c ∉ p := fun hc => by have := hpn c hc; simp [hcj] at this
      have h2 : c ∉ p2 := fun hc2 => by
        have := a1.1
        rw [hp2] at this
        exact (List.nodup_append.1 this).2.2 c hc2 c (by rw [hce]; simp) rfl
      have h3 : p ++ c :: t = p2 ++ c :: (match g.sup c with | none => [] | some j => g.chain j) := by rw [← hp, hp2, ← hce]
      rcases List.append_eq_append_iff.1 h3 with ⟨u, h4, h5⟩ | ⟨u, h4, h5⟩
      · rcases u with _ | ⟨x, u⟩
        · simpa using h4.symm
        · injection h5 with h5 _
          exact absurd (by rw [h4, h5]; simp) h2
      · rcases u with _ | ⟨x, u⟩
        · simpa using h4
        · injection h5 with h5 _
          exact absurd (by rw [h4, h5]; simp) h1
    subst hpp
    have hpn2 : ∀ x ∈ p, x ∉ g.chain j := fun x hx hxj => by have := hpn x hx; simp [hxj] at this
    refine ⟨c, p, q, rfl, hcn, hp2, hq, hpn2, fun x hx hxi => ?_⟩
    rw [hp2] at hxi
    rcases List.mem_append.1 hxi with hx2 | hx2
    · exact hpn2 x hx2 (by rw [hq]; exact List.mem_append.2 (.inl hx))
    · have := b1.1
      rw [hq] at this
      exact (List.nodup_append.1 this).2.2 x hx x hx2 rfl
def firstEq : List Nat → List Nat → Option Nat
  | x :: l, y :: m => if y = x then some x else firstEq l m
  | _, _ => none
theorem firstEq_app : ∀ {p q l m : List Nat}, p.length = q.length → (∀ x ∈ p, x ∉ q) → firstEq (p ++ l) (q ++ m) = firstEq l m
  | [], [], _, _, _, _ => rfl
  | [], _ :: _, _, _, h, _ => by simp at h
  | _ :: _, [], _, _, h, _ => by simp at h
  | x :: p, y :: q, l, m, h, hn => by
    have : ¬ y = x := fun e => hn x (List.mem_cons_self ..) (by rw [e]; simp)
    have e : firstEq (x :: p ++ l) (y :: q ++ m) = if y = x then some x else firstEq (p ++ l) (q ++ m) := by
      rw [List.cons_append, List.cons_append, firstEq]
    rw [e, if_neg this]
    exact firstEq_app (by simpa using h) (fun z hz hz2 => hn z (List.mem_cons_of_mem _ hz) (List.mem_cons_of_mem _ hz2))
theorem Gr.Ok.common_tails {g : Gr} (h : g.Ok) (i j : Nat) (hi : i < g.n) (hj : j < g.n) :
    firstEq ((g.chain i).drop ((g.chain i).length - min (g.chain i).length (g.chain j).length)) ((g.chain j).drop ((g.chain j).length - min (g.chain i).length (g.chain j).length)) = g.common i j := by
  obtain ⟨c, p, q, e, hcn, hp, hq, hpn, hqn⟩ := h.common_cut i j hi hj
  rw [e]
  have hce : g.chain c = c :: (match g.sup c with | none => [] | some j => g.chain j) := h.chain_eq c
  have hlp : (g.chain i).length = p.length + (g.chain c).length := by rw [hp, List.length_append]
  have hlq : (g.chain j).length = q.length + (g.chain c).length := by rw [hq, List.length_append]
  rw [show (g.chain i).length - min (g.chain i).length (g.chain j).length = p.length - min p.length q.length by omega,
    show (g.chain j).length - min (g.chain i).length (g.chain j).length = q.length - min p.length q.length by omega]
  have d1 : (g.chain i).drop (p.length - min p.length q.length) = p.drop (p.length - min p.length q.length) ++ g.chain c := by
    rw [hp, List.drop_append_of_le_length (by omega)]
  have d2 : (g.chain j).drop (q.length - min p.length q.length) = q.drop (q.length - min p.length q.length) ++ g.chain c := by
    rw [hq, List.drop_append_of_le_length (by omega)]
  rw [d1, d2, firstEq_app (by simp; omega) (fun x hx hx2 => hpn x (List.mem_of_mem_drop hx) (by rw [hq]; exact List.mem_append.2 (.inl (List.mem_of_mem_drop hx2)))), hce]
  simp [firstEq]

def kl0 : Kl := ⟨⟨#[]⟩, ⟨#[]⟩, false, []⟩
def gk (N : List Kl) (i : Nat) : Kl := N.getD i kl0
def nObj : ByteArray := ⟨#[79, 98, 106, 101, 99, 116]⟩
def nThr : ByteArray := ⟨#[84, 104, 114, 111, 119, 97, 98, 108, 101]⟩
def builtZ : List Kl := [⟨nObj, ⟨#[]⟩, false, []⟩, ⟨nThr, ⟨#[]⟩, false, []⟩, ⟨⟨#[65, 114, 105, 116, 104]⟩, ⟨#[]⟩, false, []⟩, ⟨⟨#[78, 117, 108, 108]⟩, ⟨#[]⟩, false, []⟩, ⟨⟨#[66, 111, 117, 110, 100, 115]⟩, ⟨#[]⟩, false, []⟩, ⟨⟨#[67, 97, 115, 116]⟩, ⟨#[]⟩, false, []⟩, ⟨⟨#[83, 105, 122, 101]⟩, ⟨#[]⟩, false, []⟩, ⟨⟨#[83, 116, 111, 114, 101]⟩, ⟨#[]⟩, false, []⟩]
def supI (N : List Kl) (i : Nat) : Int := if i < 8 then (if i = 0 then -1 else if i = 1 then 0 else 1) else findZ N (gk N i).sup
def ifsI (N : List Kl) (i : Nat) : List Int := (gk N i).ifs.map (findZ N)
def supN (N : List Kl) (i : Nat) : Option Nat := if supI N i < 0 then none else some (supI N i).toNat
def ifsN (N : List Kl) (i : Nat) : List Nat := (ifsI N i).map Int.toNat
def grK (N : List Kl) : Gr := ⟨N.length, supN N, ifsN N⟩
abbrev Flt := Option (ByteArray × Int)
def flt1 (N : List Kl) (i : Nat) : Flt := if findZ N (gk N i).nm = (i : Int) then none else some ((gk N i).nm, 92)
def flt2 (N : List Kl) (i : Nat) : Flt := if findZ N (gk N i).sup < 0 then some ((gk N i).sup, 90) else ((gk N i).ifs.find? (fun x => decide (findZ N x < 0))).map (fun x => (x, 90))
def flt3 (N : List Kl) (i : Nat) : Flt := if (gk N (findZ N (gk N i).sup).toNat).inf || ((gk N i).inf && !decide ((gk N i).sup = nObj)) then some ((gk N i).nm, 90) else none
def bad4 (N : List Kl) : List ByteArray → List ByteArray → Bool
  | _, [] => false
  | p, x :: l => p.any (fun y => decide (y = x)) || !(gk N (findZ N x).toNat).inf || bad4 N (p ++ [x]) l
def flt4 (N : List Kl) (i : Nat) : Flt := if bad4 N [] (gk N i).ifs then some ((gk N i).nm, 90) else none
def flt5 (N : List Kl) (i : Nat) : Flt := if ringF (grK N).ups N.length i then some ((gk N i).nm, 91) else none
def ownK (N : List Kl) : List Nat := List.range' 8 (N.length - 8)
def fltZ (N : List Kl) : Flt := ((ownK N).findSome? (flt1 N)).or (((ownK N).findSome? (flt2 N)).or (((ownK N).findSome? (flt3 N)).or (((ownK N).findSome? (flt4 N)).or ((ownK N).findSome? (flt5 N)))))
def setZ (nltf : ByteArray → ByteArray → Bool) (l : List Kl) : List Kl := builtZ ++ sortZ (fun a b => nltf a.nm b.nm) l
theorem findZ_lt (N : List Kl) (x : ByteArray) : findZ N x < N.length := by
  rcases findZ_cases N x with ⟨h, _⟩ | ⟨j, h1, h2, _⟩
  · rw [h]; omega
  · rw [h2]; omega
theorem findZ_nn {N : List Kl} {x : ByteArray} (h : ¬ findZ N x < 0) : ∃ j, j < N.length ∧ findZ N x = (j : Int) ∧ (gk N j).nm = x := by
  rcases findZ_cases N x with ⟨h2, _⟩ | ⟨j, h1, h2, ⟨y, h3, h4⟩, _⟩
  · rw [h2] at h; omega
  · exact ⟨j, h1, h2, by unfold gk; rw [List.getD_eq_getElem?_getD, h3]; exact h4⟩
theorem findSome_none {f : Nat → Flt} {l : List Nat} : l.findSome? f = none ↔ ∀ x ∈ l, f x = none := List.findSome?_eq_none_iff
theorem own_mem {N : List Kl} {i : Nat} : i ∈ ownK N ↔ 8 ≤ i ∧ i < N.length := by
  unfold ownK
  rw [List.mem_range'_1]
  omega
theorem fltZ_none {N : List Kl} : fltZ N = none ↔ ∀ i, 8 ≤ i → i < N.length → flt1 N i = none ∧ flt2 N i = none ∧ flt3 N i = none ∧ flt4 N i = none ∧ flt5 N i = none := by
  unfold fltZ
  simp only [Option.or_eq_none_iff, findSome_none, own_mem]
  constructor
  · rintro ⟨h1, h2, h3, h4, h5⟩ i hi hn
    exact ⟨h1 i ⟨hi, hn⟩, h2 i ⟨hi, hn⟩, h3 i ⟨hi, hn⟩, h4 i ⟨hi, hn⟩, h5 i ⟨hi, hn⟩⟩
  · intro h
    exact ⟨fun i hi => (h i hi.1 hi.2).1, fun i hi => (h i hi.1 hi.2).2.1, fun i hi => (h i hi.1 hi.2).2.2.1, fun i hi => (h i hi.1 hi.2).2.2.2.1, fun i hi => (h i hi.1 hi.2).2.2.2.2⟩
theorem find_obj (r : List Kl) : findZ (builtZ ++ r) nObj = 0 := by
  unfold findZ builtZ
  simp [findA]
theorem find_thr (r : List Kl) : findZ (builtZ ++ r) nThr = 1 := by
  unfold findZ builtZ
  simp [findA, nObj, nThr]
theorem gk_built (r : List Kl) (i : Nat) (h : i < 8) : gk (builtZ ++ r) i = gk builtZ i := by
  unfold gk
  rw [List.getD_eq_getElem?_getD, List.getD_eq_getElem?_getD, List.getElem?_append_left (by simpa [builtZ] using h)]
theorem supI_own {N : List Kl} {i : Nat} (h : 8 ≤ i) : supI N i = findZ N (gk N i).sup := by
  unfold supI
  rw [if_neg (by omega)]
theorem supI_lt {N : List Kl} (h : 8 ≤ N.length) (i : Nat) : supI N i < N.length := by
  unfold supI
  split
  · split
    · omega
    · split <;> omega
  · exact findZ_lt N _
theorem sup_built (r : List Kl) (i : Nat) (h : i < 8) : supI (builtZ ++ r) i = if i = 0 then -1 else if i = 1 then 0 else 1 := by
  unfold supI
  rw [if_pos h]
theorem ifs_built (r : List Kl) (i : Nat) (h : i < 8) : ifsI (builtZ ++ r) i = [] ∧ (gk (builtZ ++ r) i).inf = false := by
  unfold ifsI
  rw [gk_built r i h]
  rcases i with _ | _ | _ | _ | _ | _ | _ | _ | i
  all_goals first | exact ⟨rfl, rfl⟩ | omega
theorem bad4_inf {N : List Kl} : ∀ {p l : List ByteArray}, bad4 N p l = false → ∀ x ∈ l, (gk N (findZ N x).toNat).inf = true
  | _, [], _, x, hx => by cases hx
  | p, y :: l, h, x, hx => by
    unfold bad4 at h
    simp only [Bool.or_eq_false_iff, Bool.not_eq_false'] at h
    rcases List.mem_cons.1 hx with rfl | hx
    · exact h.1.2
    · exact bad4_inf h.2 x hx
theorem gr_ok (r : List Kl) (h : fltZ (builtZ ++ r) = none) : (grK (builtZ ++ r)).Ok := by
  obtain ⟨N, hN⟩ : ∃ N, builtZ ++ r = N := ⟨_, rfl⟩
  have hlen : 8 ≤ N.length := by rw [← hN]; simp [builtZ]
  have hb := sup_built r
  have hi := ifs_built r
  have ho := find_obj r
  rw [hN] at h hb hi ho ⊢
  have hf := fltZ_none.1 h
  have sup_lt : ∀ i j, supN N i = some j → j < N.length := by
    intro i j hj
    unfold supN at hj
    split at hj
    · cases hj
    · rename_i hn
      injection hj with hj
      have := supI_lt hlen i
      omega
  have known : ∀ i, 8 ≤ i → i < N.length → ¬ findZ N (gk N i).sup < 0 ∧ ∀ x ∈ (gk N i).ifs, ¬ findZ N x < 0 := by
    intro i h1 h2
    have h3 := (hf i h1 h2).2.1
    unfold flt2 at h3
    split at h3
    · cases h3
    · rename_i hs
      refine ⟨hs, fun x hx => ?_⟩
      have h4 := List.find?_eq_none.1 (Option.map_eq_none_iff.1 h3) x hx
      simpa using h4
  have nil_ge : ∀ i, N.length ≤ i → (gk N i).ifs = [] ∧ (gk N i).inf = false ∧ (gk N i).sup = ⟨#[]⟩ := by
    intro i hi
    have : gk N i = kl0 := by unfold gk; rw [List.getD_eq_getElem?_getD, List.getElem?_eq_none hi]; rfl
    rw [this]; exact ⟨rfl, rfl, rfl⟩
  have ifs_in : ∀ i j, j ∈ ifsN N i → j < N.length ∧ (gk N j).inf = true ∧ 8 ≤ j := by
    intro i j hj
    have hi8 : 8 ≤ i := by
      rcases Nat.lt_or_ge i 8 with h1 | h1
      · unfold ifsN at hj; rw [(hi i h1).1] at hj; cases hj
      · exact h1
    have hin : i < N.length := by
      rcases Nat.lt_or_ge i N.length with h1 | h1
      · exact h1
      · unfold ifsN ifsI at hj; rw [(nil_ge i h1).1] at hj; cases hj
    unfold ifsN ifsI at hj
    rw [List.map_map] at hj
    obtain ⟨x, hx, rfl⟩ := List.mem_map.1 hj
    have hk := (known i hi8 hin).2 x hx
    have h4 := (hf i hi8 hin).2.2.2.1
    have hb4 : bad4 N [] (gk N i).ifs = false := by
      unfold flt4 at h4
      cases e : bad4 N [] (gk N i).ifs
      · rfl
      · rw [e] at h4; cases h4
    have hinf := bad4_inf hb4 x hx
    have hlt := findZ_lt N x
    have hjn : (findZ N x).toNat < N.length := by omega
    refine ⟨hjn, hinf, ?_⟩
    rcases Nat.lt_or_ge (findZ N x).toNat 8 with h1 | h1
    · rw [(hi _ h1).2] at hinf; cases hinf
    · exact h1
  have in_ : ∀ i j, j ∈ (grK N).ups i → j < N.length := by
    intro i j hj
    unfold Gr.ups at hj
    rcases List.mem_append.1 hj with hj | hj
    · exact sup_lt i j (by simpa [grK] using hj)
    · exact (ifs_in i j hj).1
  refine ⟨by show 0 < N.length; omega, in_, ?_, ?_, ?_⟩
  · intro i hr
    rcases Nat.lt_or_ge i 8 with h1 | h1
    · have down : ∀ a b, Rch (grK N).ups a b → a < 8 → b < a := by
        intro a b hab
        have step : ∀ a b, b ∈ (grK N).ups a → a < 8 → b < a := by
          intro a b hb2 ha
          unfold Gr.ups at hb2
          have e1 : (grK N).ifs a = [] := by show ifsN N a = []; unfold ifsN; rw [(hi a ha).1]; rfl
          rw [e1, List.append_nil] at hb2
          have e2 : supN N a = some b := by simpa [grK] using hb2
          unfold supN at e2
          rw [hb a ha] at e2
          rcases a with _ | _ | a
          · simp at e2
          · simp at e2; omega
          · simp at e2; omega
        induction hab with
        | one h1 => exact step _ _ h1
        | more h1 _ ih => intro ha; have := step _ _ h1 ha; have := ih (by omega); omega
      have := down i i hr h1
      omega
    · have hin : i < N.length := by
        rcases Nat.lt_or_ge i N.length with h2 | h2
        · exact h2
        · exfalso
          have e : (grK N).ups i = [] ∨ True := .inr trivial
          cases hr with
          | one h3 => 
            have := (in_ i i h3)
            omega
          | more h3 h4 =>
            have : ∀ a b, Rch (grK N).ups a b → b < N.length := by
              intro a b hab
              induction hab with
              | one h5 => exact in_ _ _ h5
              | more _ _ ih => exact ih
            have := this _ _ h4
            omega
      have h5 := (hf i h1 hin).2.2.2.2
      unfold flt5 at h5
      have : ringF (grK N).ups N.length i = true := (ring_iff in_ i).2 hr
      rw [this] at h5
      cases h5
  · intro i hin
    have hin : i < N.length := hin
    show supN N i = none ↔ i = 0
    unfold supN
    rcases Nat.lt_or_ge i 8 with h1 | h1
    · rw [hb i h1]
      rcases i with _ | _ | i <;> simp
    · have : ¬ supI N i < 0 := by rw [supI_own h1]; exact (known i h1 hin).1
      rw [if_neg this]
      constructor
      · intro h2; cases h2
      · omega
  · intro i j hj
    obtain ⟨h1, h2, h3⟩ := ifs_in i j hj
    show supN N j = some 0
    have h4 := (hf j h3 h1).2.2.1
    unfold flt3 at h4
    have hs : (gk N j).sup = nObj := by
      rw [h2] at h4
      cases e : decide ((gk N j).sup = nObj)
      · rw [e] at h4; simp at h4
      · exact of_decide_eq_true e
    unfold supN
    rw [supI_own h3, hs, ho]
    rfl
end Go.Proofs.YtkkfkjjmmdpafaaDoor
namespace Go.Proofs.YtkkfkjjmmdpafaaDoor
open Go.RowKit
set_option linter.unusedVariables false

theorem set_grownK (w : World) (b j : Nat) (u : Value) : w.grownBy (w.setCell ⟨b, j, none⟩ u) (some b) := only_set (World.grownBy.refl w (some b)) j u
section
variable {α : Type} {S : Shp α} {w w' : World} {B : Nat} {v : Value} {l : List α}
theorem Shp.flat_some (l : List α) (q : Nat) (h : q < l.length * S.n) : (l.flatMap fun x => (S.vals x).toList)[q]? = (S.vals (S.el l (q / S.n)))[q % S.n]? := by
  have hp := S.pos
  have hq : q / S.n < l.length := by rw [Nat.div_lt_iff_lt_mul hp]; exact h
  have e : q = q / S.n * S.n + q % S.n := by have := Nat.div_add_mod q S.n; rw [Nat.mul_comm] at this; omega
  have := S.flat_at l (q / S.n) (q % S.n) hq (Nat.mod_lt q hp)
  rw [← e] at this
  exact this
theorem Shp.flat_set (l : List α) (j i : Nat) (hj : j < l.length) (hi : i < S.n) (u : Value) (x' : α) (hv : S.vals x' = (S.vals (S.el l j)).setIfInBounds i u) :
    ((l.set j x').flatMap fun x => (S.vals x).toList) = (l.flatMap fun x => (S.vals x).toList).set (j * S.n + i) u := by
  have hp := S.pos
  apply List.ext_getElem?
  intro q
  rw [List.getElem?_set]
  rcases Nat.lt_or_ge q (l.length * S.n) with h | h
  · rw [S.flat_some _ q (by rw [List.length_set]; exact h), S.flat_some l q h]
    have hq : q / S.n < l.length := by rw [Nat.div_lt_iff_lt_mul hp]; exact h
    have hr := Nat.mod_lt q hp
    have e : q = q / S.n * S.n + q % S.n := by have := Nat.div_add_mod q S.n; rw [Nat.mul_comm] at this; omega
    by_cases hjq : q / S.n = j
    · have e1 : S.el (l.set j x') (q / S.n) = x' := by
        unfold Shp.el
        rw [hjq, List.getD_eq_getElem?_getD, List.getElem?_set_self hj]
        rfl
      rw [e1, hv, hjq]
      by_cases hiq : j * S.n + i = q
      · have hiq' : i = q % S.n := by rw [hjq] at e; omega
        rw [if_pos hiq, ← hiq', Array.getElem?_setIfInBounds_self_of_lt (by rw [S.size]; exact hi)]
        simp only [S.flat_len]
        rw [if_pos (by omega)]
      · have hiq' : i ≠ q % S.n := by intro h2; rw [hjq] at e; omega
        rw [if_neg hiq, Array.getElem?_setIfInBounds_ne hiq']
    · have e1 : S.el (l.set j x') (q / S.n) = S.el l (q / S.n) := by
        unfold Shp.el
        rw [List.getD_eq_getElem?_getD, List.getD_eq_getElem?_getD, List.getElem?_set_ne (fun h => hjq h.symm)]
      have hiq : ¬ j * S.n + i = q := by
        intro h2
        apply hjq
        rw [← h2, Nat.mul_comm, Nat.mul_add_div hp, Nat.div_eq_of_lt hi]
        rfl
      rw [e1, if_neg hiq]
  · have n1 : ((l.set j x').flatMap fun x => (S.vals x).toList)[q]? = none := List.getElem?_eq_none (by rw [S.flat_len, List.length_set]; exact h)
    have n2 : (l.flatMap fun x => (S.vals x).toList)[q]? = none := List.getElem?_eq_none (by rw [S.flat_len]; exact h)
    have hlt : j * S.n + i < l.length * S.n := by
      have := Nat.mul_le_mul_right S.n (show j + 1 ≤ l.length from hj)
      rw [Nat.add_mul] at this
      omega
    rw [n1, n2, if_neg (by omega)]
theorem Shp.Own.setCell {g n c : Nat} (h : S.Own B w (.slice (some ⟨g, 0, none⟩) n c) l) (j i : Nat) (hj : j < l.length) (hi : i < S.n) (u : Value) (x' : α) (hv : S.vals x' = (S.vals (S.el l j)).setIfInBounds i u) (hx : S.nestO B w x') :
    S.Own B (w.setCell ⟨g, j * S.n + i, none⟩ u) (.slice (some ⟨g, 0, none⟩) n c) (l.set j x') := by
  have gs := set_grownK w g (j * S.n + i) u
  have ht := h.typed g rfl
  obtain ⟨⟨h1, h2⟩, h3⟩ := h
  have hlt : j * S.n + i < l.length * S.n := by
    have := Nat.mul_le_mul_right S.n (show j + 1 ≤ l.length from hj)
    rw [Nat.add_mul] at this
    omega
  have hnest : ∀ x, S.nestO B w x → S.nestO B (w.setCell ⟨g, j * S.n + i, none⟩ u) x := fun x hx => S.kept hx gs (fun q hq => by injection hq with hq; subst hq; exact ht)
  refine ⟨⟨by rw [Shp.flat_len, List.length_set], ?_⟩, fun x hm => ?_⟩
  · rcases h2 with ⟨h2, _⟩ | ⟨g', cap, cur, hv', hb, hg', hn, hm, hs, htk⟩
    · cases h2
    · injection hv' with e1 e2 e3
      injection e1 with e1
      injection e1 with e1 _ _
      subst e1 e2 e3
      refine .inr ⟨g, _, cur.setIfInBounds (j * S.n + i) u, by rw [List.length_set], hb, heap_setCell_same w g _ cur S.T u hg', by rw [List.length_set]; exact hn, hm, by simp [hs], ?_⟩
      rw [S.flat_set l j i hj hi u x' hv, ← htk, List.length_set]
      rw [Array.toList_setIfInBounds, List.take_set]
  · rcases List.mem_or_eq_of_mem_set hm with hm | rfl
    · exact hnest x (h3 x hm)
    · exact hnest _ hx
end
end Go.Proofs.YtkkfkjjmmdpafaaDoor
namespace Go.Proofs.YtkkfkjjmmdpafaaDoor
open Go.RowKit
set_option linter.unusedVariables false

def ShS : Shp ByteArray := flat 9 1 (fun s => #[.string s]) .empty (by decide) (fun _ => rfl) (fun x u hu => by
  have h : u = .string x := by simpa using hu
  rw [h]; rfl)
def gs (l : List ByteArray) (j : Nat) : ByteArray := ShS.el l j
theorem rowS_at {w : World} {A : Option Addr} {n c : Nat} {l : List ByteArray} (h : ShS.Row w (.slice A n c) l) (hl : 0 < l.length) : ∃ b o, A = some ⟨b, o, none⟩ ∧ ∀ W, Ext w W → ∀ j, j < l.length → W.cell? ⟨b, o + j, none⟩ = some (.string (gs l j)) := by
  obtain ⟨b, o, ha, h⟩ := h.at hl
  refine ⟨b, o, ha, fun W e j hj => ?_⟩
  have := (h W e j hj).1 0 (by decide)
  rw [show ShS.n = 1 from rfl, Nat.mul_one] at this
  exact this
structure Sl where
  A : Option Addr
  n : Nat
  c : Nat
def Sl.v (s : Sl) : Value := .slice s.A s.n s.c
def sl0 : Sl := ⟨none, 0, 0⟩
structure KlV where
  k : Kl
  vp : Sl
  vi : Sl
  vf : Sl
  vm : Sl
def KlV.vals (e : KlV) : Array Value := #[.slice e.vp.A e.vp.n e.vp.c, .string e.k.nm, .string e.k.sup, .bool e.k.inf, .slice e.vi.A e.vi.n e.vi.c, .slice e.vf.A e.vf.n e.vf.c, .slice e.vm.A e.vm.n e.vm.c]
def klv0 : KlV := ⟨kl0, sl0, sl0, sl0, sl0⟩
def NestK (w : World) (e : KlV) : Prop := ShS.Row w e.vi.v e.k.ifs
theorem KlV.one (x : KlV) (u : Value) (hu : u ∈ (KlV.vals x).toList) : u.oneCell' = true := by
  have h6 : u = .slice x.vp.A x.vp.n x.vp.c ∨ u = .string x.k.nm ∨ u = .string x.k.sup ∨ u = .bool x.k.inf ∨ u = .slice x.vi.A x.vi.n x.vi.c ∨ u = .slice x.vf.A x.vf.n x.vf.c ∨ u = .slice x.vm.A x.vm.n x.vm.c := by simpa [KlV.vals] using hu
  rcases h6 with rfl | rfl | rfl | rfl | rfl | rfl | rfl <;> rfl
def ShK : Shp KlV where
  T := 36
  n := 7
  vals := KlV.vals
  zero := klv0
  nest := NestK
  nestO := fun B w e => ShS.Own B w e.vi.v e.k.ifs
  pos := by decide
  size := fun _ => rfl
  one := fun {w x} _ u hu => KlV.one x u hu
  ext := fun h he => Shp.Row.ext h he
  extO := fun h he => Shp.Own.ext h he
  low := fun h => Shp.Own.row h
  kept := fun {B w w' x row} h hg hr => Shp.Own.kept h hg (fun g hv e => by
    obtain ⟨c, z, h1⟩ := hr g e
    exact Shp.Own.ne h h1 (by decide) hv) (fun _ _ h => h)
def ShKW (W0 : World) : Shp KlV where
  T := 36
  n := 7
  vals := KlV.vals
  zero := klv0
  nest := fun _ => NestK W0
  nestO := fun _ _ => NestK W0
  pos := by decide
  size := fun _ => rfl
  one := fun {w x} _ u hu => KlV.one x u hu
  ext := fun h _ => h
  extO := fun h _ => h
  low := fun h => h
  kept := fun h _ _ => h
theorem rowKW {w : World} {v : Value} {l : List KlV} (h : ShK.Row w v l) : (ShKW w).Row w v l := by
  obtain ⟨A, c, h1, h2, h3, h4, h6, h7⟩ := h
  exact ⟨A, c, h1, h2, h3, h4, h6, h7⟩
def AtK (w : World) (b o : Nat) (e : KlV) : Prop :=
  w.cell? ⟨b, o, none⟩ = some (.slice e.vp.A e.vp.n e.vp.c) ∧ w.cell? ⟨b, o + 1, none⟩ = some (.string e.k.nm) ∧ w.cell? ⟨b, o + 2, none⟩ = some (.string e.k.sup) ∧ w.cell? ⟨b, o + 3, none⟩ = some (.bool e.k.inf) ∧ w.cell? ⟨b, o + 4, none⟩ = some (.slice e.vi.A e.vi.n e.vi.c) ∧ w.cell? ⟨b, o + 5, none⟩ = some (.slice e.vf.A e.vf.n e.vf.c) ∧ w.cell? ⟨b, o + 6, none⟩ = some (.slice e.vm.A e.vm.n e.vm.c)
theorem AtK.of {w : World} {b o : Nat} {e : KlV} (h : ShK.At w b o e) : AtK w b o e := ⟨h 0 (by decide), h 1 (by decide), h 2 (by decide), h 3 (by decide), h 4 (by decide), h 5 (by decide), h 6 (by decide)⟩
theorem AtK.ofW {W0 w : World} {b o : Nat} {e : KlV} (h : (ShKW W0).At w b o e) : AtK w b o e := AtK.of h
end Go.Proofs.YtkkfkjjmmdpafaaDoor
namespace Go.Proofs.YtkkfkjjmmdpafaaDoor
open Go.RowKit Go.ChangeShapes Go.WideShapes Go.Deep
set_option linter.unusedVariables false
section
variable {H : Type} {enc : TypeId × Value → H} {w : World}
theorem open_strG (fuel : Nat) (cs : List Value) (x : DataW H × List MemPlace) (h : DataW.trod enc Tryd.prog w 0 (fun _ => true) true fuel 9 cs = some x) (hl : Light 9 x.1) :
    ∃ y : ByteArray, cs = (ShS.vals y).toList ∧ ShS.nest w y ∧ y.size ≤ 140737488351232 := by
  obtain ⟨s, e, r, -⟩ := DataW.trod_string Tryd.underlying9 h
  exact ⟨s, e, trivial, light_str r hl⟩
structure KlOk (y : KlV) : Prop where
  nm : y.k.nm.size ≤ 140737488351232
  sup : y.k.sup.size ≤ 140737488351232
  ifs : ∀ x ∈ y.k.ifs, x.size ≤ 140737488351232
  len : y.k.ifs.length * 16 ≤ 140737488351232
set_option maxRecDepth 100000 in
theorem open_klG (fuel : Nat) (cs : List Value) (x : DataW H × List MemPlace) (h : DataW.trod enc Tryd.prog w 0 (fun _ => true) true fuel 36 cs = some x) (hl : Light 36 x.1) :
    ∃ y : KlV, cs = (ShK.vals y).toList ∧ ShK.nest w y ∧ KlOk y := by
  obtain ⟨ys, n', hn', hy, hlen, hyl, hf⟩ := DataW.trod_struct Tryd.underlying36 h
  have hc : cs.length = 7 := hlen.trans (by kernel_rfl)
  have k4 : Tryd.prog.cellsOf 4 = 1 := by kernel_rfl
  have k9 : Tryd.prog.cellsOf 9 = 1 := by kernel_rfl
  have kc : Tryd.prog.cellsOf 31 = 1 := by kernel_rfl
  have ks : Tryd.prog.cellsOf 32 = 1 := by kernel_rfl
  have kf : Tryd.prog.cellsOf 33 = 1 := by kernel_rfl
  have km : Tryd.prog.cellsOf 34 = 1 := by kernel_rfl
  match cs, hc with
  | [c0, c1, c2, c3, c4, c5, c6], _ =>
    have hyl' : ys.length = 7 := hyl
    clear hyl
    match ys, hyl' with
    | [y0, y1, y2, y3, y4, y5, y6], _ =>
      subst hy
      have h0 : DataW.trod enc Tryd.prog w 0 (fun _ => true) true n' 31 [c0] = some y0 := by simpa [kc] using hf 0 _ rfl
      have h1 : DataW.trod enc Tryd.prog w 0 (fun _ => true) true n' 9 [c1] = some y1 := by simpa [k9] using hf 1 _ rfl
      have h2 : DataW.trod enc Tryd.prog w 0 (fun _ => true) true n' 9 [c2] = some y2 := by simpa [k9] using hf 2 _ rfl
      have h3 : DataW.trod enc Tryd.prog w 0 (fun _ => true) true n' 4 [c3] = some y3 := by simpa [k4] using hf 3 _ rfl
      have h4 : DataW.trod enc Tryd.prog w 0 (fun _ => true) true n' 32 [c4] = some y4 := by simpa [ks] using hf 4 _ rfl
      have h5 : DataW.trod enc Tryd.prog w 0 (fun _ => true) true n' 33 [c5] = some y5 := by simpa [kf] using hf 5 _ rfl
      have h6 : DataW.trod enc Tryd.prog w 0 (fun _ => true) true n' 34 [c6] = some y6 := by simpa [km] using hf 6 _ rfl
      have one : ∀ {t e : TypeId} {n : Nat} {c : Value} {x : DataW H × List MemPlace}, Tryd.prog.underlying t = some (.slice e) → DataW.trod enc Tryd.prog w 0 (fun _ => true) true n t [c] = some x → ∃ s : Sl, c = .slice s.A s.n s.c := by
        intro t e n c x ht h
        rcases open_slice ht h with ⟨h1, _⟩ | ⟨a, len, cap, m, n, D, Pl, h1, _⟩
        · injection h1 with h1; exact ⟨sl0, h1⟩
        · injection h1 with h1; exact ⟨⟨some a, len, cap⟩, h1⟩
      obtain ⟨v0, rfl⟩ := one Tryd.underlying31 h0
      obtain ⟨v5, rfl⟩ := one Tryd.underlying33 h5
      obtain ⟨v6, rfl⟩ := one Tryd.underlying34 h6
      obtain ⟨x1, e1, r1, w1⟩ := DataW.trod_string Tryd.underlying9 h1
      have hs1 := light_str r1 (light_struct Tryd.underlying36 hl (j := 1) rfl rfl)
      obtain ⟨x2, e2, r2, w2⟩ := DataW.trod_string Tryd.underlying9 h2
      have hs2 := light_str r2 (light_struct Tryd.underlying36 hl (j := 2) rfl rfl)
      obtain ⟨x3, e3, r3⟩ := DataW.trod_bool Tryd.underlying4 h3
      obtain ⟨A4, n4, c4', l4, e4, q4, s4, z4, hq4⟩ := open_listG ShS (bytes := 16) (Q := fun y => y.size ≤ 140737488351232) Tryd.underlying32 (by kernel_rfl) (by kernel_rfl) open_strG h4 (light_struct Tryd.underlying36 hl (j := 4) rfl rfl)
      injection e1 with e1
      injection e2 with e2
      injection e3 with e3
      injection e4 with e4
      subst e1 e2 e3 e4
      exact ⟨⟨⟨x1, x2, x3, l4⟩, v0, ⟨A4, n4, c4'⟩, v5, v6⟩, rfl, s4, ⟨hs1, hs2, hq4, z4⟩⟩
theorem open_klsG {fuel : Nat} {cs : List Value} {x : DataW H × List MemPlace} (h : DataW.trod enc Tryd.prog w 0 (fun _ => true) true fuel 22 cs = some x) (hl : Light 22 x.1) :
    ∃ (A : Option Addr) (n c : Nat) (l : List KlV), cs = [.slice A n c] ∧ l.length = n ∧ ShK.Row w (.slice A n c) l ∧ l.length * 136 ≤ reachBytes ∧ ∀ y ∈ l, KlOk y :=
  open_listG ShK (bytes := 136) Tryd.underlying22 (by kernel_rfl) (by kernel_rfl) open_klG h hl
end
end Go.Proofs.YtkkfkjjmmdpafaaDoor
