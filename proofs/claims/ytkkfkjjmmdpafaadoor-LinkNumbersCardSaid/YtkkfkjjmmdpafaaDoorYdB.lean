/- Several texts of this proof, one behind the other. -/
import Derived.Laws.Strings
import Derived.Lib.Bytealg
namespace Go.Proofs.YtkkfkjjmmdpafaaDoor
set_option linter.unusedVariables false
set_option linter.unusedSectionVars false
section

def Srt {α : Type} (lt : α → α → Prop) (l : List α) : Prop := l.Pairwise lt
def Agr {α : Type} (c : α → α → Bool) (lt : α → α → Prop) (X Y : List α) : Prop := ∀ x, x ∈ X → ∀ y, y ∈ Y → (c y x = true → lt y x) ∧ (c y x = false → lt x y)
variable {α : Type} {c : α → α → Bool} {lt : α → α → Prop}
theorem Agr.perm {X Y X' Y' : List α} (h : Agr c lt X Y) (hx : ∀ x, x ∈ X' → x ∈ X) (hy : ∀ x, x ∈ Y' → x ∈ Y) : Agr c lt X' Y' := fun x h1 y h2 => h x (hx x h1) y (hy y h2)
theorem Srt.app {A B : List α} : Srt lt (A ++ B) ↔ Srt lt A ∧ Srt lt B ∧ ∀ a, a ∈ A → ∀ b, b ∈ B → lt a b := by unfold Srt; exact List.pairwise_append
theorem Srt.nil : Srt lt ([] : List α) := List.Pairwise.nil
theorem Srt.one (x : α) : Srt lt [x] := List.pairwise_singleton lt x
theorem ins_more {B : List α} {y x : α} (hB : ∀ b, b ∈ B → lt x b) (h : lt x y) : ∀ b, b ∈ y :: B → lt x b := by
  intro b hb
  rcases List.mem_cons.1 hb with rfl | hb
  · exact h
  · exact hB b hb
theorem ins_done {A B : List α} {x : α} (hs : Srt lt (A ++ B)) (hA : ∀ a, a ∈ A → lt a x) (hB : ∀ b, b ∈ B → lt x b) : Srt lt (A ++ x :: B) := by
  obtain ⟨h1, h2, h3⟩ := Srt.app.1 hs
  refine Srt.app.2 ⟨h1, List.pairwise_cons.2 ⟨hB, h2⟩, ?_⟩
  intro a ha b hb
  rcases List.mem_cons.1 hb with rfl | hb
  · exact hA a ha
  · exact h3 a ha b hb
theorem last_all {A B : List α} {y x : α} (tr : ∀ a b d, lt a b → lt b d → lt a d) (hs : Srt lt ((A ++ [y]) ++ B)) (h : lt y x) : ∀ a, a ∈ A ++ [y] → lt a x := by
  intro a ha
  rcases List.mem_append.1 ha with h1 | h1
  · exact tr _ _ _ ((Srt.app.1 (Srt.app.1 hs).1).2.2 a h1 y (List.mem_singleton.2 rfl)) h
  · rw [List.mem_singleton.1 h1]; exact h
theorem merge_glue {C D : List α} (h1 : Srt lt C) (h2 : Srt lt D) (h : ∀ x, x ∈ C → ∀ y, y ∈ D → lt x y) : Srt lt (C ++ D) := Srt.app.2 ⟨h1, h2, h⟩
theorem cut_all {L1 L2 R1 R2 : List α} (tr : ∀ a b d, lt a b → lt b d → lt a d)
    (hL : Srt lt (L1 ++ L2)) (hR : Srt lt (R1 ++ R2))
    (h1 : ∀ x y, L1.getLast? = some x → R2.head? = some y → lt x y) (h2 : ∀ x y, R1.getLast? = some x → L2.head? = some y → lt x y) :
    ∀ x, x ∈ L1 ++ R1 → ∀ y, y ∈ L2 ++ R2 → lt x y := by
  have go : ∀ {A B : List α} {P Q : List α}, Srt lt (A ++ P) → Srt lt (Q ++ B) → (∀ x y, A.getLast? = some x → B.head? = some y → lt x y) → ∀ x, x ∈ A → ∀ y, y ∈ B → lt x y := by
    intro A B P Q hA hB h x hx y hy
    rcases List.eq_nil_or_concat A with rfl | ⟨A', a, rfl⟩
    · cases hx
    rcases B with _ | ⟨b, B'⟩
    · cases hy
    have h0 := h a b (by simp) (by simp)
    have hx2 : x = a ∨ lt x a := by
      have hx3 : x ∈ A' ∨ x = a := by simpa using hx
      have hA2 : Srt lt (A' ++ [a]) := by simpa using (Srt.app.1 hA).1
      rcases hx3 with h3 | h3
      · exact .inr ((Srt.app.1 hA2).2.2 x h3 a (List.mem_singleton.2 rfl))
      · exact .inl h3
    have hy2 : b = y ∨ lt b y := by
      rcases List.mem_cons.1 hy with h3 | h3
      · exact .inl h3.symm
      · exact .inr ((List.pairwise_cons.1 (Srt.app.1 hB).2.1).1 y h3)
    have h4 : lt x b := by
      rcases hx2 with rfl | h5
      · exact h0
      · exact tr _ _ _ h5 h0
    rcases hy2 with rfl | h5
    · exact h4
    · exact tr _ _ _ h4 h5
  intro x hx y hy
  rcases List.mem_append.1 hx with hx | hx
  · rcases List.mem_append.1 hy with hy | hy
    · exact (Srt.app.1 hL).2.2 x hx y hy
    · exact go hL hR h1 x hx y hy
  · rcases List.mem_append.1 hy with hy | hy
    · exact go hR hL h2 x hx y hy
    · exact (Srt.app.1 hR).2.2 x hx y hy
theorem srt_unique (asy : ∀ a b, lt a b → ¬ lt b a) : ∀ {l m : List α}, Srt lt l → Srt lt m → l.Perm m → l = m
  | [], m, _, _, p => (List.nil_perm.1 p).symm
  | x :: l, [], _, _, p => by have := p.length_eq; simp at this
  | x :: l, y :: m, h1, h2, p => by
    have e : x = y := by
      have hx : x ∈ y :: m := p.mem_iff.1 (List.mem_cons_self ..)
      have hy : y ∈ x :: l := p.mem_iff.2 (List.mem_cons_self ..)
      rcases List.mem_cons.1 hx with e | hx
      · exact e
      rcases List.mem_cons.1 hy with e | hy
      · exact e.symm
      exact absurd ((List.pairwise_cons.1 h2).1 x hx) (asy _ _ ((List.pairwise_cons.1 h1).1 y hy))
    subst e
    rw [srt_unique asy (List.pairwise_cons.1 h1).2 (List.pairwise_cons.1 h2).2 (List.Perm.cons_inv p)]
theorem bs_low {B : List α} {x : α} {h : Nat} (tr : ∀ a b d, lt a b → lt b d → lt a d) (hs : Srt lt B) (hh : h < B.length) (hl : lt B[h] x) : ∀ y, y ∈ B.take (h + 1) → lt y x := by
  intro y hy
  have e : B.take (h + 1) = B.take h ++ [B[h]] := by simp
  have hs2 : Srt lt (B.take h ++ [B[h]]) := by rw [← e]; exact hs.sublist (List.take_sublist ..)
  rw [e] at hy
  rcases List.mem_append.1 hy with h1 | h1
  · exact tr _ _ _ ((Srt.app.1 hs2).2.2 y h1 _ (List.mem_singleton.2 rfl)) hl
  · rw [List.mem_singleton.1 h1]; exact hl
theorem bs_high {B : List α} {x : α} {h : Nat} (tr : ∀ a b d, lt a b → lt b d → lt a d) (hs : Srt lt B) (hh : h < B.length) (hl : lt x B[h]) : ∀ y, y ∈ B.drop h → lt x y := by
  intro y hy
  have e : B.drop h = B[h] :: B.drop (h + 1) := by simp
  have hs2 : Srt lt (B[h] :: B.drop (h + 1)) := by rw [← e]; exact hs.sublist (List.drop_sublist ..)
  rw [e] at hy
  rcases List.mem_cons.1 hy with h1 | h1
  · rw [h1]; exact hl
  · exact tr _ _ _ hl ((List.pairwise_cons.1 hs2).1 y h1)
structure SWO {β : Type} (cb : β → β → Bool) : Prop where
  irr : ∀ a, cb a a = false
  tr : ∀ a b d, cb a b = true → cb b d = true → cb a d = true
  ntr : ∀ a b d, cb a b = false → cb b d = false → cb a d = false
def tl {β : Type} (cb : β → β → Bool) (a b : β × Nat) : Prop := cb a.1 b.1 = true ∨ (cb b.1 a.1 = false ∧ a.2 < b.2)
section
variable {β : Type} {cb : β → β → Bool}
theorem SWO.as (h : SWO cb) {a b : β} (e : cb a b = true) : cb b a = false := by
  cases e2 : cb b a
  · rfl
  · have := h.tr _ _ _ e e2; rw [h.irr] at this; cases this
theorem SWO.ntr2 (h : SWO cb) {a b d : β} (e : cb a b = true) (e2 : cb d b = false) : cb a d = true := by
  cases e3 : cb a d
  · have := h.ntr _ _ _ e3 e2; rw [e] at this; cases this
  · rfl
theorem SWO.ntr3 (h : SWO cb) {a b d : β} (e : cb a b = false) (e2 : cb a d = true) : cb b d = true := by
  cases e3 : cb b d
  · have := h.ntr _ _ _ e e3; rw [e2] at this; cases this
  · rfl
theorem tl_tr (h : SWO cb) : ∀ a b d : β × Nat, tl cb a b → tl cb b d → tl cb a d := by
  intro a b d h1 h2
  unfold tl at *
  rcases h1 with h1 | ⟨h1, h3⟩
  · rcases h2 with h2 | ⟨h2, h4⟩
    · exact .inl (h.tr _ _ _ h1 h2)
    · exact .inl (h.ntr2 h1 h2)
  · rcases h2 with h2 | ⟨h2, h4⟩
    · exact .inl (h.ntr3 h1 h2)
    · exact .inr ⟨h.ntr _ _ _ h2 h1, by omega⟩
theorem tl_as (h : SWO cb) : ∀ a b : β × Nat, tl cb a b → ¬ tl cb b a := by
  intro a b h1 h2
  unfold tl at *
  rcases h1 with h1 | ⟨h1, h3⟩
  · rcases h2 with h2 | ⟨h2, h4⟩
    · have := h.as h1; rw [h2] at this; cases this
    · rw [h1] at h2; cases h2
  · rcases h2 with h2 | ⟨h2, h4⟩
    · rw [h1] at h2; cases h2
    · omega
theorem tl_of_lt {x y : β × Nat} (h : x.2 < y.2) : (cb y.1 x.1 = true → tl cb y x) ∧ (cb y.1 x.1 = false → tl cb x y) := ⟨fun e => .inl e, fun e => .inr ⟨e, h⟩⟩
theorem agr_tags {X Y : List (β × Nat)} (h : ∀ x, x ∈ X → ∀ y, y ∈ Y → x.2 < y.2) : Agr (fun a b => cb a.1 b.1) (tl cb) X Y := fun x hx y hy => tl_of_lt (h x hx y hy)
def insZ {γ : Type} (f : γ → γ → Bool) (x : γ) : List γ → List γ
  | [] => [x]
  | y :: l => if f x y then x :: y :: l else y :: insZ f x l
def sortZ {γ : Type} (f : γ → γ → Bool) (l : List γ) : List γ := l.foldl (fun out x => insZ f x out) []
theorem insZ_perm {γ : Type} (f : γ → γ → Bool) (x : γ) : ∀ l, (insZ f x l).Perm (x :: l)
  | [] => List.Perm.refl _
  | y :: l => by
    unfold insZ
    split
    · exact List.Perm.refl _
    · exact ((insZ_perm f x l).cons y).trans (List.Perm.swap x y l)
theorem insZ_map (x : β × Nat) : ∀ l : List (β × Nat), (insZ (fun a b => cb a.1 b.1) x l).map (·.1) = insZ cb x.1 (l.map (·.1))
  | [] => rfl
  | y :: l => by
    unfold insZ
    simp only [List.map_cons]
    split
    · rfl
    · simp only [List.map_cons]; rw [insZ_map x l]
theorem insZ_srt (h : SWO cb) (x : β × Nat) : ∀ l : List (β × Nat), Srt (tl cb) l → (∀ y, y ∈ l → y.2 < x.2) → Srt (tl cb) (insZ (fun a b => cb a.1 b.1) x l)
  | [], _, _ => Srt.one x
  | y :: l, hs, ht => by
    have h0 := tl_of_lt (cb := cb) (ht y (List.mem_cons_self ..))
    have hs2 := List.pairwise_cons.1 hs
    unfold insZ
    split
    · rename_i e
      have h1 := h0.1 e
      exact List.pairwise_cons.2 ⟨fun z hz => by rcases List.mem_cons.1 hz with e | hz; exact e ▸ h1; exact tl_tr h _ _ _ h1 (hs2.1 z hz), hs⟩
    · rename_i e
      have e' : cb x.1 y.1 = false := by simpa using e
      have h1 := h0.2 e'
      refine List.pairwise_cons.2 ⟨fun z hz => ?_, insZ_srt h x l hs2.2 (fun z hz => ht z (List.mem_cons_of_mem _ hz))⟩
      rcases List.mem_cons.1 ((insZ_perm _ x l).mem_iff.1 hz) with e | hz
      · exact e ▸ h1
      · exact hs2.1 z hz
theorem fold_ins (h : SWO cb) : ∀ (l out : List (β × Nat)), Srt (tl cb) out → (out ++ l).Pairwise (fun a b => a.2 < b.2) ∨ ((∀ y, y ∈ out → ∀ x, x ∈ l → y.2 < x.2) ∧ l.Pairwise (fun a b => a.2 < b.2)) →
    Srt (tl cb) (l.foldl (fun out x => insZ (fun a b => cb a.1 b.1) x out) out) ∧ (l.foldl (fun out x => insZ (fun a b => cb a.1 b.1) x out) out).Perm (l ++ out) ∧ (l.foldl (fun out x => insZ (fun a b => cb a.1 b.1) x out) out).map (·.1) = (l.map (·.1)).foldl (fun out x => insZ cb x out) (out.map (·.1))
  | [], out, hs, _ => ⟨hs, List.Perm.refl _, rfl⟩
  | x :: l, out, hs, ht => by
    have ht2 : (∀ y, y ∈ out → ∀ z, z ∈ x :: l → y.2 < z.2) ∧ (x :: l).Pairwise (fun a b => a.2 < b.2) := by
      rcases ht with ht | ht
      · have := List.pairwise_append.1 ht; exact ⟨this.2.2, this.2.1⟩
      · exact ht
    have hp := insZ_perm (fun a b : β × Nat => cb a.1 b.1) x out
    obtain ⟨q1, q2, q3⟩ := fold_ins h l (insZ (fun a b => cb a.1 b.1) x out) (insZ_srt h x out hs (fun y hy => ht2.1 y hy x (List.mem_cons_self ..))) (.inr ⟨fun y hy z hz => by
      rcases List.mem_cons.1 (hp.mem_iff.1 hy) with e | hy
      · exact e ▸ (List.pairwise_cons.1 ht2.2).1 z hz
      · exact ht2.1 y hy z (List.mem_cons_of_mem _ hz), (List.pairwise_cons.1 ht2.2).2⟩)
    refine ⟨q1, q2.trans ?_, ?_⟩
    · exact (hp.append_left l).trans (by simp)
    · rw [List.foldl_cons, q3, insZ_map]; rfl
theorem stable_eq (h : SWO cb) (l : List β) (T : List (β × Nat)) (hs : Srt (tl cb) T) (hp : T.Perm l.zipIdx) : T.map (·.1) = sortZ cb l := by
  have ht : (l.zipIdx).Pairwise (fun a b => a.2 < b.2) := by
    rw [List.pairwise_iff_getElem]
    intro i j hi hj hij
    simp
    exact hij
  obtain ⟨q1, q2, q3⟩ := fold_ins h l.zipIdx [] Srt.nil (.inr ⟨fun y hy => (by cases hy), ht⟩)
  rw [srt_unique (tl_as h) hs q1 (hp.trans (by simpa using q2.symm)), q3]
  unfold sortZ
  rw [List.map_nil]
  congr 1
  simp
end
end
def Tg {β : Type} (l : List (β × Nat)) : Prop := l.Pairwise (fun a b => a.2 < b.2)
theorem Tg.app {β : Type} {X Y : List (β × Nat)} (h : Tg (X ++ Y)) : Tg X ∧ Tg Y ∧ ∀ x, x ∈ X → ∀ y, y ∈ Y → x.2 < y.2 := List.pairwise_append.1 h
theorem tg_idx {β : Type} (l : List β) : Tg l.zipIdx := by
  unfold Tg
  rw [List.pairwise_iff_getElem]
  intro i j hi hj hij
  simp
  exact hij
def Sd {β : Type} (cb : β → β → Bool) (X C : List (β × Nat)) : Prop := Srt (tl cb) C ∧ C.Perm X
theorem Sd.agr {β : Type} {cb : β → β → Bool} {X Y C D : List (β × Nat)} (h : ∀ x, x ∈ X → ∀ y, y ∈ Y → x.2 < y.2) (hC : Sd cb X C) (hD : Sd cb Y D) : Agr (fun a b => cb a.1 b.1) (tl cb) C D :=
  agr_tags (fun x hx y hy => h x (hC.2.mem_iff.1 hx) y (hD.2.mem_iff.1 hy))
theorem Sd.nil {β : Type} {cb : β → β → Bool} : Sd cb [] [] := ⟨Srt.nil, List.Perm.refl _⟩
theorem Sd.eq_nil {β : Type} {cb : β → β → Bool} {C : List (β × Nat)} (h : Sd cb [] C) : C = [] := List.perm_nil.1 h.2
theorem Sd.len {β : Type} {cb : β → β → Bool} {X C : List (β × Nat)} (h : Sd cb X C) : C.length = X.length := h.2.length_eq
theorem Sd.join {β : Type} {cb : β → β → Bool} {X Y C D E : List (β × Nat)} (hC : Sd cb X C) (hD : Sd cb Y D) (hE : Srt (tl cb) E) (hp : E.Perm (C ++ D)) : Sd cb (X ++ Y) E := ⟨hE, hp.trans (hC.2.append hD.2)⟩
theorem Sd.one {β : Type} {cb : β → β → Bool} {X C : List (β × Nat)} (h : Sd cb X C) : Sd cb (X ++ []) C := by simpa using h
theorem sym_split {α : Type} {lt : α → α → Prop} {A B : List α} {i j : Nat} (tr : ∀ a b d, lt a b → lt b d → lt a d) (hA : Srt lt A) (hB : Srt lt B) (hi : i ≤ A.length) (hj : j ≤ B.length)
    (c1 : i = 0 ∨ j = B.length ∨ ∃ x y, A[i - 1]? = some x ∧ B[j]? = some y ∧ lt x y) (c2 : i = A.length ∨ j = 0 ∨ ∃ x y, B[j - 1]? = some x ∧ A[i]? = some y ∧ lt x y) :
    ∀ x, x ∈ A.take i ++ B.take j → ∀ y, y ∈ A.drop i ++ B.drop j → lt x y := by
  have last : ∀ (l : List α) (i : Nat) (x : α), i ≤ l.length → (l.take i).getLast? = some x → l[i - 1]? = some x := by
    intro l i x hi h
    rw [List.getLast?_eq_getElem?] at h
    have e : (l.take i).length = i := by simp; omega
    rw [e] at h
    rcases i with _ | i
    · simp at h
    · rw [show i + 1 - 1 = i by omega] at h ⊢
      rw [List.getElem?_take_of_lt (by omega)] at h
      exact h
  have head : ∀ (l : List α) (i : Nat) (y : α), (l.drop i).head? = some y → l[i]? = some y := by
    intro l i y h
    rw [List.head?_drop] at h
    exact h
  refine cut_all tr (by rw [List.take_append_drop]; exact hA) (by rw [List.take_append_drop]; exact hB) (fun x y h1 h2 => ?_) (fun x y h1 h2 => ?_)
  · have h1' := last A i x hi h1
    have h2' := head B j y h2
    rcases c1 with rfl | rfl | ⟨x', y', e1, e2, h⟩
    · simp at h1
    · simp at h2'
    · rw [h1'] at e1; rw [h2'] at e2
      injection e1 with e1; injection e2 with e2
      rw [e1, e2]; exact h
  · have h1' := last B j x hj h1
    have h2' := head A i y h2
    rcases c2 with rfl | rfl | ⟨x', y', e1, e2, h⟩
    · simp at h2'
    · simp at h1
    · rw [h1'] at e1; rw [h2'] at e2
      injection e1 with e1; injection e2 with e2
      rw [e1, e2]; exact h
def sw {α : Type} (P X Q Y S : List α) (i : Nat) : List α := P ++ (Y.take i ++ (X.drop i ++ (Q ++ (X.take i ++ (Y.drop i ++ S)))))
theorem sw_zero {α : Type} (P X Q Y S : List α) : sw P X Q Y S 0 = P ++ (X ++ (Q ++ (Y ++ S))) := by simp [sw]
theorem sw_all {α : Type} (P X Q Y S : List α) (n : Nat) (hX : X.length = n) (hY : Y.length = n) : sw P X Q Y S n = P ++ (Y ++ (Q ++ (X ++ S))) := by
  unfold sw
  rw [List.take_of_length_le (by omega), List.take_of_length_le (by omega), List.drop_of_length_le (by omega), List.drop_of_length_le (by omega)]
  simp
theorem sw_len {α : Type} (P X Q Y S : List α) (i : Nat) : (sw P X Q Y S i).length = P.length + (X.length + (Q.length + (Y.length + S.length))) := by
  unfold sw
  simp only [List.length_append, List.length_take, List.length_drop]
  omega
theorem sw_step {α : Type} (P X Q Y S : List α) (n i : Nat) (hX : X.length = n) (hY : Y.length = n) (hi : i < n) : ∃ x y, X[i]? = some x ∧ Y[i]? = some y ∧ (sw P X Q Y S i)[P.length + i]? = some x ∧ (sw P X Q Y S i)[P.length + n + Q.length + i]? = some y ∧
    ((sw P X Q Y S i).set (P.length + i) y).set (P.length + n + Q.length + i) x = sw P X Q Y S (i + 1) := by
  have hx : i < X.length := by omega
  have hy : i < Y.length := by omega
  refine ⟨X[i], Y[i], List.getElem?_eq_getElem hx, List.getElem?_eq_getElem hy, ?_⟩
  have e : sw P X Q Y S i = (P ++ Y.take i) ++ X[i] :: ((X.drop (i + 1) ++ (Q ++ X.take i)) ++ Y[i] :: (Y.drop (i + 1) ++ S)) := by
    unfold sw
    rw [List.drop_eq_getElem_cons hx, List.drop_eq_getElem_cons hy]
    simp only [List.append_assoc, List.cons_append]
  have l1 : (P ++ Y.take i).length = P.length + i := by simp; omega
  have l2 : (P ++ Y.take i).length + 1 + (X.drop (i + 1) ++ (Q ++ X.take i)).length = P.length + n + Q.length + i := by simp; omega
  rw [e]
  refine ⟨?_, ?_, ?_⟩
  · rw [List.getElem?_append_right (by omega), ← l1]; simp
  · rw [← l2, List.getElem?_append_right (by omega), show (P ++ Y.take i).length + 1 + (X.drop (i + 1) ++ (Q ++ X.take i)).length - (P ++ Y.take i).length = (X.drop (i + 1) ++ (Q ++ X.take i)).length + 1 by omega, List.getElem?_cons_succ, List.getElem?_append_right (by omega)]
    simp
  · rw [← l1, ← l2]
    have swf : ∀ (P Q S : List α) (x y : α), ((P ++ x :: (Q ++ y :: S)).set P.length y).set (P.length + 1 + Q.length) x = P ++ y :: (Q ++ x :: S) := by
      intro P Q S x y
      rw [List.set_append_right _ _ (by omega), List.set_append_right _ _ (by omega)]
      have e : P.length + 1 + Q.length - P.length = Q.length + 1 := by omega
      rw [e]
      simp
    rw [swf]
    unfold sw
    rw [List.take_succ_eq_append_getElem hy, List.take_succ_eq_append_getElem hx]
    simp only [List.append_assoc, List.cons_append, List.nil_append]
theorem sortZ_permF {γ : Type} (f : γ → γ → Bool) : ∀ (l out : List γ), (l.foldl (fun out x => insZ f x out) out).Perm (l ++ out)
  | [], out => List.Perm.refl _
  | x :: l, out => by
    rw [List.foldl_cons]
    exact (sortZ_permF f l _).trans (((insZ_perm f x out).append_left l).trans (by simp))
theorem sortZ_perm {γ : Type} (f : γ → γ → Bool) (l : List γ) : (sortZ f l).Perm l := by simpa [sortZ] using sortZ_permF f l []
end Go.Proofs.YtkkfkjjmmdpafaaDoor
namespace Go.Proofs.YtkkfkjjmmdpafaaDoor
set_option linter.unusedVariables false
set_option linter.unusedSectionVars false
open Go.Lib

theorem bl_irr : ∀ a : List UInt8, Op.bytesLess a a = false
  | [] => rfl
  | x :: a => by unfold Op.bytesLess; rw [bl_irr a]; simp
theorem bl_tr : ∀ a b d : List UInt8, Op.bytesLess a b = true → Op.bytesLess b d = true → Op.bytesLess a d = true
  | _, _, [], _, h => by unfold Op.bytesLess at h; cases h
  | _, [], _ :: _, h, _ => by unfold Op.bytesLess at h; cases h
  | [], _ :: _, _ :: _, _, _ => rfl
  | x :: a, y :: b, z :: d, h1, h2 => by
    unfold Op.bytesLess at h1 h2 ⊢
    simp only [Bool.or_eq_true, Bool.and_eq_true, decide_eq_true_eq, beq_iff_eq] at h1 h2 ⊢
    rcases h1 with h1 | ⟨rfl, h1⟩
    · rcases h2 with h2 | ⟨rfl, h2⟩
      · exact .inl (UInt8.lt_trans h1 h2)
      · exact .inl h1
    · rcases h2 with h2 | ⟨rfl, h2⟩
      · exact .inl h2
      · exact .inr ⟨rfl, bl_tr a b d h1 h2⟩
theorem bl_tot : ∀ a b : List UInt8, Op.bytesLess a b = false → Op.bytesLess b a = false → a = b
  | [], [], _, _ => rfl
  | [], _ :: _, h, _ => by unfold Op.bytesLess at h; cases h
  | _ :: _, [], _, h => by unfold Op.bytesLess at h; cases h
  | x :: a, y :: b, h1, h2 => by
    unfold Op.bytesLess at h1 h2
    simp only [Bool.or_eq_false_iff, Bool.and_eq_false_imp, decide_eq_false_iff_not, beq_iff_eq] at h1 h2
    have e : x = y := by
      rcases Nat.lt_trichotomy x.toNat y.toNat with h | h | h
      · exact absurd (UInt8.lt_iff_toNat_lt.2 h) h1.1
      · exact UInt8.toNat_inj.1 h
      · exact absurd (UInt8.lt_iff_toNat_lt.2 h) h2.1
    subst e
    rw [bl_tot a b (h1.2 rfl) (h2.2 rfl)]
theorem bl_cmp : ∀ a b : List UInt8, decide (compareBytes a b < 0) = Op.bytesLess a b
  | [], [] => rfl
  | [], _ :: _ => rfl
  | _ :: _, [] => rfl
  | x :: a, y :: b => by
    unfold compareBytes Op.bytesLess
    by_cases h : x < y
    · simp [h]
    · by_cases h2 : y < x
      · have : ¬ x = y := fun e => by subst e; exact h h2
        simp [h, h2, this]
      · have e : x = y := by
          rcases Nat.lt_trichotomy x.toNat y.toNat with h3 | h3 | h3
          · exact absurd (UInt8.lt_iff_toNat_lt.2 h3) h
          · exact UInt8.toNat_inj.1 h3
          · exact absurd (UInt8.lt_iff_toNat_lt.2 h3) h2
        subst e
        simp only [h, if_false, decide_false, Bool.false_or, beq_self_eq_true, Bool.true_and]
        exact bl_cmp a b
def nlt (a b : ByteArray) : Bool := Op.bytesLess a.toList b.toList
theorem nlt_irr (a : ByteArray) : nlt a a = false := bl_irr _
theorem nlt_ntr {a b d : ByteArray} (h1 : nlt a b = false) (h2 : nlt b d = false) : nlt a d = false := by
  unfold nlt at *
  cases e : Op.bytesLess a.toList d.toList
  · rfl
  · exfalso
    cases e2 : Op.bytesLess b.toList a.toList
    · have := bl_tot _ _ h1 e2
      rw [this] at e
      rw [h2] at e; cases e
    · have := bl_tr _ _ _ e2 e
      rw [h2] at this; cases this
theorem nlt_cmp (a b : ByteArray) : decide (compareBytes a.data.toList b.data.toList < 0) = nlt a b := by
  rw [bl_cmp, ← ByteArray.toList_eq, ← ByteArray.toList_eq]; rfl
end Go.Proofs.YtkkfkjjmmdpafaaDoor
