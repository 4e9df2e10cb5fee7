/- Types and protos as texts: plain mathematics, no program. -/
import Derived.Test.YtibcaienaejgpaaBase
namespace Go.Proofs.Ytibcaienaejgpaa
set_option linter.unusedVariables false

/-- A type: its kind, its class's name. -/
structure Ty where
  k : Int
  s : List UInt8
deriving DecidableEq
def t0 : Ty := ⟨0, []⟩
/-- A proto: what is answered, what is taken. -/
structure Pr where
  ret : Ty
  args : List Ty
deriving DecidableEq
def letter (c : UInt8) : Bool := (decide (97 ≤ c.toNat) && decide (c.toNat ≤ 122)) || (decide (65 ≤ c.toNat) && decide (c.toNat ≤ 90)) || decide (c.toNat = 95) || decide (c.toNat = 36)
def digit (c : UInt8) : Bool := decide (48 ≤ c.toNat) && decide (c.toNat ≤ 57)
/-- Is that a name? -/
def nameB : List UInt8 → Bool
  | [] => false
  | c :: r => letter c && (r.all fun c => letter c || digit c) && decide (r.length < 64)
/-- May a type be? -/
def okT (t : Ty) : Bool := if t.k = 1 ∨ t.k = 2 ∨ t.k = 4 ∨ t.k = 5 then decide (t.s = []) else if t.k = 3 ∨ t.k = 6 then nameB t.s else false
def checkT (t : Ty) : Int := if okT t = true then 0 else 2
/-- May a proto be? -/
def okP (p : Pr) : Bool := (decide (p.ret = t0) || okT p.ret) && p.args.all okT
def checkP (p : Pr) : Int := if 16 < p.args.length then 5 else if okP p = true then 0 else 2
/-- How a type is written. -/
def textT (t : Ty) : List UInt8 :=
  if t.k = 1 then [73] else if t.k = 2 then [74] else if t.k = 3 then 76 :: (t.s ++ [59]) else if t.k = 4 then [91, 73] else if t.k = 5 then [91, 74] else if t.k = 6 then 91 :: 76 :: (t.s ++ [59]) else [86]
def textP (p : Pr) : List UInt8 := 40 :: (p.args.flatMap textT ++ 41 :: textT p.ret)
def writeT (t : Ty) : List UInt8 × Int := if okT t = true then (textT t, 0) else ([], 2)
def writeP (p : Pr) : List UInt8 × Int := if checkP p = 0 then (textP p, 0) else ([], checkP p)
/-- How many bytes stand ahead of the first ';'. -/
def semi : List UInt8 → Nat
  | [] => 0
  | c :: r => if c = 59 then 0 else semi r + 1
theorem semi_le : ∀ l : List UInt8, semi l ≤ l.length
  | [] => Nat.le_refl _
  | c :: r => by
    rw [semi]
    have := semi_le r
    split
    · omega
    · simp; omega
/-- The type without [ that a text begins with, and how many bytes it has; 0: none. -/
def takeA : List UInt8 → Ty × Nat
  | [] => (t0, 0)
  | c :: r => if c = 73 then (⟨1, []⟩, 1) else if c = 74 then (⟨2, []⟩, 1)
    else if c = 76 then (if semi r < r.length ∧ nameB (r.take (semi r)) = true then (⟨3, r.take (semi r)⟩, semi r + 2) else (t0, 0)) else (t0, 0)
/-- The type that a text begins with. -/
def takeT : List UInt8 → Ty × Nat
  | [] => (t0, 0)
  | c :: r => if c = 91 then (if (takeA r).2 = 0 then (t0, 0) else (⟨(takeA r).1.k + 3, (takeA r).1.s⟩, (takeA r).2 + 1)) else takeA (c :: r)
def typeZ (l : List UInt8) : Ty × Int := if (takeT l).2 = 0 ∨ (takeT l).2 < l.length then (t0, 50) else ((takeT l).1, 0)
/-- Types up to a ')', so many at most; what stands behind it. -/
def prs : Nat → List UInt8 → Option (List Ty × List UInt8)
  | _, [] => none
  | 0, c :: r => if c = 41 then some ([], r) else none
  | f + 1, c :: r => if c = 41 then some ([], r) else if (takeT (c :: r)).2 = 0 then none else (prs f ((c :: r).drop (takeT (c :: r)).2)).map fun x => ((takeT (c :: r)).1 :: x.1, x.2)
def protoZ (l : List UInt8) : Pr × Int :=
  match l with
  | [] => (⟨t0, []⟩, 50)
  | c :: r => if c = 40 then
      (match prs 16 r with
      | none => (⟨t0, []⟩, 50)
      | some (ts, q) => if q = [86] then (⟨t0, ts⟩, 0) else if (typeZ q).2 = 0 then (⟨(typeZ q).1, ts⟩, 0) else (⟨t0, []⟩, 50))
    else (⟨t0, []⟩, 50)

theorem name_semi : ∀ {l : List UInt8} (r : List UInt8), (∀ c ∈ l, c ≠ 59) → semi (l ++ 59 :: r) = l.length := by
  intro l
  induction l with
  | nil => intro r _; simp [semi]
  | cons c l ih =>
    intro r h
    rw [List.cons_append, semi, if_neg (h c (List.mem_cons_self ..)), ih r (fun d hd => h d (List.mem_cons_of_mem _ hd))]
    rfl
theorem letter_ne {c : UInt8} (h : letter c = true ∨ digit c = true) : c ≠ 59 := by
  rintro rfl
  revert h
  decide
theorem name_ne {l : List UInt8} (h : nameB l = true) : ∀ c ∈ l, c ≠ 59 := by
  match l with
  | [] => exact fun c hc => by cases hc
  | d :: r =>
    simp only [nameB, Bool.and_eq_true, List.all_eq_true, Bool.or_eq_true] at h
    intro c hc
    rcases List.mem_cons.1 hc with rfl | hc
    · exact letter_ne (.inl h.1.1)
    · exact letter_ne (h.1.2 c hc)
theorem name_len {l : List UInt8} (h : nameB l = true) : 0 < l.length ∧ l.length ≤ 64 := by
  match l with
  | [] => cases h
  | d :: r =>
    simp only [nameB, Bool.and_eq_true, decide_eq_true_eq] at h
    simp
    omega
theorem takeA_L {n : List UInt8} (h : nameB n = true) (r : List UInt8) : takeA (76 :: (n ++ 59 :: r)) = (⟨3, n⟩, n.length + 2) := by
  rw [takeA, if_neg (by decide), if_neg (by decide), if_pos rfl, name_semi r (name_ne h), List.take_left, if_pos ⟨by simp, h⟩]
/-- What is written is taken as it was, whatever stands behind it. -/
theorem take_text {t : Ty} (h : okT t = true) (r : List UInt8) : takeT (textT t ++ r) = (t, (textT t).length) := by
  obtain ⟨k, s⟩ := t
  unfold okT at h
  simp only at h
  by_cases h1 : k = 1 ∨ k = 2 ∨ k = 4 ∨ k = 5
  · rw [if_pos h1] at h
    obtain rfl : s = [] := of_decide_eq_true h
    rcases h1 with rfl | rfl | rfl | rfl
    · rfl
    · rfl
    · rfl
    · rfl
  · rw [if_neg h1] at h
    by_cases h2 : k = 3 ∨ k = 6
    · rw [if_pos h2] at h
      have e := takeA_L h r
      rcases h2 with rfl | rfl
      · have et : textT ⟨3, s⟩ = 76 :: (s ++ [59]) := rfl
        rw [et, List.cons_append, List.append_assoc, takeT, if_neg (by decide)]
        simpa using e
      · have et : textT ⟨6, s⟩ = 91 :: 76 :: (s ++ [59]) := rfl
        rw [et, List.cons_append, List.cons_append, List.append_assoc, takeT, if_pos rfl]
        simp only [List.cons_append, List.nil_append]
        rw [e, if_neg (by simp)]
        simp
    · rw [if_neg h2] at h
      cases h
theorem semi_at : ∀ {l : List UInt8}, semi l < l.length → l = l.take (semi l) ++ 59 :: l.drop (semi l + 1) := by
  intro l
  induction l with
  | nil => intro h; simp at h
  | cons c r ih =>
    intro h
    rw [semi] at h ⊢
    by_cases hc : c = 59
    · rw [if_pos hc, hc]
      rfl
    · rw [if_neg hc] at h ⊢
      have := ih (by simpa using h)
      rw [List.take_succ_cons, List.drop_succ_cons, List.cons_append, ← this]
/-- What is taken may be, and is what stands there. -/
theorem takeA_back {l : List UInt8} (h : (takeA l).2 ≠ 0) : okT (takeA l).1 = true ∧ ((takeA l).1.k = 1 ∨ (takeA l).1.k = 2 ∨ (takeA l).1.k = 3) ∧ l = textT (takeA l).1 ++ l.drop (takeA l).2 ∧ (takeA l).2 = (textT (takeA l).1).length := by
  match l with
  | [] => exact absurd rfl h
  | c :: r =>
    rw [takeA] at h ⊢
    by_cases h1 : c = 73
    · rw [if_pos h1, h1]
      exact ⟨rfl, .inl rfl, rfl, rfl⟩
    · rw [if_neg h1] at h ⊢
      by_cases h2 : c = 74
      · rw [if_pos h2, h2]
        exact ⟨rfl, .inr (.inl rfl), rfl, rfl⟩
      · rw [if_neg h2] at h ⊢
        by_cases h3 : c = 76
        · rw [if_pos h3] at h ⊢
          by_cases h4 : semi r < r.length ∧ nameB (r.take (semi r)) = true
          · rw [if_pos h4, h3]
            refine ⟨?_, .inr (.inr rfl), ?_, ?_⟩
            · unfold okT
              rw [if_neg (by simp), if_pos (.inl rfl)]
              exact h4.2
            · have et : textT ⟨3, r.take (semi r)⟩ = 76 :: (r.take (semi r) ++ [59]) := rfl
              rw [et, List.drop_succ_cons, List.cons_append, List.append_assoc]
              exact congrArg _ (semi_at h4.1)
            · have et : textT ⟨3, r.take (semi r)⟩ = 76 :: (r.take (semi r) ++ [59]) := rfl
              rw [et]
              have := semi_le r
              simp only [List.length_cons, List.length_append, List.length_take, List.length_nil]
              omega
          · rw [if_neg h4] at h
            exact absurd rfl h
        · rw [if_neg h3] at h
          exact absurd rfl h
theorem take_back {l : List UInt8} (h : (takeT l).2 ≠ 0) : okT (takeT l).1 = true ∧ l = textT (takeT l).1 ++ l.drop (takeT l).2 ∧ (takeT l).2 = (textT (takeT l).1).length := by
  match l with
  | [] => exact absurd rfl h
  | c :: r =>
    rw [takeT] at h ⊢
    by_cases h1 : c = 91
    · rw [if_pos h1] at h ⊢
      by_cases h2 : (takeA r).2 = 0
      · rw [if_pos h2] at h
        exact absurd rfl h
      · rw [if_neg h2, h1]
        obtain ⟨g1, g2, g3, g4⟩ := takeA_back h2
        obtain ⟨X, hX⟩ : ∃ X, takeA r = X := ⟨_, rfl⟩
        rw [hX] at g1 g2 g3 g4 ⊢
        clear h h2 hX
        obtain ⟨⟨k, s⟩, n⟩ := X
        simp only at g1 g2 g3 g4 ⊢
        rcases g2 with rfl | rfl | rfl
        · have e : s = [] := of_decide_eq_true g1
          subst e
          exact ⟨rfl, by rw [List.drop_succ_cons]; exact congrArg _ g3, by rw [g4]; rfl⟩
        · have e : s = [] := of_decide_eq_true g1
          subst e
          exact ⟨rfl, by rw [List.drop_succ_cons]; exact congrArg _ g3, by rw [g4]; rfl⟩
        · exact ⟨g1, by rw [List.drop_succ_cons]; exact congrArg _ g3, by rw [g4]; rfl⟩
    · rw [if_neg h1] at h ⊢
      obtain ⟨g1, g2, g3, g4⟩ := takeA_back h
      exact ⟨g1, g3, g4⟩
theorem text_head {t : Ty} (h : okT t = true) : ∃ c r, textT t = c :: r ∧ c ≠ 41 := by
  obtain ⟨k, s⟩ := t
  unfold okT at h
  simp only at h
  by_cases h1 : k = 1 ∨ k = 2 ∨ k = 4 ∨ k = 5
  · rcases h1 with rfl | rfl | rfl | rfl
    · exact ⟨73, [], rfl, by decide⟩
    · exact ⟨74, [], rfl, by decide⟩
    · exact ⟨91, _, rfl, by decide⟩
    · exact ⟨91, _, rfl, by decide⟩
  · rw [if_neg h1] at h
    by_cases h2 : k = 3 ∨ k = 6
    · rcases h2 with rfl | rfl
      · exact ⟨76, _, rfl, by decide⟩
      · exact ⟨91, _, rfl, by decide⟩
    · rw [if_neg h2] at h
      cases h
theorem prs_text : ∀ {f : Nat} {ts : List Ty}, (∀ t ∈ ts, okT t = true) → ts.length ≤ f → ∀ q, prs f (ts.flatMap textT ++ 41 :: q) = some (ts, q) := by
  intro f ts
  induction ts generalizing f with
  | nil =>
    intro _ _ q
    cases f <;> simp [prs]
  | cons t ts ih =>
    intro h hl q
    have ht := h t (List.mem_cons_self ..)
    obtain ⟨c, r, hc, hne⟩ := text_head ht
    match f, hl with
    | f + 1, hl =>
      have e := take_text ht (ts.flatMap textT ++ 41 :: q)
      rw [List.flatMap_cons, List.append_assoc]
      have e2 : (textT t ++ (ts.flatMap textT ++ 41 :: q)).drop (textT t).length = ts.flatMap textT ++ 41 :: q := List.drop_left
      have e3 : 0 < (textT t).length := by rw [hc]; simp
      generalize hL : textT t ++ (ts.flatMap textT ++ 41 :: q) = L at e e2 ⊢
      have hL2 : L = c :: (r ++ (ts.flatMap textT ++ 41 :: q)) := by rw [← hL, hc]; rfl
      rw [hL2] at e e2 ⊢
      rw [prs, if_neg hne, e, if_neg (by simp only; omega)]
      simp only
      rw [e2, ih (fun u hu => h u (List.mem_cons_of_mem _ hu)) (by simpa using hl) q]
      rfl
theorem prs_back : ∀ {f : Nat} {l : List UInt8} {ts : List Ty} {q : List UInt8}, prs f l = some (ts, q) → l = ts.flatMap textT ++ 41 :: q ∧ (∀ t ∈ ts, okT t = true) ∧ ts.length ≤ f := by
  intro f
  induction f with
  | zero =>
    intro l ts q h
    match l with
    | [] => simp [prs] at h
    | c :: r =>
      rw [prs] at h
      split at h
      · rename_i hc
        injection h with h
        injection h with h1 h2
        subst h1 h2
        exact ⟨by rw [hc]; rfl, (fun t ht => by cases ht), Nat.le_refl _⟩
      · cases h
  | succ f ih =>
    intro l ts q h
    match l with
    | [] => simp [prs] at h
    | c :: r =>
      rw [prs] at h
      split at h
      · rename_i hc
        injection h with h
        injection h with h1 h2
        subst h1 h2
        exact ⟨by rw [hc]; rfl, (fun t ht => by cases ht), Nat.zero_le _⟩
      · split at h
        · cases h
        · rename_i hn
          obtain ⟨g1, g2, g3⟩ := take_back hn
          rw [Option.map_eq_some_iff] at h
          obtain ⟨⟨us, q'⟩, hx, he⟩ := h
          injection he with h1 h2
          simp only at h1 h2
          subst h1 h2
          obtain ⟨i1, i2, i3⟩ := ih hx
          refine ⟨?_, ?_, by simpa using i3⟩
          · rw [List.flatMap_cons, List.append_assoc, ← i1]
            exact g2
          · intro t ht
            rcases List.mem_cons.1 ht with rfl | ht
            · exact g1
            · exact i2 t ht
/-- A type's text, all of it. -/
theorem type_text {t : Ty} (h : okT t = true) : typeZ (textT t) = (t, 0) := by
  have e := take_text h []
  rw [List.append_nil] at e
  obtain ⟨c, r, hc, _⟩ := text_head h
  unfold typeZ
  rw [e, if_neg]
  rintro (h1 | h1)
  · simp only at h1
    rw [hc] at h1
    simp at h1
  · simp at h1
theorem type_back {l : List UInt8} (h : (typeZ l).2 = 0) : okT (typeZ l).1 = true ∧ textT (typeZ l).1 = l := by
  unfold typeZ at h ⊢
  by_cases hc : (takeT l).2 = 0 ∨ (takeT l).2 < l.length
  · rw [if_pos hc] at h
    cases h
  · rw [if_neg hc]
    obtain ⟨g1, g2, g3⟩ := take_back (fun e => hc (.inl e))
    refine ⟨g1, ?_⟩
    rw [List.drop_eq_nil_iff.2 (by omega), List.append_nil] at g2
    exact g2.symm
theorem typeZ_err (l : List UInt8) : (typeZ l).2 = 0 ∨ typeZ l = (t0, 50) := by
  unfold typeZ
  split
  · exact .inr rfl
  · exact .inl rfl
theorem text_notV {t : Ty} (h : okT t = true) : textT t ≠ [86] := by
  obtain ⟨k, s⟩ := t
  unfold okT at h
  simp only at h
  by_cases h1 : k = 1 ∨ k = 2 ∨ k = 4 ∨ k = 5
  · rcases h1 with rfl | rfl | rfl | rfl <;> simp [textT]
  · rw [if_neg h1] at h
    by_cases h2 : k = 3 ∨ k = 6
    · rcases h2 with rfl | rfl <;> simp [textT]
    · rw [if_neg h2] at h
      cases h
theorem proto_text {p : Pr} (h : checkP p = 0) : protoZ (textP p) = (p, 0) := by
  obtain ⟨ret, args⟩ := p
  unfold checkP at h
  simp only at h
  by_cases h16 : 16 < args.length
  · rw [if_pos h16] at h
    cases h
  · rw [if_neg h16] at h
    by_cases ho : okP ⟨ret, args⟩ = true
    · unfold okP at ho
      simp only [Bool.and_eq_true, Bool.or_eq_true, List.all_eq_true, decide_eq_true_eq] at ho
      obtain ⟨h1, h2⟩ := ho
      unfold textP protoZ
      simp only
      rw [if_pos trivial, prs_text h2 (by omega)]
      simp only
      rcases h1 with rfl | h1
      · rfl
      · rw [if_neg (text_notV h1), type_text h1]
        rfl
    · rw [if_neg ho] at h
      cases h
theorem proto_back {l : List UInt8} (h : (protoZ l).2 = 0) : checkP (protoZ l).1 = 0 ∧ textP (protoZ l).1 = l := by
  unfold protoZ at h ⊢
  match l with
  | [] => simp at h
  | c :: r =>
    simp only at h ⊢
    by_cases hc : c = 40
    · rw [if_pos hc] at h ⊢
      cases hp : prs 16 r with
      | none =>
        rw [hp] at h
        simp at h
      | some x =>
        obtain ⟨ts, q⟩ := x
        rw [hp] at h
        simp only at h ⊢
        obtain ⟨g1, g2, g3⟩ := prs_back hp
        have hall : ts.all okT = true := List.all_eq_true.2 g2
        by_cases hq : q = [86]
        · rw [if_pos hq]
          refine ⟨?_, ?_⟩
          · unfold checkP okP
            rw [if_neg (by simp only; omega)]
            simp [hall]
          · unfold textP
            rw [hc, g1, hq]
            rfl
        · rw [if_neg hq] at h ⊢
          by_cases ht : (typeZ q).2 = 0
          · rw [if_pos ht]
            obtain ⟨i1, i2⟩ := type_back ht
            refine ⟨?_, ?_⟩
            · unfold checkP okP
              rw [if_neg (by simp only; omega)]
              simp [hall, i1]
            · unfold textP
              simp only
              rw [hc, g1, i2]
          · rw [if_neg ht] at h
            cases h
    · rw [if_neg hc] at h
      cases h
theorem protoZ_err (l : List UInt8) : (protoZ l).2 = 0 ∨ protoZ l = (⟨t0, []⟩, 50) := by
  unfold protoZ
  match l with
  | [] => exact .inr rfl
  | c :: r =>
    simp only
    split
    · split
      · exact .inr rfl
      · split
        · exact .inl rfl
        · split
          · exact .inl rfl
          · exact .inr rfl
    · exact .inr rfl
/-- No type's text is the beginning of another one's. -/
theorem text_apart {a b : Ty} (ha : okT a = true) (hb : okT b = true) (h : textT b <+: textT a) : a = b := by
  obtain ⟨r, hr⟩ := h
  have e1 := take_text ha []
  rw [List.append_nil] at e1
  have e2 := take_text hb r
  rw [hr, e1] at e2
  exact congrArg Prod.fst e2
/-- No text is a type's and a proto's. -/
theorem not_both {l : List UInt8} (h : (typeZ l).2 = 0) : (protoZ l).2 ≠ 0 := by
  intro h2
  obtain ⟨h3, h4⟩ := type_back h
  obtain ⟨h5, h6⟩ := proto_back h2
  have h7 : textT (typeZ l).1 = textP (protoZ l).1 := h4.trans h6.symm
  obtain ⟨X, hX⟩ : ∃ X, (typeZ l).1 = X := ⟨_, rfl⟩
  rw [hX] at h3 h7
  obtain ⟨k, s⟩ := X
  unfold textP at h7
  unfold okT at h3
  simp only at h3
  by_cases h1 : k = 1 ∨ k = 2 ∨ k = 4 ∨ k = 5
  · rcases h1 with rfl | rfl | rfl | rfl <;> simp [textT] at h7
  · rw [if_neg h1] at h3
    by_cases h2 : k = 3 ∨ k = 6
    · rcases h2 with rfl | rfl <;> simp [textT] at h7
    · rw [if_neg h2] at h3
      cases h3
end Go.Proofs.Ytibcaienaejgpaa
