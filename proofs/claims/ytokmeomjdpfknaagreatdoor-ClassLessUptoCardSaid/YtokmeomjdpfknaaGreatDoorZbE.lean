/- Several texts of this proof, one behind the other. -/
import Derived.Test.YtokmeomjdpfknaaGreatDoorZbA
import Derived.Test.YtokmeomjdpfknaaGreatDoorProg
import Derived.Laws.BytesArg
import Derived.Lib.SliceRun
import Derived.Lib.Bytes
import Derived.Laws.StructEq
import Derived.Deep.QuietTactic
import Derived.RegionTactic
namespace Go.Proofs.YtokmeomjdpfknaaGreatDoor
set_option linter.unusedVariables false

structure TyD where
  k : Int
  s : List UInt8
deriving DecidableEq
def t0D : TyD := ⟨0, []⟩
structure Pr where
  ret : TyD
  args : List TyD
deriving DecidableEq
def letter (c : UInt8) : Bool := (decide (97 ≤ c.toNat) && decide (c.toNat ≤ 122)) || (decide (65 ≤ c.toNat) && decide (c.toNat ≤ 90)) || decide (c.toNat = 95) || decide (c.toNat = 36)
def digit (c : UInt8) : Bool := decide (48 ≤ c.toNat) && decide (c.toNat ≤ 57)
def nameB : List UInt8 → Bool
  | [] => false
  | c :: r => letter c && (r.all fun c => letter c || digit c) && decide (r.length < 64)
def okT (t : TyD) : Bool := if t.k = 1 ∨ t.k = 2 ∨ t.k = 4 ∨ t.k = 5 then decide (t.s = []) else if t.k = 3 ∨ t.k = 6 then nameB t.s else false
def checkT (t : TyD) : Int := if okT t = true then 0 else 2
def okP (p : Pr) : Bool := (decide (p.ret = t0D) || okT p.ret) && p.args.all okT
def checkP (p : Pr) : Int := if 16 < p.args.length then 5 else if okP p = true then 0 else 2
def textT (t : TyD) : List UInt8 :=
  if t.k = 1 then [73] else if t.k = 2 then [74] else if t.k = 3 then 76 :: (t.s ++ [59]) else if t.k = 4 then [91, 73] else if t.k = 5 then [91, 74] else if t.k = 6 then 91 :: 76 :: (t.s ++ [59]) else [86]
def textP (p : Pr) : List UInt8 := 40 :: (p.args.flatMap textT ++ 41 :: textT p.ret)
def writeT (t : TyD) : List UInt8 × Int := if okT t = true then (textT t, 0) else ([], 2)
def writeP (p : Pr) : List UInt8 × Int := if checkP p = 0 then (textP p, 0) else ([], checkP p)
def semi : List UInt8 → Nat
  | [] => 0
  | c :: r => if c = 59 then 0 else semi r + 1
theorem semi_le : ∀ l : List UInt8, semi l ≤ l.length
  | [] => Nat.le_refl _
  | c :: r => by
    rw [semi]
    have := semi_le r
    split
    · omega
    · simp; omega
def takeA : List UInt8 → TyD × Nat
  | [] => (t0D, 0)
  | c :: r => if c = 73 then (⟨1, []⟩, 1) else if c = 74 then (⟨2, []⟩, 1)
    else if c = 76 then (if semi r < r.length ∧ nameB (r.take (semi r)) = true then (⟨3, r.take (semi r)⟩, semi r + 2) else (t0D, 0)) else (t0D, 0)
def takeT : List UInt8 → TyD × Nat
  | [] => (t0D, 0)
  | c :: r => if c = 91 then (if (takeA r).2 = 0 then (t0D, 0) else (⟨(takeA r).1.k + 3, (takeA r).1.s⟩, (takeA r).2 + 1)) else takeA (c :: r)
def typeZ (l : List UInt8) : TyD × Int := if (takeT l).2 = 0 ∨ (takeT l).2 < l.length then (t0D, 50) else ((takeT l).1, 0)
def prs : Nat → List UInt8 → Option (List TyD × List UInt8)
  | _, [] => none
  | 0, c :: r => if c = 41 then some ([], r) else none
  | f + 1, c :: r => if c = 41 then some ([], r) else if (takeT (c :: r)).2 = 0 then none else (prs f ((c :: r).drop (takeT (c :: r)).2)).map fun x => ((takeT (c :: r)).1 :: x.1, x.2)
def protoZ (l : List UInt8) : Pr × Int :=
  match l with
  | [] => (⟨t0D, []⟩, 50)
  | c :: r => if c = 40 then
      (match prs 16 r with
      | none => (⟨t0D, []⟩, 50)
      | some (ts, q) => if q = [86] then (⟨t0D, ts⟩, 0) else if (typeZ q).2 = 0 then (⟨(typeZ q).1, ts⟩, 0) else (⟨t0D, []⟩, 50))
    else (⟨t0D, []⟩, 50)

theorem name_semi : ∀ {l : List UInt8} (r : List UInt8), (∀ c ∈ l, c ≠ 59) → semi (l ++ 59 :: r) = l.length := by
  intro l
  induction l with
  | nil => intro r _; simp [semi]
  | cons c l ih =>
    intro r h
    rw [List.cons_append, semi, if_neg (h c (List.mem_cons_self ..)), ih r (fun d hd => h d (List.mem_cons_of_mem _ hd))]
    rfl
theorem letter_ne {c : UInt8} (h : letter c = true ∨ digit c = true) : c ≠ 59 := by
  rintro rfl
  revert h
  decide
theorem name_ne {l : List UInt8} (h : nameB l = true) : ∀ c ∈ l, c ≠ 59 := by
  match l with
  | [] => exact fun c hc => by cases hc
  | d :: r =>
    simp only [nameB, Bool.and_eq_true, List.all_eq_true, Bool.or_eq_true] at h
    intro c hc
    rcases List.mem_cons.1 hc with rfl | hc
    · exact letter_ne (.inl h.1.1)
    · exact letter_ne (h.1.2 c hc)
theorem name_len {l : List UInt8} (h : nameB l = true) : 0 < l.length ∧ l.length ≤ 64 := by
  match l with
  | [] => cases h
  | d :: r =>
    simp only [nameB, Bool.and_eq_true, decide_eq_true_eq] at h
    simp
    omega
theorem takeA_L {n : List UInt8} (h : nameB n = true) (r : List UInt8) : takeA (76 :: (n ++ 59 :: r)) = (⟨3, n⟩, n.length + 2) := by
  rw [takeA, if_neg (by decide), if_neg (by decide), if_pos rfl, name_semi r (name_ne h), List.take_left, if_pos ⟨by simp, h⟩]
theorem take_text {t : TyD} (h : okT t = true) (r : List UInt8) : takeT (textT t ++ r) = (t, (textT t).length) := by
  obtain ⟨k, s⟩ := t
  unfold okT at h
  simp only at h
  by_cases h1 : k = 1 ∨ k = 2 ∨ k = 4 ∨ k = 5
  · rw [if_pos h1] at h
    obtain rfl : s = [] := of_decide_eq_true h
    rcases h1 with rfl | rfl | rfl | rfl
    · rfl
    · rfl
    · rfl
    · rfl
  · rw [if_neg h1] at h
    by_cases h2 : k = 3 ∨ k = 6
    · rw [if_pos h2] at h
      have e := takeA_L h r
      rcases h2 with rfl | rfl
      · have et : textT ⟨3, s⟩ = 76 :: (s ++ [59]) := rfl
        rw [et, List.cons_append, List.append_assoc, takeT, if_neg (by decide)]
        simpa using e
      · have et : textT ⟨6, s⟩ = 91 :: 76 :: (s ++ [59]) := rfl
        rw [et, List.cons_append, List.cons_append, List.append_assoc, takeT, if_pos rfl]
        simp only [List.cons_append, List.nil_append]
        rw [e, if_neg (by simp)]
        simp
    · rw [if_neg h2] at h
      cases h
theorem semi_at : ∀ {l : List UInt8}, semi l < l.length → l = l.take (semi l) ++ 59 :: l.drop (semi l + 1) := by
  intro l
  induction l with
  | nil => intro h; simp at h
  | cons c r ih =>
    intro h
    rw [semi] at h ⊢
    by_cases hc : c = 59
    · rw [if_pos hc, hc]
      rfl
    · rw [if_neg hc] at h ⊢
      have := ih (by simpa using h)
      rw [List.take_succ_cons, List.drop_succ_cons, List.cons_append, ← this]
theorem takeA_back {l : List UInt8} (h : (takeA l).2 ≠ 0) : okT (takeA l).1 = true ∧ ((takeA l).1.k = 1 ∨ (takeA l).1.k = 2 ∨ (takeA l).1.k = 3) ∧ l = textT (takeA l).1 ++ l.drop (takeA l).2 ∧ (takeA l).2 = (textT (takeA l).1).length := by
  match l with
  | [] => exact absurd rfl h
  | c :: r =>
    rw [takeA] at h ⊢
    by_cases h1 : c = 73
    · rw [if_pos h1, h1]
      exact ⟨rfl, .inl rfl, rfl, rfl⟩
    · rw [if_neg h1] at h ⊢
      by_cases h2 : c = 74
      · rw [if_pos h2, h2]
        exact ⟨rfl, .inr (.inl rfl), rfl, rfl⟩
      · rw [if_neg h2] at h ⊢
        by_cases h3 : c = 76
        · rw [if_pos h3] at h ⊢
          by_cases h4 : semi r < r.length ∧ nameB (r.take (semi r)) = true
          · rw [if_pos h4, h3]
            refine ⟨?_, .inr (.inr rfl), ?_, ?_⟩
            · unfold okT
              rw [if_neg (by simp), if_pos (.inl rfl)]
              exact h4.2
            · have et : textT ⟨3, r.take (semi r)⟩ = 76 :: (r.take (semi r) ++ [59]) := rfl
              rw [et, List.drop_succ_cons, List.cons_append, List.append_assoc]
              exact congrArg _ (semi_at h4.1)
            · have et : textT ⟨3, r.take (semi r)⟩ = 76 :: (r.take (semi r) ++ [59]) := rfl
              rw [et]
              have := semi_le r
              simp only [List.length_cons, List.length_append, List.length_take, List.length_nil]
              omega
          · rw [if_neg h4] at h
            exact absurd rfl h
        · rw [if_neg h3] at h
          exact absurd rfl h
theorem take_back {l : List UInt8} (h : (takeT l).2 ≠ 0) : okT (takeT l).1 = true ∧ l = textT (takeT l).1 ++ l.drop (takeT l).2 ∧ (takeT l).2 = (textT (takeT l).1).length := by
  match l with
  | [] => exact absurd rfl h
  | c :: r =>
    rw [takeT] at h ⊢
    by_cases h1 : c = 91
    · rw [if_pos h1] at h ⊢
      by_cases h2 : (takeA r).2 = 0
      · rw [if_pos h2] at h
        exact absurd rfl h
      · rw [if_neg h2, h1]
        obtain ⟨g1, g2, g3, g4⟩ := takeA_back h2
        obtain ⟨X, hX⟩ : ∃ X, takeA r = X := ⟨_, rfl⟩
        rw [hX] at g1 g2 g3 g4 ⊢
        clear h h2 hX
        obtain ⟨⟨k, s⟩, n⟩ := X
        simp only at g1 g2 g3 g4 ⊢
        rcases g2 with rfl | rfl | rfl
        · have e : s = [] := of_decide_eq_true g1
          subst e
          exact ⟨rfl, by rw [List.drop_succ_cons]; exact congrArg _ g3, by rw [g4]; rfl⟩
        · have e : s = [] := of_decide_eq_true g1
          subst e
          exact ⟨rfl, by rw [List.drop_succ_cons]; exact congrArg _ g3, by rw [g4]; rfl⟩
        · exact ⟨g1, by rw [List.drop_succ_cons]; exact congrArg _ g3, by rw [g4]; rfl⟩
    · rw [if_neg h1] at h ⊢
      obtain ⟨g1, g2, g3, g4⟩ := takeA_back h
      exact ⟨g1, g3, g4⟩
theorem text_head {t : TyD} (h : okT t = true) : ∃ c r, textT t = c :: r ∧ c ≠ 41 := by
  obtain ⟨k, s⟩ := t
  unfold okT at h
  simp only at h
  by_cases h1 : k = 1 ∨ k = 2 ∨ k = 4 ∨ k = 5
  · rcases h1 with rfl | rfl | rfl | rfl
    · exact ⟨73, [], rfl, by decide⟩
    · exact ⟨74, [], rfl, by decide⟩
    · exact ⟨91, _, rfl, by decide⟩
    · exact ⟨91, _, rfl, by decide⟩
  · rw [if_neg h1] at h
    by_cases h2 : k = 3 ∨ k = 6
    · rcases h2 with rfl | rfl
      · exact ⟨76, _, rfl, by decide⟩
      · exact ⟨91, _, rfl, by decide⟩
    · rw [if_neg h2] at h
      cases h
theorem prs_text : ∀ {f : Nat} {ts : List TyD}, (∀ t ∈ ts, okT t = true) → ts.length ≤ f → ∀ q, prs f (ts.flatMap textT ++ 41 :: q) = some (ts, q) := by
  intro f ts
  induction ts generalizing f with
  | nil =>
    intro _ _ q
    cases f <;> simp [prs]
  | cons t ts ih =>
    intro h hl q
    have ht := h t (List.mem_cons_self ..)
    obtain ⟨c, r, hc, hne⟩ := text_head ht
    match f, hl with
    | f + 1, hl =>
      have e := take_text ht (ts.flatMap textT ++ 41 :: q)
      rw [List.flatMap_cons, List.append_assoc]
      have e2 : (textT t ++ (ts.flatMap textT ++ 41 :: q)).drop (textT t).length = ts.flatMap textT ++ 41 :: q := List.drop_left
      have e3 : 0 < (textT t).length := by rw [hc]; simp
      generalize hL : textT t ++ (ts.flatMap textT ++ 41 :: q) = L at e e2 ⊢
      have hL2 : L = c :: (r ++ (ts.flatMap textT ++ 41 :: q)) := by rw [← hL, hc]; rfl
      rw [hL2] at e e2 ⊢
      rw [prs, if_neg hne, e, if_neg (by simp only; omega)]
      simp only
      rw [e2, ih (fun u hu => h u (List.mem_cons_of_mem _ hu)) (by simpa using hl) q]
      rfl
theorem prs_back : ∀ {f : Nat} {l : List UInt8} {ts : List TyD} {q : List UInt8}, prs f l = some (ts, q) → l = ts.flatMap textT ++ 41 :: q ∧ (∀ t ∈ ts, okT t = true) ∧ ts.length ≤ f := by
  intro f
  induction f with
  | zero =>
    intro l ts q h
    match l with
    | [] => simp [prs] at h
    | c :: r =>
      rw [prs] at h
      split at h
      · rename_i hc
        injection h with h
        injection h with h1 h2
        subst h1 h2
        exact ⟨by rw [hc]; rfl, (fun t ht => by cases ht), Nat.le_refl _⟩
      · cases h
  | succ f ih =>
    intro l ts q h
    match l with
    | [] => simp [prs] at h
    | c :: r =>
      rw [prs] at h
      split at h
      · rename_i hc
        injection h with h
        injection h with h1 h2
        subst h1 h2
        exact ⟨by rw [hc]; rfl, (fun t ht => by cases ht), Nat.zero_le _⟩
      · split at h
        · cases h
        · rename_i hn
          obtain ⟨g1, g2, g3⟩ := take_back hn
          rw [Option.map_eq_some_iff] at h
          obtain ⟨⟨us, q'⟩, hx, he⟩ := h
          injection he with h1 h2
          simp only at h1 h2
          subst h1 h2
          obtain ⟨i1, i2, i3⟩ := ih hx
          refine ⟨?_, ?_, by simpa using i3⟩
          · rw [List.flatMap_cons, List.append_assoc, ← i1]
            exact g2
          · intro t ht
            rcases List.mem_cons.1 ht with rfl | ht
            · exact g1
            · exact i2 t ht
theorem type_text {t : TyD} (h : okT t = true) : typeZ (textT t) = (t, 0) := by
  have e := take_text h []
  rw [List.append_nil] at e
  obtain ⟨c, r, hc, _⟩ := text_head h
  unfold typeZ
  rw [e, if_neg]
  rintro (h1 | h1)
  · simp only at h1
    rw [hc] at h1
    simp at h1
  · simp at h1
theorem type_back {l : List UInt8} (h : (typeZ l).2 = 0) : okT (typeZ l).1 = true ∧ textT (typeZ l).1 = l := by
  unfold typeZ at h ⊢
  by_cases hc : (takeT l).2 = 0 ∨ (takeT l).2 < l.length
  · rw [if_pos hc] at h
    cases h
  · rw [if_neg hc]
    obtain ⟨g1, g2, g3⟩ := take_back (fun e => hc (.inl e))
    refine ⟨g1, ?_⟩
    rw [List.drop_eq_nil_iff.2 (by omega), List.append_nil] at g2
    exact g2.symm
theorem typeZ_err (l : List UInt8) : (typeZ l).2 = 0 ∨ typeZ l = (t0D, 50) := by
  unfold typeZ
  split
  · exact .inr rfl
  · exact .inl rfl
theorem text_notV {t : TyD} (h : okT t = true) : textT t ≠ [86] := by
  obtain ⟨k, s⟩ := t
  unfold okT at h
  simp only at h
  by_cases h1 : k = 1 ∨ k = 2 ∨ k = 4 ∨ k = 5
  · rcases h1 with rfl | rfl | rfl | rfl <;> simp [textT]
  · rw [if_neg h1] at h
    by_cases h2 : k = 3 ∨ k = 6
    · rcases h2 with rfl | rfl <;> simp [textT]
    · rw [if_neg h2] at h
      cases h
theorem proto_text {p : Pr} (h : checkP p = 0) : protoZ (textP p) = (p, 0) := by
  obtain ⟨ret, args⟩ := p
  unfold checkP at h
  simp only at h
  by_cases h16 : 16 < args.length
  · rw [if_pos h16] at h
    cases h
  · rw [if_neg h16] at h
    by_cases ho : okP ⟨ret, args⟩ = true
    · unfold okP at ho
      simp only [Bool.and_eq_true, Bool.or_eq_true, List.all_eq_true, decide_eq_true_eq] at ho
      obtain ⟨h1, h2⟩ := ho
      unfold textP protoZ
      simp only
      rw [if_pos trivial, prs_text h2 (by omega)]
      simp only
      rcases h1 with rfl | h1
      · rfl
      · rw [if_neg (text_notV h1), type_text h1]
        rfl
    · rw [if_neg ho] at h
      cases h
theorem proto_back {l : List UInt8} (h : (protoZ l).2 = 0) : checkP (protoZ l).1 = 0 ∧ textP (protoZ l).1 = l := by
  unfold protoZ at h ⊢
  match l with
  | [] => simp at h
  | c :: r =>
    simp only at h ⊢
    by_cases hc : c = 40
    · rw [if_pos hc] at h ⊢
      cases hp : prs 16 r with
      | none =>
        rw [hp] at h
        simp at h
      | some x =>
        obtain ⟨ts, q⟩ := x
        rw [hp] at h
        simp only at h ⊢
        obtain ⟨g1, g2, g3⟩ := prs_back hp
        have hall : ts.all okT = true := List.all_eq_true.2 g2
        by_cases hq : q = [86]
        · rw [if_pos hq]
          refine ⟨?_, ?_⟩
          · unfold checkP okP
            rw [if_neg (by simp only; omega)]
            simp [hall]
          · unfold textP
            rw [hc, g1, hq]
            rfl
        · rw [if_neg hq] at h ⊢
          by_cases ht : (typeZ q).2 = 0
          · rw [if_pos ht]
            obtain ⟨i1, i2⟩ := type_back ht
            refine ⟨?_, ?_⟩
            · unfold checkP okP
              rw [if_neg (by simp only; omega)]
              simp [hall, i1]
            · unfold textP
              simp only
              rw [hc, g1, i2]
          · rw [if_neg ht] at h
            cases h
    · rw [if_neg hc] at h
      cases h
theorem protoZ_err (l : List UInt8) : (protoZ l).2 = 0 ∨ protoZ l = (⟨t0D, []⟩, 50) := by
  unfold protoZ
  match l with
  | [] => exact .inr rfl
  | c :: r =>
    simp only
    split
    · split
      · exact .inr rfl
      · split
        · exact .inl rfl
        · split
          · exact .inl rfl
          · exact .inr rfl
    · exact .inr rfl
end Go.Proofs.YtokmeomjdpfknaaGreatDoor
namespace Go.Proofs.YtokmeomjdpfknaaGreatDoor
open Go.RowKit
set_option linter.unusedVariables false

def bs (l : List UInt8) : ByteArray := ⟨l.toArray⟩
def TyD.vals (t : TyD) : Array Value := #[.int .i64 t.k, .string (bs t.s)]

theorem nameB_long {l : List UInt8} (h : 64 < l.length) : nameB l = false := by
  match l with
  | [] => rfl
  | c :: r =>
    simp only [List.length_cons] at h
    simp only [nameB, Bool.and_eq_false_iff, decide_eq_false_iff_not]
    right
    omega
theorem run_bs {l : List UInt8} {k : Nat} (h : k < l.length) {c : UInt8} (hc : l[k] = c) (W : World) : (Instr.index 9 (.string (bs l)) (.int .i64 k)).run Tryz.prog W = .ok (.int .u8 c.toNat) W := by
  have hs : k < (bs l).size := h
  rw [run_index_string _ _ _ _ _ Tryz.underlying9, dif_pos ⟨by omega, by omega⟩]
  subst hc
  rfl
def okAt (c : UInt8) (k : Nat) : Bool := letter c || (digit c && decide (0 < k))
theorem nameB_at {l : List UInt8} : nameB l = true ↔ 0 < l.length ∧ l.length ≤ 64 ∧ ∀ j (h : j < l.length), okAt l[j] j = true := by
  match l with
  | [] => simp [nameB]
  | c :: r =>
    simp only [nameB, Bool.and_eq_true, List.all_eq_true, decide_eq_true_eq, List.length_cons]
    constructor
    · rintro ⟨⟨h1, h2⟩, h3⟩
      refine ⟨by omega, by omega, fun j hj => ?_⟩
      match j with
      | 0 => simp [okAt, h1]
      | j + 1 =>
        have := h2 r[j] (List.getElem_mem _)
        simpa [okAt] using this
    · rintro ⟨_, h2, h3⟩
      refine ⟨⟨?_, fun d hd => ?_⟩, by omega⟩
      · simpa [okAt] using h3 0 (by simp)
      · obtain ⟨j, hj, rfl⟩ := List.getElem_of_mem hd
        have hj' := hj
        have := h3 (j + 1) (by simpa using hj)
        rw [List.getElem_cons_succ] at this
        simpa [okAt] using this
theorem nameB_bad {l : List UInt8} {k : Nat} {c : UInt8} (h : k < l.length) (hc : l[k] = c) (hb : okAt c k = false) : nameB l = false := by
  cases hn : nameB l with
  | false => rfl
  | true =>
    have := (nameB_at.1 hn).2.2 k h
    rw [hc, hb] at this
    cases this
end Go.Proofs.YtokmeomjdpfknaaGreatDoor
namespace Go.Proofs.YtokmeomjdpfknaaGreatDoor
set_option linter.unusedVariables false

structure In where
  a : Int
  o : Int
  n : Int
  m : Int
  to : List Int
  ks : List Int
deriving DecidableEq
def i0 : In := ⟨0, 0, 0, 0, [], []⟩
def shapeZ (o : Int) : Int :=
  if 5 ≤ o ∧ o ≤ 10 then 1 else if o = 1 ∨ o = 2 then 2
  else if o = 3 ∨ (61 ≤ o ∧ o ≤ 65) ∨ o = 68 ∨ o = 76 ∨ o = 77 ∨ (79 ≤ o ∧ o ≤ 82) then 3
  else if 42 ≤ o ∧ o ≤ 58 then 4 else if o = 11 then 5 else if o = 59 then 6 else if o = 60 then 7 else 0
def endsZ (o : Int) : Bool := decide ((58 ≤ o ∧ o ≤ 60) ∨ o = 78 ∨ (83 ≤ o ∧ o ≤ 86))
theorem shapeZ_le (o : Int) : 0 ≤ shapeZ o ∧ shapeZ o ≤ 7 := by
  unfold shapeZ
  repeat' split
  all_goals omega
def be1 (n : Int) : List Int := [n % 256]
def be2 (n : Int) : List Int := [n / 256 % 256, n % 256]
def be4 (n : Int) : List Int := [n / 16777216 % 256, n / 65536 % 256, n / 256 % 256, n % 256]
def u1 (a : Int) : Int := a
def u2 (a b : Int) : Int := a * 256 + b
def u4 (a b c d : Int) : Int := ((a * 256 + b) * 256 + c) * 256 + d
def s1 (v : Int) : Int := if v < 128 then v else v - 256
def s2 (v : Int) : Int := if v < 32768 then v else v - 65536
def s4 (v : Int) : Int := if v < 2147483648 then v else v - 4294967296
def B8 (c : Int) : Prop := 0 ≤ c ∧ c < 256
theorem be1_u {n : Int} (h : 0 ≤ n ∧ n ≤ 255) : be1 n = [n] := by simp [be1]; omega
theorem s1_be {a : Int} (ha : B8 a) : be1 (s1 a) = [a] := by unfold be1 s1 B8 at *; split <;> simp <;> omega
theorem u2_be {a b : Int} (ha : B8 a) (hb : B8 b) : be2 (u2 a b) = [a, b] := by unfold be2 u2 B8 at *; simp; omega
theorem s2_be {a b : Int} (ha : B8 a) (hb : B8 b) : be2 (s2 (u2 a b)) = [a, b] := by unfold be2 s2 u2 B8 at *; split <;> simp <;> omega
theorem s4_be {a b c d : Int} (ha : B8 a) (hb : B8 b) (hc : B8 c) (hd : B8 d) : be4 (s4 (u4 a b c d)) = [a, b, c, d] := by unfold be4 s4 u4 B8 at *; split <;> simp <;> omega
theorem s1_in {a : Int} (ha : B8 a) : -128 ≤ s1 a ∧ s1 a ≤ 127 := by unfold s1 B8 at *; split <;> omega
theorem u2_in {a b : Int} (ha : B8 a) (hb : B8 b) : 0 ≤ u2 a b ∧ u2 a b ≤ 65535 := by unfold u2 B8 at *; omega
theorem s2_in {a b : Int} (ha : B8 a) (hb : B8 b) : -32768 ≤ s2 (u2 a b) ∧ s2 (u2 a b) ≤ 32767 := by unfold s2 u2 B8 at *; split <;> omega
theorem s4_in {a b c d : Int} (ha : B8 a) (hb : B8 b) (hc : B8 c) (hd : B8 d) : -2147483648 ≤ s4 (u4 a b c d) ∧ s4 (u4 a b c d) ≤ 2147483647 := by unfold s4 u4 B8 at *; split <;> omega
def mayTo (a t : Int) : Bool := decide (0 ≤ t ∧ t < 8192 ∧ -32768 ≤ t - a ∧ t - a ≤ 32767)
def isInt (n : Int) : Bool := decide (-2147483648 ≤ n ∧ n ≤ 2147483647)
def rise : List Int → Bool
  | [] => true
  | [k] => isInt k
  | k :: l :: r => isInt k && decide (k < l) && rise (l :: r)
def fieldsOk (x : In) : Bool :=
  let z := shapeZ x.o
  let n := if z = 1 ∨ z = 5 then decide (0 ≤ x.n ∧ x.n ≤ 255) else if z = 2 then decide (-32768 ≤ x.n ∧ x.n ≤ 32767) else if z = 3 then decide (0 ≤ x.n ∧ x.n ≤ 65535)
    else if z = 6 then decide (2 ≤ x.to.length ∧ x.to.length ≤ 1001) && isInt x.n && isInt (x.n + x.to.length - 2) else decide (x.n = 0)
  let m := if z = 5 then decide (-128 ≤ x.m ∧ x.m ≤ 127) else decide (x.m = 0)
  let t := if z = 4 then decide (x.to.length = 1) else if z = 6 then true else if z = 7 then decide (1 ≤ x.to.length ∧ x.to.length ≤ 1001) else decide (x.to = [])
  let k := if z = 7 then decide (x.ks.length + 1 = x.to.length) else decide (x.ks = [])
  n && m && t && k
def mayI (x : In) : Bool := decide (0 ≤ x.a ∧ x.a < 8192 ∧ 0 ≤ x.o ∧ x.o ≤ 89) && x.to.all (mayTo x.a) && fieldsOk x && rise x.ks
def tos (a : Int) : List Int → List Int
  | [] => []
  | t :: r => be2 (t - a) ++ tos a r
def kts (a : Int) : List Int → List Int → List Int
  | k :: ks, t :: r => be4 k ++ (be2 (t - a) ++ kts a ks r)
  | _, _ => []
def tailB (x : In) : List Int :=
  let z := shapeZ x.o
  if z = 1 then be1 x.n else if z = 2 ∨ z = 3 then be2 x.n else if z = 4 then be2 (x.to.headD 0 - x.a) else if z = 5 then be1 x.n ++ be1 x.m
  else if z = 6 then be2 (x.to.headD 0 - x.a) ++ (be4 x.n ++ (be2 (x.to.length - 1) ++ tos x.a x.to.tail))
  else if z = 7 then be2 (x.to.headD 0 - x.a) ++ (be2 x.ks.length ++ kts x.a x.ks x.to.tail) else []
def encB (x : In) : List Int := x.o :: tailB x
def rdTos (a : Int) : Nat → List Int → Option (List Int × List Int)
  | 0, l => some ([], l)
  | n + 1, p :: q :: l => (rdTos a n l).map fun x => ((a + s2 (u2 p q)) :: x.1, x.2)
  | _ + 1, _ => none
def rdKts (a : Int) : Nat → List Int → Option (List Int × List Int × List Int)
  | 0, l => some ([], [], l)
  | n + 1, b :: c :: d :: e :: p :: q :: l => (rdKts a n l).map fun x => (s4 (u4 b c d e) :: x.1, (a + s2 (u2 p q)) :: x.2.1, x.2.2)
  | _ + 1, _ => none
def body (a o : Int) (l : List Int) : Option (In × List Int) :=
  let z := shapeZ o
  if z = 1 then (match l with | p :: r => some (⟨a, o, p, 0, [], []⟩, r) | _ => none)
  else if z = 2 then (match l with | p :: q :: r => some (⟨a, o, s2 (u2 p q), 0, [], []⟩, r) | _ => none)
  else if z = 3 then (match l with | p :: q :: r => some (⟨a, o, u2 p q, 0, [], []⟩, r) | _ => none)
  else if z = 4 then (match l with | p :: q :: r => some (⟨a, o, 0, 0, [a + s2 (u2 p q)], []⟩, r) | _ => none)
  else if z = 5 then (match l with | p :: q :: r => some (⟨a, o, p, s1 q, [], []⟩, r) | _ => none)
  else if z = 6 then (match l with
    | p :: q :: b :: c :: d :: e :: f :: g :: r => (rdTos a (u2 f g).toNat r).map fun x => (⟨a, o, s4 (u4 b c d e), 0, (a + s2 (u2 p q)) :: x.1, []⟩, x.2)
    | _ => none)
  else if z = 7 then (match l with
    | p :: q :: f :: g :: r => (rdKts a (u2 f g).toNat r).map fun x => (⟨a, o, 0, 0, (a + s2 (u2 p q)) :: x.2.1, x.1⟩, x.2.2)
    | _ => none)
  else some (⟨a, o, 0, 0, [], []⟩, l)
def opsDec (b : List Int) (at' : Int) : In × Int × Int :=
  if at' < 0 ∨ (b.length : Int) ≤ at' ∨ 8192 ≤ at' then (i0, 0, 9)
  else match b.drop at'.toNat with
    | [] => (i0, 0, 9)
    | o :: l => if 89 < o then (i0, 0, 60) else match body at' o l with
      | none => (i0, 0, 3)
      | some (x, r) => if mayI x = true then (x, b.length - r.length, 0) else (i0, 0, 4)

theorem may_parts {x : In} (h : mayI x = true) : (0 ≤ x.a ∧ x.a < 8192 ∧ 0 ≤ x.o ∧ x.o ≤ 89) ∧ x.to.all (mayTo x.a) = true ∧ fieldsOk x = true ∧ rise x.ks = true := by
  unfold mayI at h
  rw [Bool.and_eq_true, Bool.and_eq_true, Bool.and_eq_true] at h
  exact ⟨of_decide_eq_true h.1.1.1, h.1.1.2, h.1.2, h.2⟩
theorem rdTos_back {a : Int} : ∀ {n : Nat} {l : List Int} {x : List Int × List Int}, (∀ c ∈ l, B8 c) → rdTos a n l = some x → x.1.length = n ∧ l = tos a x.1 ++ x.2 := by
  intro n
  induction n with
  | zero =>
    intro l x _ h
    injection h with h
    subst h
    exact ⟨rfl, rfl⟩
  | succ n ih =>
    intro l x hb h
    match l, h, hb with
    | p :: c :: l, h, hb =>
      simp only [rdTos] at h
      obtain ⟨y, hy, he⟩ := Option.map_eq_some_iff.1 h
      subst he
      obtain ⟨h1, h2⟩ := ih (fun z hz => hb z (List.mem_cons_of_mem _ (List.mem_cons_of_mem _ hz))) hy
      refine ⟨by simp [h1], ?_⟩
      have e : a + s2 (u2 p c) - a = s2 (u2 p c) := by omega
      rw [tos, e, s2_be (hb p (by simp)) (hb c (by simp))]
      simp only [List.cons_append, List.nil_append]
      rw [← h2]
theorem rdKts_back {a : Int} : ∀ {n : Nat} {l : List Int} {x : List Int × List Int × List Int}, (∀ c ∈ l, B8 c) → rdKts a n l = some x → x.1.length = n ∧ x.2.1.length = n ∧ l = kts a x.1 x.2.1 ++ x.2.2 := by
  intro n
  induction n with
  | zero =>
    intro l x _ h
    injection h with h
    subst h
    exact ⟨rfl, rfl, rfl⟩
  | succ n ih =>
    intro l x hb h
    match l, h, hb with
    | b :: c :: d :: e :: p :: q :: l, h, hb =>
      simp only [rdKts] at h
      obtain ⟨y, hy, he⟩ := Option.map_eq_some_iff.1 h
      subst he
      obtain ⟨h1, h2, h3⟩ := ih (fun z hz => hb z (by simp [hz])) hy
      refine ⟨by simp [h1], by simp [h2], ?_⟩
      have e2 : a + s2 (u2 p q) - a = s2 (u2 p q) := by omega
      rw [kts, e2, s2_be (hb p (by simp)) (hb q (by simp)), s4_be (hb b (by simp)) (hb c (by simp)) (hb d (by simp)) (hb e (by simp))]
      simp only [List.cons_append, List.nil_append]
      rw [← h3]
theorem body_back {a o : Int} {l : List Int} {x : In × List Int} (hb : ∀ c ∈ l, B8 c) (h : body a o l = some x) : x.1.a = a ∧ x.1.o = o ∧ l = tailB x.1 ++ x.2 := by
  unfold body at h
  simp only at h
  unfold tailB
  simp only
  obtain ⟨z, hz⟩ : ∃ z, z = shapeZ o := ⟨_, rfl⟩
  have hz7 := shapeZ_le o
  rw [← hz] at h
  have hc : z = 0 ∨ z = 1 ∨ z = 2 ∨ z = 3 ∨ z = 4 ∨ z = 5 ∨ z = 6 ∨ z = 7 := by omega
  have hzz := fun {y : In} (e : y.o = o) => (show shapeZ y.o = z by rw [e, hz])
  clear hz7
  rcases hc with hc | hc | hc | hc | hc | hc | hc | hc
  · rw [hc] at h
    simp at h
    subst h
    refine ⟨rfl, rfl, ?_⟩
    rw [hzz rfl, hc]
    simp
  · rw [hc] at h
    match l, h, hb with
    | p :: l, h, hb =>
      simp at h
      subst h
      refine ⟨rfl, rfl, ?_⟩
      rw [hzz rfl, hc]
      have := hb p (by simp)
      simp [be1_u (n := p) (by unfold B8 at this; omega)]
  · rw [hc] at h
    match l, h, hb with
    | p :: c :: l, h, hb =>
      simp at h
      subst h
      refine ⟨rfl, rfl, ?_⟩
      rw [hzz rfl, hc]
      simp [s2_be (hb p (by simp)) (hb c (by simp))]
  · rw [hc] at h
    match l, h, hb with
    | p :: c :: l, h, hb =>
      simp at h
      subst h
      refine ⟨rfl, rfl, ?_⟩
      rw [hzz rfl, hc]
      simp [u2_be (hb p (by simp)) (hb c (by simp))]
  · rw [hc] at h
    match l, h, hb with
    | p :: c :: l, h, hb =>
      simp at h
      subst h
      refine ⟨rfl, rfl, ?_⟩
      rw [hzz rfl, hc]
      have e : a + s2 (u2 p c) - a = s2 (u2 p c) := by omega
      simp [e, s2_be (hb p (by simp)) (hb c (by simp))]
  · rw [hc] at h
    match l, h, hb with
    | p :: c :: l, h, hb =>
      simp at h
      subst h
      refine ⟨rfl, rfl, ?_⟩
      rw [hzz rfl, hc]
      have := hb p (by simp)
      simp [be1_u (n := p) (by unfold B8 at this; omega), s1_be (hb c (by simp))]
  · rw [hc] at h
    match l, h, hb with
    | p :: c :: b :: d :: e :: f :: g :: i :: l, h, hb =>
      simp at h
      obtain ⟨y1, y2, hy, he⟩ := h
      subst he
      refine ⟨rfl, rfl, ?_⟩
      rw [hzz rfl, hc]
      obtain ⟨h1, h2⟩ := rdTos_back (fun z hz => hb z (by simp [hz])) hy
      have hu := u2_in (hb g (by simp)) (hb i (by simp))
      have e1 : a + s2 (u2 p c) - a = s2 (u2 p c) := by omega
      have e2 : (y1.length : Int) = u2 g i := by simp only at h1; omega
      simp only at h2
      simp [e1, e2, s2_be (hb p (by simp)) (hb c (by simp)), u2_be (hb g (by simp)) (hb i (by simp)), s4_be (hb b (by simp)) (hb d (by simp)) (hb e (by simp)) (hb f (by simp)), ← h2]
  · rw [hc] at h
    match l, h, hb with
    | p :: c :: f :: g :: l, h, hb =>
      simp at h
      obtain ⟨y1, y2, y3, hy, he⟩ := h
      subst he
      refine ⟨rfl, rfl, ?_⟩
      rw [hzz rfl, hc]
      obtain ⟨h1, h2, h3⟩ := rdKts_back (fun z hz => hb z (by simp [hz])) hy
      have hu := u2_in (hb f (by simp)) (hb g (by simp))
      have e1 : a + s2 (u2 p c) - a = s2 (u2 p c) := by omega
      have e2 : (y1.length : Int) = u2 f g := by simp only at h1; omega
      simp only at h3
      simp [e1, e2, s2_be (hb p (by simp)) (hb c (by simp)), u2_be (hb f (by simp)) (hb g (by simp)), ← h3]
theorem enc_dec {b : List Int} {k : Int} (hb : ∀ c ∈ b, B8 c) (h : (opsDec b k).2.2 = 0) : mayI (opsDec b k).1 = true ∧ 0 ≤ k ∧ (opsDec b k).1.a = k ∧ k < (opsDec b k).2.1 ∧ (opsDec b k).2.1 ≤ b.length ∧ encB (opsDec b k).1 = (b.drop k.toNat).take ((opsDec b k).2.1 - k).toNat := by
  unfold opsDec at h ⊢
  by_cases h1 : k < 0 ∨ (b.length : Int) ≤ k ∨ 8192 ≤ k
  · rw [if_pos h1] at h; cases h
  · rw [if_neg h1] at h ⊢
    have hbd : ∀ c ∈ b.drop k.toNat, B8 c := fun c hc => hb c (List.mem_of_mem_drop hc)
    have hld : (b.drop k.toNat).length = b.length - k.toNat := List.length_drop
    obtain ⟨d, hd⟩ : ∃ d, d = b.drop k.toNat := ⟨_, rfl⟩
    rw [← hd] at h hbd hld ⊢
    match d, h, hbd, hld with
    | [], h, _, _ => cases h
    | o :: l, h, hbd, hld =>
      simp only at h ⊢
      by_cases h2 : 89 < o
      · rw [if_pos h2] at h; cases h
      · rw [if_neg h2] at h ⊢
        cases hbo : body k o l with
        | none => rw [hbo] at h; cases h
        | some y =>
          obtain ⟨x, r⟩ := y
          rw [hbo] at h
          simp only at h ⊢
          by_cases h3 : mayI x = true
          · rw [if_pos h3]
            obtain ⟨e1, e2, e3⟩ := body_back (fun c hc => hbd c (List.mem_cons_of_mem _ hc)) hbo
            simp only at e1 e2 e3
            have hlen := congrArg List.length e3
            rw [List.length_append] at hlen
            rw [List.length_cons] at hld
            refine ⟨h3, by omega, e1, by simp only; omega, by simp only; omega, ?_⟩
            have hn : ((b.length : Int) - r.length - k).toNat = (tailB x).length + 1 := by omega
            simp only
            rw [hn, List.take_succ_cons, e3, List.take_left, encB, e2]
          · rw [if_neg h3] at h; cases h
end Go.Proofs.YtokmeomjdpfknaaGreatDoor
