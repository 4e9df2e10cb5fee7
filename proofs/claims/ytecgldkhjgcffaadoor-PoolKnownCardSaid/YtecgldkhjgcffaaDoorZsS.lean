/- Several texts of this proof, one behind the other. -/
import Derived.Test.YtecgldkhjgcffaaDoorZsR
import Derived.Test.YtecgldkhjgcffaaDoorZsP
import Derived.Test.YtecgldkhjgcffaaDoorZsK
import Derived.Test.YtecgldkhjgcffaaDoorZsA
/- A reader of bytes: the document's, walked: one constant. -/
namespace Go.Proofs.YtecgldkhjgcffaaDoor
open Go.RowKit
set_option linter.unusedVariables false

/-- What taking a constant off leaves: it, what is left, the first error. -/
def rdOne (l : List Int) : Cst × List Int × Int :=
  if l = [] then (c0, [], 3)
  else if gi l 0 = 1 then (⟨1, (rdT (l.drop 1) 0).1, 0, 0, 0, 0⟩, (rdT (l.drop 1) 0).2)
  else if gi l 0 = 2 ∨ gi l 0 = 3 then (⟨gi l 0, .empty, (rdS (l.drop 1) 0).1, 0, 0, 0⟩, (rdS (l.drop 1) 0).2)
  else if gi l 0 = 4 then (⟨4, .empty, 0, (rdU (l.drop 1) 0).1, 0, 0⟩, (rdU (l.drop 1) 0).2)
  else if gi l 0 = 5 ∨ gi l 0 = 6 then
    (⟨gi l 0, .empty, 0, (rdU (l.drop 1) 0).1, (rdU (rdU (l.drop 1) 0).2.1 (rdU (l.drop 1) 0).2.2).1, (rdU (rdU (rdU (l.drop 1) 0).2.1 (rdU (l.drop 1) 0).2.2).2.1 (rdU (rdU (l.drop 1) 0).2.1 (rdU (l.drop 1) 0).2.2).2.2).1⟩,
      (rdU (rdU (rdU (l.drop 1) 0).2.1 (rdU (l.drop 1) 0).2.2).2.1 (rdU (rdU (l.drop 1) 0).2.1 (rdU (l.drop 1) 0).2.2).2.2).2)
  else (⟨gi l 0, .empty, 0, 0, 0, 0⟩, l.drop 1, 4)

/-- All but two blocks are as they were. -/
def Far (s : Nat) (w w' : World) : Prop := w'.os = w.os ∧ w'.tape = w.tape ∧ w'.output = w.output ∧ w'.heap.size = w.heap.size ∧ ∀ i, i ≠ s → i ≠ s + 1 → w'.heap[i]? = w.heap[i]?
theorem Far.refl (s : Nat) (w : World) : Far s w w := ⟨rfl, rfl, rfl, rfl, fun _ _ _ => rfl⟩
theorem Far.set {s : Nat} {w w' : World} (h : Far s w w') {q : Addr} (hq : q.block = s ∨ q.block = s + 1) (u : Value) : Far s w (w'.setCell q u) := by
  obtain ⟨h1, h2, h3, h4, h5⟩ := h
  refine ⟨h1, h2, h3, by simpa [World.setCell] using h4, fun i hi hj => ?_⟩
  rw [Below.heap_setCell w' q u i (by rcases hq with hq | hq <;> omega)]
  exact h5 i hi hj
end Go.Proofs.YtecgldkhjgcffaaDoor
/- Reading constants: plain mathematics: what is left is an end of what there was; numbers, room. -/
namespace Go.Proofs.YtecgldkhjgcffaaDoor
open Go.RowKit
set_option linter.unusedVariables false

theorem Fit.suf {k : IntKind} {l m : List Int} (h : Fit k l) (hs : m <:+ l) : Fit k m := fun x hx => h x (hs.subset hx)
theorem tU_suf (l : List Int) : (tU l).2.1 <:+ l := by
  by_cases h : (tU l).2.2 = 0
  · exact ⟨_, (tU_ok h).2⟩
  · rw [(tU_err h).2]
    exact List.nil_suffix
theorem tS_suf (m : Nat) (wy : Int) (l : List Int) : (tS m wy l).2.1 <:+ l := by
  by_cases h : (tS m wy l).2.2 = 0
  · exact ⟨_, tS_ok h⟩
  · rw [(tS_err h).2.1]
    exact List.nil_suffix
theorem rdU_suf (l : List Int) (e : Int) : (rdU l e).2.1 <:+ l := by
  unfold rdU
  split
  · exact tU_suf l
  · exact List.suffix_refl l
theorem rdS_suf (l : List Int) (e : Int) : (rdS l e).2.1 <:+ l := by
  unfold rdS
  split
  · exact tS_suf 10 2 l
  · exact List.suffix_refl l
theorem rdT_suf (l : List Int) (e : Int) : (rdT l e).2.1 <:+ l := by
  unfold rdT
  split
  · exact rdU_suf l e
  · split
    · exact rdU_suf l e
    · exact (List.drop_suffix _ _).trans (rdU_suf l e)
theorem rdOne_suf (l : List Int) : (rdOne l).2.1 <:+ l := by
  unfold rdOne
  have h1 : l.drop 1 <:+ l := List.drop_suffix 1 l
  split
  · exact List.nil_suffix
  · split
    · exact (rdT_suf _ _).trans h1
    · split
      · exact (rdS_suf _ _).trans h1
      · split
        · exact (rdU_suf _ _).trans h1
        · split
          · exact (rdU_suf _ _).trans ((rdU_suf _ _).trans ((rdU_suf _ _).trans h1))
          · exact h1
theorem rdU_rng (l : List Int) (e : Int) : 0 ≤ (rdU l e).1 ∧ (rdU l e).1 ≤ 9007199254740991 := by
  by_cases h : (rdU l e).2.2 = 0
  · exact rdU_pos h
  · unfold rdU at h ⊢
    by_cases he : e = 0
    · rw [if_pos he] at h ⊢
      rw [(tU_err h).1]
      omega
    · rw [if_neg he]
      simp
theorem rdU_i64 (l : List Int) (e : Int) : I64 (rdU l e).1 := by
  have := rdU_rng l e
  exact ⟨by omega, by omega⟩
theorem rdS_i64 {l : List Int} (hf : Fit .u8 l) (e : Int) : I64 (rdS l e).1 := by
  unfold rdS
  split
  · exact tS_range hf
  · exact i64_zero
theorem rdOne_ok {l : List Int} (hf : Fit .u8 l) : (rdOne l).1.ok := by
  have hg : I64 (gi l 0) := by
    have := hf.gi 0
    exact ⟨by omega, by omega⟩
  have h1 := hf.suf (List.drop_suffix 1 l)
  unfold rdOne
  split
  · exact c0_ok
  · split
    · exact ⟨⟨by simp, by simp⟩, i64_zero, i64_zero, i64_zero, i64_zero⟩
    · split
      · exact ⟨hg, rdS_i64 h1 _, i64_zero, i64_zero, i64_zero⟩
      · split
        · exact ⟨⟨by simp, by simp⟩, i64_zero, rdU_i64 _ _, i64_zero, i64_zero⟩
        · split
          · exact ⟨hg, i64_zero, rdU_i64 _ _, rdU_i64 _ _, rdU_i64 _ _⟩
          · exact ⟨hg, i64_zero, i64_zero, i64_zero, i64_zero⟩
/-- A text has room, as it was read off so many bytes. -/
def Fits (t : ByteArray) (n : Nat) : Prop := t.size ≤ n ∧ (encZ t.data.toList).length ≤ n
theorem fits_empty (n : Nat) : Fits .empty n := ⟨Nat.zero_le _, by
  have : encZ (ByteArray.empty).data.toList = [] := rfl
  rw [this]
  exact Nat.zero_le _⟩
theorem Fits.le {t : ByteArray} {n m : Nat} (h : Fits t n) (hm : n ≤ m) : Fits t m := ⟨Nat.le_trans h.1 hm, Nat.le_trans h.2 hm⟩
theorem decT_fits {p : List Int} (hf : Fit .u8 p) : Fits (decT p).1 p.length := by
  unfold decT
  split
  · rename_i h
    obtain ⟨_, h2, h3⟩ := dec_back hf h _ rfl
    exact ⟨h3, by rw [h2]; exact Nat.le_refl _⟩
  · exact fits_empty _
theorem rdT_fits {l : List Int} (hf : Fit .u8 l) (e : Int) : Fits (rdT l e).1 l.length := by
  unfold rdT
  split
  · exact fits_empty _
  · split
    · exact fits_empty _
    · refine (decT_fits ((hf.suf (rdU_suf l e)).take _)).le ?_
      have := (rdU_suf l e).length_le
      simp only [List.length_take]
      omega
theorem rdOne_fits {l : List Int} (hf : Fit .u8 l) : Fits (rdOne l).1.t l.length := by
  unfold rdOne
  split
  · exact fits_empty _
  · split
    · exact (rdT_fits (hf.suf (List.drop_suffix 1 l)) 0).le (by simp)
    · split
      · exact fits_empty _
      · split
        · exact fits_empty _
        · split
          · exact fits_empty _
          · exact fits_empty _

/-- What is read in so many rounds: constants, what is left, the first error. -/
def rdList (p : List Int) (e : Int) : Nat → List Cst × List Int × Int
  | 0 => ([], p, e)
  | k + 1 => if (rdList p e k).2.2 = 0 then (if k = 0 then ([c0], (rdList p e k).2) else ((rdList p e k).1 ++ [(rdOne (rdList p e k).2.1).1], (rdOne (rdList p e k).2.1).2)) else rdList p e k
theorem rdList_zero (p : List Int) (e : Int) : rdList p e 0 = ([], p, e) := rfl
theorem rdList_first (p : List Int) : rdList p 0 1 = ([c0], p, 0) := by simp [rdList]
theorem rdList_next {p : List Int} {e : Int} {k : Nat} (hk : 1 ≤ k) (h : (rdList p e k).2.2 = 0) : rdList p e (k + 1) = ((rdList p e k).1 ++ [(rdOne (rdList p e k).2.1).1], (rdOne (rdList p e k).2.1).2) := by
  rw [rdList, if_pos h, if_neg (by omega)]
theorem rdList_past {p : List Int} {e : Int} {k : Nat} (h : ¬ (rdList p e k).2.2 = 0) : ∀ m, k ≤ m → rdList p e m = rdList p e k := by
  intro m hm
  induction m with
  | zero => rw [show k = 0 by omega]
  | succ m ih =>
    by_cases hk : k = m + 1
    · rw [hk]
    · have := ih (by omega)
      rw [rdList, this, if_neg h]
theorem rdList_len {p : List Int} {e : Int} : ∀ {k : Nat}, (rdList p e k).2.2 = 0 → (rdList p e k).1.length = k := by
  intro k
  induction k with
  | zero => exact fun _ => rfl
  | succ k ih =>
    intro h
    rw [rdList] at h ⊢
    by_cases h0 : (rdList p e k).2.2 = 0
    · rw [if_pos h0] at h ⊢
      by_cases hk : k = 0
      · rw [if_pos hk, hk]; rfl
      · rw [if_neg hk]
        simp [ih h0]
    · rw [if_neg h0] at h
      exact absurd h h0
theorem rdList_suf (p : List Int) (e : Int) : ∀ k : Nat, (rdList p e k).2.1 <:+ p := by
  intro k
  induction k with
  | zero => exact List.suffix_refl p
  | succ k ih =>
    rw [rdList]
    split
    · split
      · exact ih
      · exact (rdOne_suf _).trans ih
    · exact ih
theorem rdList_all {p : List Int} (hf : Fit .u8 p) (e : Int) : ∀ k : Nat, ∀ x ∈ (rdList p e k).1, x.ok ∧ Fits x.t p.length := by
  intro k
  induction k with
  | zero => exact fun x hx => by cases hx
  | succ k ih =>
    intro x hx
    rw [rdList] at hx
    split at hx
    · split at hx
      · rw [List.mem_singleton.1 hx]
        exact ⟨c0_ok, fits_empty _⟩
      · rcases List.mem_append.1 hx with hx | hx
        · exact ih x hx
        · rw [List.mem_singleton.1 hx]
          have hs := rdList_suf p e k
          exact ⟨rdOne_ok (hf.suf hs), (rdOne_fits (hf.suf hs)).le hs.length_le⟩
    · exact ih x hx
/-- What Parse answers: constants, what stands behind, the error. -/
def cntZ (b : List Int) : Int := if (tU b).2.2 = 0 ∧ 4096 < (tU b).1 then 5 else (tU b).2.2
def manyZ (b : List Int) : List Cst × List Int × Int := rdList (tU b).2.1 (cntZ b) (tU b).1.toNat
noncomputable def errZ (b : List Int) : Int := if (manyZ b).2.2 = 0 then checkC (manyZ b).1 else (manyZ b).2.2
noncomputable def parseZ (b : List Int) : List Cst × List Int × Int := if errZ b = 0 then ((manyZ b).1, (manyZ b).2.1, 0) else ([], [], errZ b)
theorem many_all {b : List Int} (hf : Fit .u8 b) : (∀ x ∈ (manyZ b).1, x.ok ∧ Fits x.t b.length) ∧ (manyZ b).2.1 <:+ b := by
  have hs := tU_suf b
  exact ⟨fun x hx => by
    obtain ⟨h1, h2⟩ := rdList_all (hf.suf hs) _ _ x hx
    exact ⟨h1, h2.le hs.length_le⟩, (rdList_suf _ _ _).trans hs⟩
end Go.Proofs.YtecgldkhjgcffaaDoor
/- Constants as bytes, there and back: plain mathematics. -/
namespace Go.Proofs.YtecgldkhjgcffaaDoor
open Go.RowKit
set_option linter.unusedVariables false

/-- Constants' bytes, one behind the other. -/
def encs (l : List Cst) : List Int := l.flatMap encC
theorem encs_nil : encs [] = [] := rfl
theorem bytesZ_eq (l : List Cst) : bytesZ l = dg 1 10 l.length ++ encs (l.drop 1) := by
  unfold bytesZ encTo encs
  rw [List.take_length]
theorem encs_at {l : List Cst} {j : Nat} (h : j < l.length) : encs (l.drop j) = encC (gc l j) ++ encs (l.drop (j + 1)) := by
  unfold encs
  rw [List.drop_eq_getElem_cons h, List.flatMap_cons]
  congr 2
  simp [gc, h]
theorem t_empty {t : ByteArray} (h : t.toList = []) : t = .empty := toList_inj (by rw [h, ByteArray.toList_eq]; rfl)
theorem rdU_dg {n : Int} (h0 : 0 ≤ n) (h1 : n ≤ 9007199254740991) (r : List Int) : rdU (dg 1 10 n ++ r) 0 = (n, r, 0) := by
  unfold rdU
  rw [if_pos rfl]
  exact tU_dg h0 h1 r
theorem rdS_dg {n : Int} (h : I64 n) (r : List Int) : rdS (dg 2 10 n ++ r) 0 = (n, r, 0) := by
  unfold rdS
  rw [if_pos rfl]
  exact tS_dg (InB.start h.1 h.2 (.inl rfl)) (dg_len 2 10 n) r
theorem rdT_enc {t : ByteArray} (hv : Lib.validD t.data.toList = true) (hs : (encZ t.data.toList).length ≤ 9007199254740991) (r : List Int) :
    rdT (dg 1 10 (encZ t.data.toList).length ++ (encZ t.data.toList ++ r)) 0 = (t, r, 0) := by
  obtain ⟨h1, h2⟩ := enc_back t hv
  unfold rdT
  rw [rdU_dg (by omega) (by omega)]
  simp only
  rw [if_neg (by simp), if_neg (by rw [List.length_append]; omega), Int.toNat_natCast, List.take_left, List.drop_left, decT, if_pos h1, h2]
theorem rdOne_nil : rdOne [] = (c0, [], 3) := by
  unfold rdOne
  rw [if_pos rfl]
theorem rdOne_t (l : List Int) : rdOne (1 :: l) = (⟨1, (rdT l 0).1, 0, 0, 0, 0⟩, (rdT l 0).2) := by
  unfold rdOne
  rw [if_neg (by simp), if_pos (by rfl)]
  rfl
theorem rdOne_s {k : Int} (h : k = 2 ∨ k = 3) (l : List Int) : rdOne (k :: l) = (⟨k, .empty, (rdS l 0).1, 0, 0, 0⟩, (rdS l 0).2) := by
  unfold rdOne
  rw [if_neg (by simp), if_neg (show ¬ gi (k :: l) 0 = 1 by rw [gi_zero]; omega), if_pos (show gi (k :: l) 0 = 2 ∨ gi (k :: l) 0 = 3 by rw [gi_zero]; exact h)]
  rfl
theorem rdOne_c (l : List Int) : rdOne (4 :: l) = (⟨4, .empty, 0, (rdU l 0).1, 0, 0⟩, (rdU l 0).2) := by
  unfold rdOne
  rw [if_neg (by simp), if_neg (show ¬ gi (4 :: l) 0 = 1 by rw [gi_zero]; omega), if_neg (show ¬ (gi (4 :: l) 0 = 2 ∨ gi (4 :: l) 0 = 3) by rw [gi_zero]; omega), if_pos (show gi (4 :: l) 0 = 4 by rw [gi_zero])]
  rfl
theorem rdOne_m {k : Int} (h : k = 5 ∨ k = 6) (l : List Int) : rdOne (k :: l) = (⟨k, .empty, 0, (rdU l 0).1, (rdU (rdU l 0).2.1 (rdU l 0).2.2).1, (rdU (rdU (rdU l 0).2.1 (rdU l 0).2.2).2.1 (rdU (rdU l 0).2.1 (rdU l 0).2.2).2.2).1⟩, (rdU (rdU (rdU l 0).2.1 (rdU l 0).2.2).2.1 (rdU (rdU l 0).2.1 (rdU l 0).2.2).2.2).2) := by
  unfold rdOne
  rw [if_neg (by simp), if_neg (show ¬ gi (k :: l) 0 = 1 by rw [gi_zero]; omega), if_neg (show ¬ (gi (k :: l) 0 = 2 ∨ gi (k :: l) 0 = 3) by rw [gi_zero]; omega), if_neg (show ¬ gi (k :: l) 0 = 4 by rw [gi_zero]; omega), if_pos (show gi (k :: l) 0 = 5 ∨ gi (k :: l) 0 = 6 by rw [gi_zero]; exact h)]
  rfl
theorem rdOne_o {k : Int} (h : ¬ (k = 1 ∨ k = 2 ∨ k = 3 ∨ k = 4 ∨ k = 5 ∨ k = 6)) (l : List Int) : rdOne (k :: l) = (⟨k, .empty, 0, 0, 0, 0⟩, l, 4) := by
  unfold rdOne
  rw [if_neg (by simp), if_neg (show ¬ gi (k :: l) 0 = 1 by rw [gi_zero]; omega), if_neg (show ¬ (gi (k :: l) 0 = 2 ∨ gi (k :: l) 0 = 3) by rw [gi_zero]; omega), if_neg (show ¬ gi (k :: l) 0 = 4 by rw [gi_zero]; omega), if_neg (show ¬ (gi (k :: l) 0 = 5 ∨ gi (k :: l) 0 = 6) by rw [gi_zero]; omega)]
  rfl
/-- A constant that may be, by its kind, with what is not named zero. -/
theorem may_cases {l : List Cst} {x : Cst} (h : mayC l x = true) (hl : l.length ≤ 4096) :
    (∃ t, x = ⟨1, t, 0, 0, 0, 0⟩ ∧ Lib.validD t.data.toList = true) ∨ (∃ k n, x = ⟨k, .empty, n, 0, 0, 0⟩ ∧ (k = 2 ∨ k = 3)) ∨
    (∃ a, x = ⟨4, .empty, 0, a, 0, 0⟩ ∧ 0 ≤ a ∧ a ≤ 4096) ∨ (∃ k a b c, x = ⟨k, .empty, 0, a, b, c⟩ ∧ (k = 5 ∨ k = 6) ∧ (0 ≤ a ∧ a ≤ 4096) ∧ (0 ≤ b ∧ b ≤ 4096) ∧ (0 ≤ c ∧ c ≤ 4096)) := by
  obtain ⟨k, t, n, a, b, c⟩ := x
  have h : MayC l ⟨k, t, n, a, b, c⟩ := of_decide_eq_true h
  have rng : ∀ {i j : Int}, isK l i j = true → 0 ≤ i ∧ i ≤ 4096 := fun h => by
    obtain ⟨j, rfl, h1, h2, _⟩ := isK_at h
    omega
  rcases h with ⟨rfl, rfl, rfl, rfl, rfl, h6⟩ | ⟨rfl, h2, rfl, rfl, rfl, -, -⟩ | ⟨rfl, h2, rfl, rfl, rfl⟩ | ⟨rfl, h2, rfl, rfl, rfl, h6⟩ | ⟨h1, h2, rfl, h4, h5, h6⟩
  · exact .inl ⟨t, rfl, h6⟩
  · exact .inr (.inl ⟨2, n, by rw [show t = .empty from t_empty h2], .inl rfl⟩)
  · exact .inr (.inl ⟨3, n, by rw [show t = .empty from t_empty h2], .inr rfl⟩)
  · exact .inr (.inr (.inl ⟨a, by rw [show t = .empty from t_empty h2], rng h6⟩))
  · exact .inr (.inr (.inr ⟨k, a, b, c, by rw [show t = .empty from t_empty h2], h1, rng h4, rng h5, rng h6⟩))
theorem encC_t (t : ByteArray) (n a b c : Int) : encC ⟨1, t, n, a, b, c⟩ = 1 :: (dg 1 10 (encZ t.data.toList).length ++ encZ t.data.toList) := by
  unfold encC
  simp
theorem encC_s {k : Int} (h : k = 2 ∨ k = 3) (t : ByteArray) (n a b c : Int) : encC ⟨k, t, n, a, b, c⟩ = k :: dg 2 10 n := by
  unfold encC
  simp only
  rw [if_neg (by omega), if_pos h]
theorem encC_c (t : ByteArray) (n a b c : Int) : encC ⟨4, t, n, a, b, c⟩ = 4 :: dg 1 10 a := by
  unfold encC
  simp
theorem encC_m {k : Int} (h : k = 5 ∨ k = 6) (t : ByteArray) (n a b c : Int) : encC ⟨k, t, n, a, b, c⟩ = k :: (dg 1 10 a ++ dg 1 10 b ++ dg 1 10 c) := by
  unfold encC
  simp only
  rw [if_neg (by omega), if_neg (by omega), if_neg (by omega)]
/-- What was written is read as it was: one constant. -/
theorem rdOne_enc {l : List Cst} {x : Cst} (h : mayC l x = true) (hl : l.length ≤ 4096) (hok : x.ok) (hs : (encZ x.t.data.toList).length ≤ 9007199254740991) (r : List Int) : rdOne (encC x ++ r) = (x, r, 0) := by
  rcases may_cases h hl with ⟨t, rfl, hv⟩ | ⟨k, n, rfl, hk⟩ | ⟨a, rfl, ha⟩ | ⟨k, a, b, c, rfl, hk, ha, hb, hc⟩
  · rw [encC_t, List.cons_append, List.append_assoc, rdOne_t, rdT_enc hv hs]
  · rw [encC_s hk, List.cons_append, rdOne_s hk, rdS_dg hok.2.1]
  · rw [encC_c, List.cons_append, rdOne_c, rdU_dg ha.1 (by omega)]
  · rw [encC_m hk, List.cons_append, List.append_assoc, List.append_assoc, rdOne_m hk, rdU_dg ha.1 (by omega)]
    simp only
    rw [rdU_dg hb.1 (by omega)]
    simp only
    rw [rdU_dg hc.1 (by omega)]
/-- What each constant's text has to keep: no more bytes than a number can tell. -/
def Told (l : List Cst) : Prop := ∀ x ∈ l, x.ok ∧ (encZ x.t.data.toList).length ≤ 9007199254740991
theorem rdList_enc {l : List Cst} (hc : checkC l = 0) (ht : Told l) (r : List Int) : ∀ k, k ≤ l.length → rdList (encs (l.drop 1) ++ r) 0 k = (l.take k, encs (l.drop (max k 1)) ++ r, 0) := by
  obtain ⟨h1, h2, h3, h4⟩ := check_all hc
  intro k
  induction k with
  | zero => exact fun _ => rfl
  | succ k ih =>
    intro hk
    have ih := ih (by omega)
    by_cases h0 : k = 0
    · subst h0
      rw [rdList_first]
      have e : l.take 1 = [c0] := by
        match l, h2 with
        | x :: m, _ =>
          have : x = c0 := by simpa [gc] using h3
          simp [this]
      rw [e]
      rfl
    · have he : (rdList (encs (l.drop 1) ++ r) 0 k).2.2 = 0 := by rw [ih]
      have hx := ht _ (gc_mem (l := l) (j := k) (by omega))
      have m1 : max k 1 = k := by omega
      have m2 : max (k + 1) 1 = k + 1 := by omega
      rw [rdList_next (by omega) he, ih, m1, m2]
      simp only
      rw [encs_at (l := l) (j := k) (by omega), List.append_assoc, rdOne_enc (h4 k (by omega) (by omega)) h1 hx.1 hx.2]
      simp only
      rw [takeC_one (by omega)]
/-- What was written is read as it was. -/
theorem parse_bytes {l : List Cst} (hc : checkC l = 0) (ht : Told l) (r : List Int) : manyZ (bytesZ l ++ r) = (l, r, 0) ∧ errZ (bytesZ l ++ r) = 0 := by
  obtain ⟨h1, h2, h3, h4⟩ := check_all hc
  have e : tU (bytesZ l ++ r) = ((l.length : Int), encs (l.drop 1) ++ r, 0) := by
    rw [bytesZ_eq, List.append_assoc]
    exact tU_dg (by omega) (by omega) _
  have hm : manyZ (bytesZ l ++ r) = (l, r, 0) := by
    unfold manyZ cntZ
    rw [e]
    simp only
    rw [if_neg (by omega), Int.toNat_natCast, rdList_enc hc ht r _ (Nat.le_refl _), List.take_length, show max l.length 1 = l.length by omega, List.drop_length]
    rfl
  refine ⟨hm, ?_⟩
  unfold errZ
  rw [hm]
  exact (if_pos rfl).trans hc
/-- What can be read is written so: one constant. -/
theorem rdU_back {l : List Int} {e : Int} (h : (rdU l e).2.2 = 0) : e = 0 ∧ l = dg 1 10 (rdU l e).1 ++ (rdU l e).2.1 := by
  unfold rdU at h ⊢
  by_cases he : e = 0
  · rw [if_pos he] at h ⊢
    exact ⟨he, (tU_ok h).2.symm⟩
  · rw [if_neg he] at h
    exact absurd h he
theorem rdOne_dec {l : List Int} (hf : Fit .u8 l) (h : (rdOne l).2.2 = 0) : l = encC (rdOne l).1 ++ (rdOne l).2.1 := by
  match l, hf, h with
  | [], _, h =>
    rw [rdOne_nil] at h
    cases h
  | k :: l, hf, h =>
    have hf1 : Fit .u8 l := fun x hx => hf x (List.mem_cons_of_mem _ hx)
    by_cases k1 : k = 1
    · subst k1
      rw [rdOne_t] at h ⊢
      simp only at h ⊢
      rw [encC_t]
      by_cases he : (rdU l 0).2.2 = 0
      · by_cases hb : ((rdU l 0).2.1.length : Int) < (rdU l 0).1
        · unfold rdT at h
          rw [if_neg (by simpa using he), if_pos hb] at h
          cases h
        · have e : rdT l 0 = ((decT ((rdU l 0).2.1.take (rdU l 0).1.toNat)).1, (rdU l 0).2.1.drop (rdU l 0).1.toNat, (decT ((rdU l 0).2.1.take (rdU l 0).1.toNat)).2) := by
            unfold rdT
            rw [if_neg (by simpa using he), if_neg hb]
          rw [e] at h ⊢
          simp only at h ⊢
          have hu := (rdU_back he).2
          have hp := (rdU_pos he).1
          have hfu := (hf1.suf (rdU_suf l 0)).take (rdU l 0).1.toNat
          by_cases hst : stop ((rdU l 0).2.1.take (rdU l 0).1.toNat) = ((rdU l 0).2.1.take (rdU l 0).1.toNat).length
          · obtain ⟨_, d2, _⟩ := dec_back hfu hst _ rfl
            unfold decT
            rw [if_pos hst]
            simp only
            rw [d2]
            have hlen : (((rdU l 0).2.1.take (rdU l 0).1.toNat).length : Int) = (rdU l 0).1 := by rw [List.length_take]; omega
            rw [hlen, List.cons_append, List.append_assoc, List.take_append_drop, ← hu]
          · unfold decT at h
            rw [if_neg hst] at h
            cases h
      · unfold rdT at h
        rw [if_pos he] at h
        exact absurd h he
    by_cases k2 : k = 2 ∨ k = 3
    · rw [rdOne_s k2] at h ⊢
      simp only at h ⊢
      rw [encC_s k2, List.cons_append]
      congr 1
      unfold rdS at h ⊢
      rw [if_pos rfl] at h ⊢
      exact (tS_ok h).symm
    by_cases k4 : k = 4
    · subst k4
      rw [rdOne_c] at h ⊢
      simp only at h ⊢
      rw [encC_c, List.cons_append]
      congr 1
      exact (rdU_back h).2
    by_cases k5 : k = 5 ∨ k = 6
    · rw [rdOne_m k5] at h ⊢
      simp only at h ⊢
      rw [encC_m k5, List.cons_append]
      congr 1
      obtain ⟨z2, e3⟩ := rdU_back h
      obtain ⟨z1, e2⟩ := rdU_back z2
      have e1 := (rdU_back z1).2
      rw [List.append_assoc, List.append_assoc, ← e3, ← e2, ← e1]
    · exfalso
      rw [rdOne_o (by omega)] at h
      cases h
theorem rdList_dec {p : List Int} (hf : Fit .u8 p) {e : Int} : ∀ {k : Nat}, 1 ≤ k → (rdList p e k).2.2 = 0 → gc (rdList p e k).1 0 = c0 ∧ p = encs ((rdList p e k).1.drop 1) ++ (rdList p e k).2.1 := by
  intro k
  induction k with
  | zero => exact fun h => absurd h (by omega)
  | succ k ih =>
    intro _ h
    by_cases he : (rdList p e k).2.2 = 0
    · by_cases h0 : k = 0
      · subst h0
        rw [rdList, if_pos he, if_pos rfl] at h ⊢
        exact ⟨rfl, rfl⟩
      · obtain ⟨i1, i2⟩ := ih (by omega) he
        have hl := rdList_len he
        rw [rdList_next (by omega) he] at h ⊢
        simp only at h ⊢
        have hd := rdOne_dec (hf.suf (rdList_suf p e k)) h
        refine ⟨?_, ?_⟩
        · rw [← i1]
          unfold gc
          rw [List.getD_eq_getElem?_getD, List.getD_eq_getElem?_getD, List.getElem?_append_left (by omega)]
        · rw [List.drop_append_of_le_length (by omega)]
          unfold encs
          rw [List.flatMap_append, List.append_assoc]
          simp only [List.flatMap_cons, List.flatMap_nil, List.append_nil]
          rw [← hd]
          exact i2
    · rw [rdList, if_neg he] at h
      exact absurd h he
/-- What can be read may be, and is written so. -/
theorem parse_back {b : List Int} (hf : Fit .u8 b) (h : errZ b = 0) : checkC (manyZ b).1 = 0 ∧ bytesZ (manyZ b).1 ++ (manyZ b).2.1 = b ∧ (manyZ b).2.2 = 0 := by
  unfold errZ at h
  by_cases he : (manyZ b).2.2 = 0
  · rw [if_pos he] at h
    refine ⟨h, ?_, he⟩
    obtain ⟨h1, h2, -⟩ := check_all h
    have hl : (manyZ b).1.length = (tU b).1.toNat := rdList_len he
    have hu : (tU b).2.2 = 0 := by
      by_cases hu : (tU b).2.2 = 0
      · exact hu
      · exfalso
        rw [(tU_err hu).1] at hl
        simp at hl
        rw [hl] at h2
        simp at h2
    have hp := (tU_pos hu).1
    have hd := (rdList_dec (hf.suf (tU_suf b)) (k := (tU b).1.toNat) (by omega) he).2
    rw [bytesZ_eq, hl, List.append_assoc, Int.toNat_of_nonneg hp]
    have : encs ((manyZ b).1.drop 1) ++ (manyZ b).2.1 = (tU b).2.1 := hd.symm
    rw [this]
    exact (tU_ok hu).2
  · rw [if_neg he] at h
    exact absurd h he
/-- What is cut is told so. -/
theorem rdU_more (l : List Int) {e : Int} (h : ¬ e = 0) : rdU l e = (0, l, e) := by
  unfold rdU
  rw [if_neg h]
theorem rdU_short {n : Int} (h0 : 0 ≤ n) (h1 : n ≤ 9007199254740991) {m : Nat} (hm : m < (dg 1 10 n).length) (r : List Int) : rdU ((dg 1 10 n ++ r).take m) 0 = (0, [], 3) := by
  unfold rdU
  rw [if_pos rfl, List.take_append_of_le_length (by omega)]
  exact tU_cut h0 h1 hm
theorem take_more {a r : List Int} {m : Nat} (h : ¬ m < a.length) : (a ++ r).take m = a ++ r.take (m - a.length) := by
  rw [List.take_append, List.take_of_length_le (by omega)]
theorem rdOne_cut {l : List Cst} {x : Cst} (h : mayC l x = true) (hl : l.length ≤ 4096) (hok : x.ok) (hs : (encZ x.t.data.toList).length ≤ 9007199254740991) {m : Nat} (hm : m < (encC x).length) : (rdOne ((encC x).take m)).2.2 = 3 := by
  match m with
  | 0 =>
    rw [List.take_zero, rdOne_nil]
  | m + 1 =>
    rcases may_cases h hl with ⟨t, rfl, hv⟩ | ⟨k, n, rfl, hk⟩ | ⟨a, rfl, ha⟩ | ⟨k, a, b, c, rfl, hk, ha, hb, hc⟩
    · simp only at hs
      rw [encC_t] at hm ⊢
      rw [List.take_succ_cons, rdOne_t]
      simp only [List.length_cons, List.length_append] at hm
      simp only
      unfold rdT
      by_cases hc : m < (dg 1 10 ((encZ t.data.toList).length : Int)).length
      · rw [rdU_short (by omega) (by omega) hc]
        simp
      · rw [take_more hc, rdU_dg (by omega) (by omega)]
        simp only
        rw [if_neg (by simp), if_pos (by rw [List.length_take]; omega)]
    · rw [encC_s hk] at hm ⊢
      rw [List.take_succ_cons, rdOne_s hk]
      simp only [List.length_cons] at hm
      simp only
      unfold rdS
      rw [if_pos rfl, tS_cut (n := n) (InB.start hok.2.1.1 hok.2.1.2 (.inl rfl)) (dg_len 2 10 n) (by omega)]
    · rw [encC_c] at hm ⊢
      rw [List.take_succ_cons, rdOne_c]
      simp only [List.length_cons] at hm
      simp only
      have := rdU_short ha.1 (by omega) (m := m) (by omega) []
      rw [List.append_nil] at this
      rw [this]
    · rw [encC_m hk] at hm ⊢
      rw [List.take_succ_cons, rdOne_m hk]
      simp only [List.length_cons, List.length_append] at hm
      simp only
      rw [List.append_assoc]
      by_cases h1 : m < (dg 1 10 a).length
      · rw [rdU_short ha.1 (by omega) h1]
        simp [rdU_more]
      · rw [take_more h1, rdU_dg ha.1 (by omega)]
        simp only
        by_cases h2 : m - (dg 1 10 a).length < (dg 1 10 b).length
        · rw [rdU_short hb.1 (by omega) h2]
          simp [rdU_more]
        · rw [take_more h2, rdU_dg hb.1 (by omega)]
          simp only
          have := rdU_short hc.1 (by omega) (m := m - (dg 1 10 a).length - (dg 1 10 b).length) (by omega) []
          rw [List.append_nil] at this
          rw [this]
theorem rdList_cut {l : List Cst} (hc : checkC l = 0) (ht : Told l) {q : Nat} (hq : q < (encs (l.drop 1)).length) : ∀ k, k ≤ l.length →
    (rdList ((encs (l.drop 1)).take q) 0 k).2.2 = 3 ∨ ∃ m, m < (encs (l.drop (max k 1))).length ∧ rdList ((encs (l.drop 1)).take q) 0 k = (l.take k, (encs (l.drop (max k 1))).take m, 0) := by
  obtain ⟨h1, h2, h3, h4⟩ := check_all hc
  intro k
  induction k with
  | zero => exact fun _ => .inr ⟨q, hq, rfl⟩
  | succ k ih =>
    intro hk
    rcases ih (by omega) with h | ⟨m, hm, h⟩
    · left
      rw [rdList_past (by rw [h]; simp) _ (Nat.le_succ k)]
      exact h
    · by_cases h0 : k = 0
      · subst h0
        right
        refine ⟨q, hq, ?_⟩
        rw [rdList_first]
        have e : l.take 1 = [c0] := by
          match l, h2 with
          | x :: m, _ =>
            have : x = c0 := by simpa [gc] using h3
            simp [this]
        rw [e]
        rfl
      · have he : (rdList ((encs (l.drop 1)).take q) 0 k).2.2 = 0 := by rw [h]
        have hx := ht _ (gc_mem (l := l) (j := k) (by omega))
        have m1 : max k 1 = k := by omega
        have m2 : max (k + 1) 1 = k + 1 := by omega
        rw [m1] at hm h
        rw [rdList_next (by omega) he, h, m2]
        rw [encs_at (l := l) (j := k) (by omega)] at hm ⊢
        simp only
        by_cases hmx : m < (encC (gc l k)).length
        · left
          rw [List.take_append_of_le_length (by omega)]
          exact rdOne_cut (h4 k (by omega) (by omega)) h1 hx.1 hx.2 hmx
        · right
          refine ⟨m - (encC (gc l k)).length, by rw [List.length_append] at hm; omega, ?_⟩
          rw [take_more hmx, rdOne_enc (h4 k (by omega) (by omega)) h1 hx.1 hx.2]
          simp only
          rw [takeC_one (by omega)]
theorem parse_cut {l : List Cst} (hc : checkC l = 0) (ht : Told l) {k : Nat} (hk : k < (bytesZ l).length) : errZ ((bytesZ l).take k) = 3 := by
  obtain ⟨h1, h2, h3, h4⟩ := check_all hc
  have hm : (manyZ ((bytesZ l).take k)).2.2 = 3 := by
    rw [bytesZ_eq] at hk ⊢
    rw [List.length_append] at hk
    by_cases hd : k < (dg 1 10 (l.length : Int)).length
    · unfold manyZ cntZ
      rw [List.take_append_of_le_length (by omega), tU_cut (by omega) (by omega) hd]
      simp [rdList]
    · unfold manyZ cntZ
      rw [take_more hd, tU_dg (by omega) (by omega)]
      simp only
      rw [if_neg (by omega), Int.toNat_natCast]
      rcases rdList_cut hc ht (q := k - (dg 1 10 (l.length : Int)).length) (by omega) l.length (Nat.le_refl _) with h | ⟨m, hm, _⟩
      · exact h
      · rw [show max l.length 1 = l.length by omega, List.drop_length] at hm
        exact absurd hm (by simp [encs])
  unfold errZ
  rw [if_neg (by rw [hm]; simp), hm]
end Go.Proofs.YtecgldkhjgcffaaDoor
