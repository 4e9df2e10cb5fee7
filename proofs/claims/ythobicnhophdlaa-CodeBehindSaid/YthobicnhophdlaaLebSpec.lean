/- Numbers as bytes: plain mathematics, no program. -/
import Derived.Test.YthobicnhophdlaaBase
namespace Go.Proofs.Ythobicnhophdlaa

/-- What the bits above a highest byte are meant to be, in each way. -/
def ab (wy d : Int) : Int := if wy = 2 then -(d / 64 % 2) else if wy = 4 then -(d / 128) else 0
/-- The short bytes of a number, at most f. -/
def dg (wy : Int) : Nat → Int → List Int
  | 0, _ => []
  | f + 1, n => if n / 128 = ab wy (n % 128) then [n % 128] else (n % 128 + 128) :: dg wy f (n / 128)

/-- How far a number may be from 0 to have at most f + 1 digits. -/
def InB (wy : Int) (f : Nat) (n : Int) : Prop := -(128 ^ f : Int) ≤ n ∧ n < 128 ^ f ∧ (wy = 2 ∨ wy = 1 ∧ 0 ≤ n)

theorem ab_one (d : Int) : ab 1 d = 0 := rfl
theorem ab_two (d : Int) : ab 2 d = -(d / 64 % 2) := rfl

theorem InB.next {wy : Int} {f : Nat} {n : Int} (h : InB wy (f + 1) n) : InB wy f (n / 128) := by
  unfold InB at *
  rw [Int.pow_succ] at h
  omega
theorem InB.last {wy : Int} {n : Int} (h : InB wy 0 n) : n / 128 = ab wy (n % 128) := by
  unfold InB at h
  obtain ⟨h1, h2, h3⟩ := h
  rw [Int.pow_zero] at h1 h2
  rcases h3 with rfl | ⟨rfl, h3⟩
  · have : n = 0 ∨ n = -1 := by omega
    rcases this with rfl | rfl <;> rfl
  · have : n = 0 := by omega
    subst this
    rfl
theorem InB.start {wy : Int} {n : Int} (h1 : -9223372036854775808 ≤ n) (h2 : n ≤ 9223372036854775807) (h3 : wy = 2 ∨ wy = 1 ∧ 0 ≤ n) : InB wy 9 n := by
  unfold InB
  refine ⟨?_, ?_, h3⟩
  · show -(9223372036854775808 : Int) ≤ n
    exact h1
  · show n < (9223372036854775808 : Int)
    omega

theorem InB.bound {wy : Int} {f : Nat} {m : Int} (h : InB wy f m) (hf : f ≤ 9) : -9223372036854775808 ≤ m ∧ m ≤ 9223372036854775807 := by
  have e : (128 : Int) ^ f ≤ 128 ^ 9 := by exact_mod_cast Nat.pow_le_pow_right (show 0 < 128 by omega) hf
  have e9 : (128 : Int) ^ 9 = 9223372036854775808 := rfl
  unfold InB at h
  omega

/-- How far a number is from 0 and -1. -/
def magI (n : Int) : Nat := (if 0 ≤ n then n else -n - 1).toNat
def mag (v : Value) : Nat := magI (RowKit.intOf v)
theorem mag_lt {wy : Int} {f : Nat} {m : Int} (h : InB wy f m) (hc : ¬ m / 128 = ab wy (m % 128)) : mag (.int .i64 (m / 128)) < mag (.int .i64 m) := by
  have h3 := h.2.2
  have n0 : ¬ m = 0 := by
    rintro rfl
    apply hc
    rcases h3 with rfl | ⟨rfl, _⟩ <;> rfl
  have n1 : ¬ m = -1 := by
    rintro rfl
    apply hc
    rcases h3 with rfl | ⟨rfl, h⟩
    · rfl
    · omega
  show magI (m / 128) < magI m
  unfold magI
  by_cases h0 : 0 ≤ m
  · rw [if_pos h0, if_pos (by omega)]
    omega
  · rw [if_neg h0, if_neg (by omega)]
    omega

theorem and127 (m : Int) : bits .and .i64 m 127 = m % 128 := by
  show IntKind.i64.wrap ((BitVec.ofInt 64 m &&& BitVec.ofInt 64 127).toNat : Int) = _
  have h1 : (BitVec.ofInt 64 m &&& BitVec.ofInt 64 127).toNat = (BitVec.ofInt 64 m).toNat % 128 := by
    rw [BitVec.toNat_and]
    exact Nat.and_two_pow_sub_one_eq_mod _ 7
  rw [h1, BitVec.toNat_ofInt, IntKind.wrap_i64]
  omega
theorem or128 (d : Int) (h0 : 0 ≤ d) (h1 : d < 128) : bits .or .u8 d 128 = d + 128 := by
  have h : ∀ x : Fin 128, bits .or .u8 (x.val : Int) 128 = (x.val : Int) + 128 := by decide +kernel
  have := h ⟨d.toNat, by omega⟩
  rwa [show ((d.toNat : Nat) : Int) = d by omega] at this

theorem dg_last {wy m : Int} (f : Nat) (h : m / 128 = ab wy (m % 128)) : dg wy (f + 1) m = [m % 128] := by
  unfold dg
  rw [if_pos h]
theorem dg_step {wy m : Int} (f : Nat) (h : ¬ m / 128 = ab wy (m % 128)) : dg wy (f + 1) m = (m % 128 + 128) :: dg wy f (m / 128) := by
  rw [dg, if_neg h]

theorem dg_fit (wy : Int) : ∀ (f : Nat) (n : Int), Fit .u8 (dg wy f n) := by
  intro f
  induction f with
  | zero => exact fun n => Fit.nil _
  | succ f ih =>
    intro n x hx
    unfold dg at hx
    have hw : ∀ y : Int, 0 ≤ y → y ≤ 255 → (Lit.int .u8 y).wf = true := by
      intro y h0 h1
      simp [Lit.wf, IntKind.min, IntKind.max, IntKind.signed, IntKind.bits]
      omega
    by_cases h : n / 128 = ab wy (n % 128)
    · rw [if_pos h] at hx
      obtain rfl : x = n % 128 := by simpa using hx
      exact hw _ (by omega) (by omega)
    · rw [if_neg h] at hx
      rcases List.mem_cons.1 hx with rfl | hx
      · exact hw _ (by omega) (by omega)
      · exact ih _ x hx
theorem dg_len (wy : Int) : ∀ (f : Nat) (n : Int), (dg wy f n).length ≤ f := by
  intro f
  induction f with
  | zero => intro n; simp [dg]
  | succ f ih =>
    intro n
    unfold dg
    split
    · simp
    · have := ih (n / 128)
      simp
      omega

/-- How many bytes of 128 and more a list begins with. -/
def fb : List Int → Nat
  | [] => 0
  | x :: r => if x < 128 then 0 else fb r + 1
theorem fb_le : ∀ l : List Int, fb l ≤ l.length := by
  intro l
  induction l with
  | nil => simp [fb]
  | cons x r ih =>
    unfold fb
    split
    · simp
    · simp
      omega
theorem fb_ge : ∀ (l : List Int) (k : Nat), k ≤ l.length → (∀ j, j < k → 128 ≤ gi l j) → k ≤ fb l := by
  intro l
  induction l with
  | nil => intro k hk _; simp at hk; omega
  | cons x r ih =>
    intro k hk h
    match k with
    | 0 => omega
    | k + 1 =>
      have h0 : 128 ≤ x := h 0 (by omega)
      unfold fb
      rw [if_neg (by omega)]
      have := ih k (by simpa using hk) (fun j hj => h (j + 1) (by omega))
      omega
theorem fb_is : ∀ (l : List Int) (k : Nat), k < l.length → (∀ j, j < k → 128 ≤ gi l j) → gi l k < 128 → fb l = k := by
  intro l
  induction l with
  | nil => intro k hk; simp at hk
  | cons x r ih =>
    intro k hk h hlt
    match k with
    | 0 =>
      have h0 : x < 128 := hlt
      unfold fb
      rw [if_pos h0]
    | k + 1 =>
      have h0 : 128 ≤ x := h 0 (by omega)
      unfold fb
      rw [if_neg (by omega), ih k (by simpa using hk) (fun j hj => h (j + 1) (by omega)) hlt]
/-- How many bytes a short number has, of at most so many, and what is wrong. -/
def spn (most : Nat) (l : List Int) : Int × Int := if most ≤ fb l then (0, 4) else if fb l = l.length then (0, 3) else ((fb l : Int) + 1, 0)

theorem spn_most {most : Nat} {l : List Int} (h : most ≤ l.length) (hg : ∀ j, j < most → 128 ≤ gi l j) : spn most l = (0, 4) := by
  unfold spn
  rw [if_pos (fb_ge l most h hg)]
theorem spn_end {most : Nat} {l : List Int} (h : l.length < most) (hg : ∀ j, j < l.length → 128 ≤ gi l j) : spn most l = (0, 3) := by
  have h1 := fb_ge l l.length (by omega) hg
  have h2 := fb_le l
  unfold spn
  rw [if_neg (by omega), if_pos (by omega)]
theorem spn_ok {most k : Nat} {l : List Int} (h : k < l.length) (hm : k < most) (hg : ∀ j, j < k → 128 ≤ gi l j) (hk : gi l k < 128) : spn most l = ((k : Int) + 1, 0) := by
  have e := fb_is l k h hg hk
  unfold spn
  rw [e, if_neg (by omega), if_neg (by omega)]

/-- The number of a row, its highest bits given. -/
def wof (acc : Int) : List Int → Int
  | [] => acc
  | x :: r => IntKind.i64.wrap (wof acc r * 128 + x % 128)
def wo (wy : Int) (l : List Int) : Int := wof (ab wy (gi l (l.length - 1))) l
theorem wof_bound (acc : Int) (h : -9223372036854775808 ≤ acc ∧ acc ≤ 9223372036854775807) : ∀ l, -9223372036854775808 ≤ wof acc l ∧ wof acc l ≤ 9223372036854775807 := by
  intro l
  cases l with
  | nil => exact h
  | cons x r =>
    unfold wof
    rw [IntKind.wrap_i64]
    omega
theorem ab_bound (wy d : Int) (h : 0 ≤ d ∧ d ≤ 255) : -1 ≤ ab wy d ∧ ab wy d ≤ 0 := by
  unfold ab
  split
  · omega
  · split <;> omega
theorem wo_bound (wy : Int) (l : List Int) (hl : 0 < l.length) (hf : Fit .u8 l) : -9223372036854775808 ≤ wo wy l ∧ wo wy l ≤ 9223372036854775807 := by
  have h := hf.u8 (gi_mem (l := l) (j := l.length - 1) (by omega))
  have := ab_bound wy (gi l (l.length - 1)) (by omega)
  exact wof_bound _ (by omega) l
theorem drop_cons {l : List Int} {k : Nat} (h : k < l.length) : l.drop k = gi l k :: l.drop (k + 1) := by
  rw [List.drop_eq_getElem_cons h]
  simp [gi, h]
theorem wof_drop (acc : Int) {l : List Int} {k : Nat} (h : k < l.length) : wof acc (l.drop k) = IntKind.i64.wrap (wof acc (l.drop (k + 1)) * 128 + gi l k % 128) := by
  rw [drop_cons h, wof]
theorem or_shift (n d : Int) (h0 : 0 ≤ d) (h1 : d < 128) : bits .or .i64 (RowKit.wrap64 (n * 128)) d = IntKind.i64.wrap (n * 128 + d) := by
  rw [← IntWalk.i64_left]
  show IntKind.i64.wrap ((BitVec.ofInt 64 (IntKind.i64.wrap (n * 128)) ||| BitVec.ofInt 64 d).toNat : Int) = _
  have e1 : (BitVec.ofInt 64 (IntKind.i64.wrap (n * 128))).toNat = 2 ^ 7 * (n % 144115188075855872).toNat := by
    rw [BitVec.toNat_ofInt, IntKind.wrap_i64]
    omega
  have e2 : (BitVec.ofInt 64 d).toNat = d.toNat := by
    rw [BitVec.toNat_ofInt]
    omega
  rw [BitVec.toNat_or, e1, e2, ← Nat.two_pow_add_eq_or_of_lt (by omega), IntKind.wrap_i64, IntKind.wrap_i64]
  omega
theorem or_shift8 (n d : Int) (h0 : 0 ≤ d) (h1 : d < 256) : bits .or .i64 (RowKit.wrap64 (n * 256)) d = IntKind.i64.wrap (n * 256 + d) := by
  rw [← IntWalk.i64_left]
  show IntKind.i64.wrap ((BitVec.ofInt 64 (IntKind.i64.wrap (n * 256)) ||| BitVec.ofInt 64 d).toNat : Int) = _
  have e1 : (BitVec.ofInt 64 (IntKind.i64.wrap (n * 256))).toNat = 2 ^ 8 * (n % 72057594037927936).toNat := by
    rw [BitVec.toNat_ofInt, IntKind.wrap_i64]
    omega
  have e2 : (BitVec.ofInt 64 d).toNat = d.toNat := by
    rw [BitVec.toNat_ofInt]
    omega
  rw [BitVec.toNat_or, e1, e2, ← Nat.two_pow_add_eq_or_of_lt (by omega), IntKind.wrap_i64, IntKind.wrap_i64]
  omega
theorem and127u8 (x : Int) (h0 : 0 ≤ x) (h1 : x < 256) : bits .and .u8 x 127 = x % 128 := by
  have h : ∀ x : Fin 256, bits .and .u8 (x.val : Int) 127 = (x.val : Int) % 128 := by decide +kernel
  have := h ⟨x.toNat, by omega⟩
  rwa [show ((x.toNat : Nat) : Int) = x by omega] at this

def uS (n : Int) : List Int × Int := if n < 0 ∨ 9007199254740991 < n then ([], 9) else (dg 1 10 n, 0)
/-- A short number off the beginning of bytes: the number, what stands behind, and what is wrong. -/
def tS (most : Nat) (wy : Int) (l : List Int) : Int × List Int × Int :=
  if (spn most l).2 = 0 then
    (if l.take (fb l + 1) = dg wy 10 (wo wy (l.take (fb l + 1))) then (wo wy (l.take (fb l + 1)), l.drop (fb l + 1), 0) else (0, [], 4))
  else (0, [], (spn most l).2)
def tU (l : List Int) : Int × List Int × Int := if 9007199254740991 < (tS 8 1 l).1 then (0, [], 4) else tS 8 1 l

/-- The number of bytes, the highest one first. -/
def bf (acc : Int) (l : List Int) : Int := l.foldl (fun n b => IntKind.i64.wrap (n * 256 + b)) acc
def tB (most : Int) (wy : Int) (l : List Int) (size : Int) : Int × List Int × Int :=
  if size < 1 ∨ most < size then (0, [], 2) else if (l.length : Int) < size then (0, [], 3) else (bf (ab wy (gi l 0)) (l.take size.toNat), l.drop size.toNat, 0)
/-- A number in so many bytes. -/
def bg : Nat → Int → List Int
  | 0, _ => []
  | s + 1, n => (n / 256 ^ s % 256) :: bg s n
def ftB (n size : Int) : Bool := decide (size = 8 ∨ -(2 ^ (8 * size - 1).toNat) ≤ n ∧ n < 2 ^ (8 * size).toNat)
def bS (n size : Int) : List Int × Int := if size < 1 ∨ 8 < size then ([], 2) else if ftB n size then (bg size.toNat n, 0) else ([], 9)

theorem spn_two (most : Nat) (l : List Int) : (spn most l).2 = 4 ∨ (spn most l).2 = 3 ∨ (spn most l).2 = 0 := by
  unfold spn
  split
  · exact .inl rfl
  · split
    · exact .inr (.inl rfl)
    · exact .inr (.inr rfl)
theorem spn_zero {most : Nat} {l : List Int} (h : (spn most l).2 = 0) : spn most l = ((fb l : Int) + 1, 0) ∧ fb l < most ∧ fb l < l.length := by
  have hl := fb_le l
  unfold spn at *
  split at h
  · simp at h
  · rename_i h1
    split at h
    · simp at h
    · rename_i h2
      rw [if_neg h1, if_neg h2]
      exact ⟨rfl, by omega, by omega⟩
theorem tS_bad {most : Nat} {wy : Int} {l : List Int} (h : ¬ (spn most l).2 = 0) : tS most wy l = (0, [], (spn most l).2) := by
  unfold tS
  rw [if_neg h]
theorem wof_small : ∀ (l : List Int), l.length ≤ 8 → 0 ≤ wof 0 l ∧ wof 0 l < 128 ^ l.length := by
  intro l
  induction l with
  | nil => intro _; simp [wof]
  | cons x r ih =>
    intro h
    have h' : r.length ≤ 7 := by simpa using h
    obtain ⟨i1, i2⟩ := ih (by omega)
    have e : (128 : Int) ^ r.length ≤ 128 ^ 7 := by exact_mod_cast Nat.pow_le_pow_right (show 0 < 128 by omega) h'
    have e7 : (128 : Int) ^ 7 = 562949953421312 := rfl
    unfold wof
    rw [List.length_cons, Int.pow_succ, IntKind.wrap_i64]
    omega
theorem wo_one (l : List Int) (h : l.length ≤ 8) : 0 ≤ wo 1 l ∧ wo 1 l < 72057594037927936 := by
  obtain ⟨h1, h2⟩ := wof_small l h
  have e : (128 : Int) ^ l.length ≤ 128 ^ 8 := by exact_mod_cast Nat.pow_le_pow_right (show 0 < 128 by omega) h
  have e8 : (128 : Int) ^ 8 = 72057594037927936 := rfl
  unfold wo
  rw [ab_one]
  omega
end Go.Proofs.Ythobicnhophdlaa
