/- Numbers as bytes: what follows from how they are written: plain mathematics, no program. -/
import Derived.Test.YtdjfdigaokokbaaLebSpec
namespace Go.Proofs.Ytdjfdigaokokbaa

/-- The last number of a list. -/
def lst (l : List Int) : Int := gi l (l.length - 1)
theorem lst_one (x : Int) : lst [x] = x := rfl
theorem lst_cons (x : Int) {l : List Int} (h : 0 < l.length) : lst (x :: l) = lst l := by
  unfold lst
  obtain ⟨n, hn⟩ : ∃ n, l.length = n + 1 := ⟨l.length - 1, by omega⟩
  rw [List.length_cons, hn]
  rfl
theorem dg_pos (wy : Int) (f : Nat) (n : Int) : 0 < (dg wy (f + 1) n).length := by
  unfold dg
  split <;> simp
theorem gi_zero (x : Int) (l : List Int) : gi (x :: l) 0 = x := rfl
theorem gi_succ (x : Int) (l : List Int) (j : Nat) : gi (x :: l) (j + 1) = gi l j := rfl

/-- All bytes of a short number but the last one are 128 and more; that one is less. -/
theorem dg_more (wy : Int) : ∀ (f : Nat) (n : Int), InB wy f n → fb (dg wy (f + 1) n) + 1 = (dg wy (f + 1) n).length := by
  intro f
  induction f with
  | zero =>
    intro n h
    rw [dg_last 0 h.last]
    have : n % 128 < 128 := by omega
    simp [fb, this]
  | succ f ih =>
    intro n h
    by_cases hc : n / 128 = ab wy (n % 128)
    · rw [dg_last _ hc]
      have : n % 128 < 128 := by omega
      simp [fb, this]
    · rw [dg_step _ hc]
      have := ih (n / 128) h.next
      have h1 : ¬ n % 128 + 128 < 128 := by omega
      simp only [fb, if_neg h1, List.length_cons]
      omega
theorem fb_append {l : List Int} (r : List Int) : fb l + 1 ≤ l.length → fb (l ++ r) = fb l := by
  induction l with
  | nil => intro h; simp at h
  | cons x l ih =>
    intro h
    unfold fb at h ⊢
    rw [List.cons_append]
    by_cases hx : x < 128
    · simp [hx]
    · simp only [hx, if_false, List.length_cons] at h ⊢
      rw [ih (by omega)]
theorem fb_take : ∀ (l : List Int) (k : Nat), k ≤ fb l → fb (l.take k) = k := by
  intro l
  induction l with
  | nil => intro k h; simp [fb] at h ⊢; omega
  | cons x l ih =>
    intro k h
    match k with
    | 0 => simp [fb]
    | k + 1 =>
      unfold fb at h
      by_cases hx : x < 128
      · simp [hx] at h
      · simp only [hx, if_false] at h
        rw [List.take_succ_cons]
        simp only [fb, hx, if_false]
        rw [ih k (by omega)]
/-- A short number's bytes tell it. -/
theorem wof_dg (wy : Int) : ∀ (f : Nat) (n : Int), f ≤ 9 → InB wy f n → wof (ab wy (lst (dg wy (f + 1) n))) (dg wy (f + 1) n) = n := by
  intro f
  induction f with
  | zero =>
    intro n _ h
    have hb := h.bound (by omega)
    rw [dg_last 0 h.last, lst_one, ← h.last]
    simp only [wof]
    rw [IntKind.wrap_i64]
    omega
  | succ f ih =>
    intro n hf h
    have hb := h.bound hf
    by_cases hc : n / 128 = ab wy (n % 128)
    · rw [dg_last _ hc, lst_one, ← hc]
      simp only [wof]
      rw [IntKind.wrap_i64]
      omega
    · rw [dg_step _ hc, lst_cons _ (dg_pos wy f _)]
      have := ih (n / 128) (by omega) h.next
      simp only [wof]
      rw [this, IntKind.wrap_i64]
      omega
theorem wo_dg {wy n : Int} (h : InB wy 9 n) : wo wy (dg wy 10 n) = n := wof_dg wy 9 n (by omega) h

/-- What was written is read, and what stands behind it is left. -/
theorem tS_dg {most : Nat} {wy n : Int} (h : InB wy 9 n) (hm : (dg wy 10 n).length ≤ most) (r : List Int) : tS most wy (dg wy 10 n ++ r) = (n, r, 0) := by
  have h1 : fb (dg wy 10 n) + 1 = (dg wy 10 n).length := dg_more wy 9 n h
  have h2 : fb (dg wy 10 n ++ r) = fb (dg wy 10 n) := fb_append r (by omega)
  have h3 : fb (dg wy 10 n) + 1 = (dg wy 10 n).length := h1
  have hs : spn most (dg wy 10 n ++ r) = ((fb (dg wy 10 n) : Int) + 1, 0) := by
    unfold spn
    rw [h2, if_neg (by omega), if_neg (by simp; omega)]
  have ht : (dg wy 10 n ++ r).take (fb (dg wy 10 n) + 1) = dg wy 10 n := by rw [h3, List.take_left]
  have hd : (dg wy 10 n ++ r).drop (fb (dg wy 10 n) + 1) = r := by rw [h3, List.drop_left]
  unfold tS
  rw [hs, h2, ht, hd, wo_dg h, if_pos rfl, if_pos rfl]
/-- Cut, they end too early. -/
theorem tS_cut {most : Nat} {wy n : Int} (h : InB wy 9 n) (hm : (dg wy 10 n).length ≤ most) {k : Nat} (hk : k < (dg wy 10 n).length) : tS most wy ((dg wy 10 n).take k) = (0, [], 3) := by
  have h1 : fb (dg wy 10 n) + 1 = (dg wy 10 n).length := dg_more wy 9 n h
  have h2 := fb_take (dg wy 10 n) k (by omega)
  have hl : ((dg wy 10 n).take k).length = k := by simp; omega
  have hs : spn most ((dg wy 10 n).take k) = (0, 3) := by
    unfold spn
    rw [h2, hl, if_neg (by omega), if_pos rfl]
  rw [tS_bad (by rw [hs]; decide), hs]

/-- How long a short number from 0 on is. -/
theorem dg_one_len : ∀ (f : Nat) (g : Nat) (n : Int), 0 ≤ n → n < 128 ^ (g + 1) → (dg 1 f n).length ≤ g + 1 := by
  intro f
  induction f with
  | zero => intro g n _ _; simp [dg]
  | succ f ih =>
    intro g n h0 h1
    by_cases hc : n / 128 = ab 1 (n % 128)
    · rw [dg_last _ hc]
      simp
    · rw [dg_step _ hc]
      rw [ab_one] at hc
      match g with
      | 0 => simp at h1; omega
      | g + 1 =>
        rw [Int.pow_succ] at h1
        have := ih g (n / 128) (by omega) (by omega)
        simp
        omega
theorem dg_one_eight {n : Int} (h0 : 0 ≤ n) (h1 : n ≤ 9007199254740991) : (dg 1 10 n).length ≤ 8 := by
  refine dg_one_len 10 7 n h0 ?_
  show n < (72057594037927936 : Int)
  omega

/-- In how many steps of seven bits nothing but a sign is left. -/
def szs : Nat → Int → Nat
  | 0, _ => 0
  | f + 1, n => if -64 ≤ n ∧ n ≤ 63 then 1 else szs f (n / 128) + 1
theorem szs_end {f : Nat} {m : Int} (h : -64 ≤ m ∧ m ≤ 63) : szs (f + 1) m = 1 := by rw [szs, if_pos h]
theorem szs_next {f : Nat} {m : Int} (h : ¬ (-64 ≤ m ∧ m ≤ 63)) : szs (f + 1) m = szs f (m / 128) + 1 := by rw [szs, if_neg h]
theorem ends_two (n : Int) : n / 128 = ab 2 (n % 128) ↔ -64 ≤ n ∧ n ≤ 63 := by
  rw [ab_two]
  omega
theorem dg_szs : ∀ (f : Nat) (n : Int), (dg 2 f n).length = szs f n := by
  intro f
  induction f with
  | zero => intro n; rfl
  | succ f ih =>
    intro n
    unfold szs
    by_cases hc : -64 ≤ n ∧ n ≤ 63
    · rw [dg_last _ ((ends_two n).2 hc), if_pos hc]
      rfl
    · rw [dg_step _ (fun h => hc ((ends_two n).1 h)), if_neg hc, List.length_cons, ih]

/-- What is read is what would be written. -/
theorem tS_ok {most : Nat} {wy : Int} {l : List Int} (h : (tS most wy l).2.2 = 0) : dg wy 10 (tS most wy l).1 ++ (tS most wy l).2.1 = l := by
  unfold tS at *
  split at h
  · rename_i hs
    rw [if_pos hs]
    split at h
    · rename_i hd
      rw [if_pos hd]
      simp only
      rw [← hd, List.take_append_drop]
    · simp at h
  · rename_i hs
    simp at h
    exact absurd h hs
theorem tS_err {most : Nat} {wy : Int} {l : List Int} (h : ¬ (tS most wy l).2.2 = 0) : (tS most wy l).1 = 0 ∧ (tS most wy l).2.1 = [] ∧ ((tS most wy l).2.2 = 3 ∨ (tS most wy l).2.2 = 4) := by
  have h2 := spn_two most l
  unfold tS at *
  split
  · rename_i hs
    rw [if_pos hs] at h
    split
    · rename_i hd
      rw [if_pos hd] at h
      simp at h
    · simp
  · simp only
    refine ⟨trivial, trivial, ?_⟩
    rename_i hs
    omega
theorem tS_range {wy : Int} {most : Nat} {l : List Int} (hf : Fit .u8 l) : -9223372036854775808 ≤ (tS most wy l).1 ∧ (tS most wy l).1 ≤ 9223372036854775807 := by
  unfold tS
  split
  · rename_i hs
    have := spn_zero hs
    split
    · exact wo_bound wy _ (by simp; omega) (hf.take _)
    · simp
  · simp
theorem tU_ok {l : List Int} (h : (tU l).2.2 = 0) : uS (tU l).1 = (dg 1 10 (tU l).1, 0) ∧ dg 1 10 (tU l).1 ++ (tU l).2.1 = l := by
  unfold tU at *
  split at h
  · simp at h
  · rename_i hb
    rw [if_neg hb]
    refine ⟨?_, tS_ok h⟩
    have h0 : 0 ≤ (tS 8 1 l).1 := by
      unfold tS
      split
      · rename_i hs
        have := spn_zero hs
        split
        · exact (wo_one _ (by simp; omega)).1
        · simp
      · simp
    unfold uS
    rw [if_neg (by omega)]
theorem tU_err {l : List Int} (h : ¬ (tU l).2.2 = 0) : (tU l).1 = 0 ∧ (tU l).2.1 = [] := by
  unfold tU at *
  split
  · exact ⟨rfl, rfl⟩
  · rename_i hb
    rw [if_neg hb] at h
    have := tS_err h
    exact ⟨this.1, this.2.1⟩
theorem tU_dg {n : Int} (h0 : 0 ≤ n) (h1 : n ≤ 9007199254740991) (r : List Int) : tU (dg 1 10 n ++ r) = (n, r, 0) := by
  have hin : InB 1 9 n := InB.start (by omega) (by omega) (.inr ⟨rfl, h0⟩)
  unfold tU
  rw [tS_dg hin (dg_one_eight h0 h1), if_neg (by simp; omega)]
theorem tU_cut {n : Int} (h0 : 0 ≤ n) (h1 : n ≤ 9007199254740991) {k : Nat} (hk : k < (dg 1 10 n).length) : tU ((dg 1 10 n).take k) = (0, [], 3) := by
  have hin : InB 1 9 n := InB.start (by omega) (by omega) (.inr ⟨rfl, h0⟩)
  unfold tU
  rw [tS_cut hin (dg_one_eight h0 h1) hk, if_neg (by simp)]
theorem uS_ok {n : Int} (h0 : 0 ≤ n) (h1 : n ≤ 9007199254740991) : uS n = (dg 1 10 n, 0) := by
  unfold uS
  rw [if_neg (by omega)]

/-- No short number's bytes are the beginning of another one's. -/
theorem dg_apart {wy n m : Int} (hn : InB wy 9 n) (hm : InB wy 9 m) (h : dg wy 10 m <+: dg wy 10 n) : n = m := by
  obtain ⟨r, hr⟩ := h
  have h1 := tS_dg (most := 10) hn (dg_len wy 10 n) []
  have h2 := tS_dg (most := 10) hm (dg_len wy 10 m) r
  rw [List.append_nil, ← hr, h2] at h1
  exact (congrArg Prod.fst h1).symm

/-- The number of bytes, the highest one first: what was written is read. -/
theorem bg_len : ∀ (s : Nat) (n : Int), (bg s n).length = s := by
  intro s
  induction s with
  | zero => intro n; rfl
  | succ s ih => intro n; simp [bg, ih]
theorem bg_fit : ∀ (s : Nat) (n : Int), Fit .u8 (bg s n) := by
  intro s
  induction s with
  | zero => intro n; exact Fit.nil _
  | succ s ih =>
    intro n x hx
    unfold bg at hx
    rcases List.mem_cons.1 hx with rfl | hx
    · exact wf_u8 (by omega) (by omega)
    · exact ih n x hx
theorem wrap_mul (a b c : Int) : IntKind.i64.wrap (IntKind.i64.wrap a * b + c) = IntKind.i64.wrap (a * b + c) := by
  rw [IntKind.wrap_i64, IntKind.wrap_i64, IntKind.wrap_i64]
  have h : ((a + 9223372036854775808) % 18446744073709551616 - 9223372036854775808) = a - 18446744073709551616 * ((a + 9223372036854775808) / 18446744073709551616) := by omega
  rw [h, Int.sub_mul, Int.mul_assoc]
  have h2 : a * b - 18446744073709551616 * ((a + 9223372036854775808) / 18446744073709551616 * b) + c + 9223372036854775808 = (a * b + c + 9223372036854775808) + 18446744073709551616 * (-((a + 9223372036854775808) / 18446744073709551616 * b)) := by
    rw [Int.mul_neg]
    omega
  rw [h2, Int.add_mul_emod_self_left]
theorem emod_is {n m k r : Int} (h : n = k * m + r) (h0 : 0 ≤ r) (h1 : r < m) : n % m = r := by
  rw [h, Int.add_comm, Int.add_mul_emod_self_right]
  exact Int.emod_eq_of_lt h0 h1
theorem emod_two (n p : Int) (hp : 0 < p) : n % (p * 256) = n / p % 256 * p + n % p := by
  have h1 := Int.emod_add_mul_ediv n p
  have h2 := Int.emod_add_mul_ediv (n / p) 256
  have h3 : 0 ≤ n % p := Int.emod_nonneg n (by omega)
  have h4 : n % p < p := Int.emod_lt_of_pos n hp
  have h5 : 0 ≤ n / p % 256 * p := Int.mul_nonneg (by omega) (by omega)
  have h6 : n / p % 256 * p ≤ 255 * p := Int.mul_le_mul_of_nonneg_right (by omega) (by omega)
  refine emod_is (k := n / p / 256) ?_ (by omega) (by omega)
  have e : p * (n / p) = p * (n / p % 256) + p * 256 * (n / p / 256) := by
    rw [Int.mul_assoc, ← Int.mul_add, h2]
  rw [Int.mul_comm (n / p / 256), Int.mul_comm (n / p % 256)]
  omega
theorem bf_bg : ∀ (s : Nat) (acc n : Int), IntKind.i64.wrap (bf acc (bg s n)) = IntKind.i64.wrap (acc * 256 ^ s + n % 256 ^ s) := by
  intro s
  induction s with
  | zero =>
    intro acc n
    simp [bg, bf, Int.emod_one]
  | succ s ih =>
    intro acc n
    have e : bf acc (bg (s + 1) n) = bf (IntKind.i64.wrap (acc * 256 + n / 256 ^ s % 256)) (bg s n) := rfl
    have hp : (256 : Int) ^ (s + 1) = 256 ^ s * 256 := Int.pow_succ 256 s
    have hpos : (0 : Int) < 256 ^ s := Int.pow_pos (by omega)
    have hm : n % 256 ^ (s + 1) = n / 256 ^ s % 256 * 256 ^ s + n % 256 ^ s := by
      rw [hp]
      exact emod_two n _ hpos
    rw [e, ih, wrap_mul, hm, hp]
    congr 1
    rw [Int.add_mul, Int.mul_assoc, Int.mul_comm 256 (256 ^ s)]
    omega
theorem bf_range : ∀ (l : List Int) (acc : Int), -9223372036854775808 ≤ acc ∧ acc ≤ 9223372036854775807 → -9223372036854775808 ≤ bf acc l ∧ bf acc l ≤ 9223372036854775807 := by
  intro l
  induction l with
  | nil => intro acc h; exact h
  | cons x r ih =>
    intro acc h
    have e : bf acc (x :: r) = bf (IntKind.i64.wrap (acc * 256 + x)) r := rfl
    rw [e]
    refine ih _ ?_
    rw [IntKind.wrap_i64]
    omega
theorem gi_app {l : List Int} (r : List Int) {j : Nat} (h : j < l.length) : gi (l ++ r) j = gi l j := by
  unfold gi
  rw [List.getD_eq_getElem?_getD, List.getD_eq_getElem?_getD, List.getElem?_append_left h]
theorem bg_first (s : Nat) (n : Int) (r : List Int) : gi (bg (s + 1) n ++ r) 0 = n / 256 ^ s % 256 := by
  rw [gi_app r (by rw [bg_len]; omega)]
  rfl
theorem tB_bg (most wy : Int) (s : Nat) (n : Int) (r : List Int) (h1 : 1 ≤ s) (h2 : (s : Int) ≤ most) : tB most wy (bg s n ++ r) s = (bf (ab wy (gi (bg s n ++ r) 0)) (bg s n), r, 0) := by
  have hl := bg_len s n
  have ht : (bg s n ++ r).take s = bg s n := by
    have : (bg s n ++ r).take (bg s n).length = bg s n := List.take_left
    rwa [hl] at this
  have hd : (bg s n ++ r).drop s = r := by
    have : (bg s n ++ r).drop (bg s n).length = r := List.drop_left
    rwa [hl] at this
  unfold tB
  rw [if_neg (by omega), if_neg (by rw [List.length_append, hl]; omega), Int.toNat_natCast, ht, hd]
/-- With a sign it is the number, or one below 0 in place of one from 0 on. -/
theorem tB_sign (s : Nat) (n : Int) (r : List Int) (h1 : 1 ≤ s) (h2 : s ≤ 8) (hl : -9223372036854775808 ≤ n) (hh : n ≤ 9223372036854775807) (hf : ftB n s = true) :
    ∃ c, tB 8 4 (bg s n ++ r) s = (c, r, 0) ∧ (c = n ∨ c < 0 ∧ 0 ≤ n) := by
  obtain ⟨t, rfl⟩ : ∃ t, s = t + 1 := ⟨s - 1, by omega⟩
  refine ⟨_, tB_bg 8 4 (t + 1) n r (by omega) (by omega), ?_⟩
  rw [bg_first]
  have hb := bf_range (bg (t + 1) n) (ab 4 (n / 256 ^ t % 256)) (by have := ab_bound 4 (n / 256 ^ t % 256) (by omega); omega)
  have hw := bf_bg (t + 1) (ab 4 (n / 256 ^ t % 256)) n
  rw [IntKind.wrap_i64, IntKind.wrap_i64] at hw
  generalize bf (ab 4 (n / 256 ^ t % 256)) (bg (t + 1) n) = c at *
  have ht : t = 0 ∨ t = 1 ∨ t = 2 ∨ t = 3 ∨ t = 4 ∨ t = 5 ∨ t = 6 ∨ t = 7 := by omega
  rcases ht with rfl | rfl | rfl | rfl | rfl | rfl | rfl | rfl <;> simp [ftB, ab] at hf hw <;> omega
theorem tB_plain (s : Nat) (n : Int) (r : List Int) (h1 : 1 ≤ s) (h2 : s ≤ 7) (h0 : 0 ≤ n) (hh : n ≤ 9223372036854775807) (hf : ftB n s = true) : tB 7 3 (bg s n ++ r) s = (n, r, 0) := by
  rw [tB_bg 7 3 s n r h1 (by omega)]
  have hb := bf_range (bg s n) 0 (by omega)
  have hw := bf_bg s 0 n
  rw [IntKind.wrap_i64, IntKind.wrap_i64] at hw
  have e : bf (ab 3 (gi (bg s n ++ r) 0)) (bg s n) = n := by
    show bf 0 (bg s n) = n
    generalize bf 0 (bg s n) = c at *
    have ht : s = 1 ∨ s = 2 ∨ s = 3 ∨ s = 4 ∨ s = 5 ∨ s = 6 ∨ s = 7 := by omega
    rcases ht with rfl | rfl | rfl | rfl | rfl | rfl | rfl <;> simp [ftB] at hf hw <;> omega
  rw [e]
theorem tB_some (s : Nat) (n z : Int) (r : List Int) (h1 : 1 ≤ z) (h2 : z ≤ 7) (h3 : z ≤ s) : ∃ d t, tB 7 3 (bg s n ++ r) z = (d, t, 0) := by
  unfold tB
  rw [if_neg (by omega), if_neg (by rw [List.length_append, bg_len]; omega)]
  exact ⟨_, _, rfl⟩

/-- Brought to one from 0 on, below a number. -/
def bring (i n : Int) : Int := if n ≤ 0 then 0 else i % n
theorem bring_pos (i : Int) {n : Int} (h : 0 < n) : bring i n = i % n := by
  unfold bring
  rw [if_neg (by omega)]
theorem tmod_neg {i n : Int} (h : i < 0) (hn : 0 < n) : (i.tmod n = i % n - n ∨ i.tmod n = i % n) ∧ -n < i.tmod n ∧ i.tmod n ≤ 0 := by
  have e := Int.tmod_eq_emod (a := i) (b := n)
  have h1 := Int.emod_nonneg i (show n ≠ 0 by omega)
  have h2 := Int.emod_lt_of_pos i hn
  split at e
  · rename_i hc
    have hd : n ∣ i := by rcases hc with hc | hc; omega; exact hc
    have hz : i % n = 0 := Int.emod_eq_zero_of_dvd hd
    omega
  · have : (n.natAbs : Int) = n := by omega
    omega
theorem tB_short (most wy s : Int) (l : List Int) (h1 : 1 ≤ s) (h2 : s ≤ most) (h3 : (l.length : Int) < s) : tB most wy l s = (0, [], 3) := by
  unfold tB
  rw [if_neg (by omega), if_pos h3]
theorem bring_nat (i : Int) {n : Nat} (h : 0 < n) : ∃ k : Nat, bring i n = k ∧ k < n := by
  rw [bring_pos i (by omega)]
  have h1 := Int.emod_nonneg i (show (n : Int) ≠ 0 by omega)
  have h2 := Int.emod_lt_of_pos i (show (0 : Int) < n by omega)
  exact ⟨(i % n).toNat, by omega, by omega⟩
/-- Which of two lists comes first: -1, 0, 1. -/
def cmpI : List Int → List Int → Int
  | [], [] => 0
  | [], _ :: _ => -1
  | _ :: _, [] => 1
  | a :: as, b :: bs => if a < b then -1 else if b < a then 1 else cmpI as bs
theorem pow_pos256 (s : Nat) : (0 : Int) < 256 ^ s := Int.pow_pos (by omega)
theorem cmpI_bg : ∀ (s : Nat) (a b : Int), (cmpI (bg s a) (bg s b) < 0 ↔ a % 256 ^ s < b % 256 ^ s) ∧ (cmpI (bg s a) (bg s b) = 0 ↔ a % 256 ^ s = b % 256 ^ s) := by
  intro s
  induction s with
  | zero =>
    intro a b
    simp [bg, cmpI, Int.emod_one]
  | succ s ih =>
    intro a b
    have hp := pow_pos256 s
    have ea := emod_two a _ hp
    have eb := emod_two b _ hp
    have a1 := Int.emod_nonneg a (show (256 : Int) ^ s ≠ 0 by omega)
    have a2 := Int.emod_lt_of_pos a hp
    have b1 := Int.emod_nonneg b (show (256 : Int) ^ s ≠ 0 by omega)
    have b2 := Int.emod_lt_of_pos b hp
    rw [Int.pow_succ, ea, eb]
    simp only [bg, cmpI]
    obtain ⟨i1, i2⟩ := ih a b
    generalize a / 256 ^ s % 256 = x at *
    generalize b / 256 ^ s % 256 = y at *
    generalize (256 : Int) ^ s = P at *
    by_cases h1 : x < y
    · rw [if_pos h1]
      have : (x + 1) * P ≤ y * P := Int.mul_le_mul_of_nonneg_right (by omega) (by omega)
      rw [Int.add_mul] at this
      refine ⟨⟨fun _ => by omega, fun _ => by omega⟩, ⟨fun h => by omega, fun h => by omega⟩⟩
    · rw [if_neg h1]
      by_cases h2 : y < x
      · rw [if_pos h2]
        have : (y + 1) * P ≤ x * P := Int.mul_le_mul_of_nonneg_right (by omega) (by omega)
        rw [Int.add_mul] at this
        refine ⟨⟨fun _ => by omega, fun _ => by omega⟩, ⟨fun h => by omega, fun h => by omega⟩⟩
      · rw [if_neg h2]
        have hxy : x = y := by omega
        subst hxy
        refine ⟨⟨fun h => ?_, fun h => i1.2 (by omega)⟩, ⟨fun h => ?_, fun h => i2.2 (by omega)⟩⟩
        · have := i1.1 h
          omega
        · have := i2.1 h
          omega
theorem cmpI_order (s : Nat) (a b : Int) (a0 : 0 ≤ a) (a1 : a < 256 ^ s) (b0 : 0 ≤ b) (b1 : b < 256 ^ s) : decide (cmpI (bg s a) (bg s b) < 0) = decide (a < b) ∧ (cmpI (bg s a) (bg s b) == 0) = (a == b) := by
  obtain ⟨h1, h2⟩ := cmpI_bg s a b
  rw [Int.emod_eq_of_lt a0 a1, Int.emod_eq_of_lt b0 b1] at h1 h2
  refine ⟨by rw [decide_eq_decide]; exact h1, ?_⟩
  rw [Bool.eq_iff_iff, beq_iff_eq, beq_iff_eq]
  exact h2
theorem cmpI_range : ∀ (l m : List Int), cmpI l m = -1 ∨ cmpI l m = 0 ∨ cmpI l m = 1 := by
  intro l
  induction l with
  | nil => intro m; cases m <;> simp [cmpI]
  | cons a l ih =>
    intro m
    cases m with
    | nil => simp [cmpI]
    | cons b m =>
      simp only [cmpI]
      split
      · exact .inl rfl
      · split
        · exact .inr (.inr rfl)
        · exact ih m
end Go.Proofs.Ytdjfdigaokokbaa
