/- The document's answer of layer 1, walked: TakeS. -/
import Derived.Test.YtdjfdigaokokbaaLebRT
import Derived.Deep.RegionWith
namespace Go.Proofs.Ytdjfdigaokokbaa
open Go.RowKit
set_option linter.unusedVariables false

theorem pow128 (i : Nat) : (128 : Int) ^ i = ((2 ^ (7 * i) : Nat) : Int) := by
  rw [Nat.pow_mul]
  exact_mod_cast rfl
theorem pow128_le {i : Nat} (h : i ≤ 9) : (128 : Int) ^ i ≤ 9223372036854775808 := by
  have ht : i = 0 ∨ i = 1 ∨ i = 2 ∨ i = 3 ∨ i = 4 ∨ i = 5 ∨ i = 6 ∨ i = 7 ∨ i = 8 ∨ i = 9 := by omega
  rcases ht with rfl | rfl | rfl | rfl | rfl | rfl | rfl | rfl | rfl | rfl <;> decide
theorem lov_take {l : List Int} {i : Nat} (h : i ≤ l.length) : 0 ≤ lov (l.take i) ∧ lov (l.take i) < 128 ^ i := by
  have := lov_bound (l.take i)
  rwa [List.length_take, Nat.min_eq_left h] at this
theorem dig_step {l : List Int} {i : Nat} {m : Int} (h : i < l.length) (h8 : i ≤ 8) (hm : m = IntKind.u64.wrap (lov (l.take i))) : bits .or .u64 m (gi l i % 128 * 128 ^ i) = IntKind.u64.wrap (lov (l.take (i + 1))) := by
  obtain ⟨b0, b1⟩ := lov_take (l := l) (i := i) (by omega)
  have hp := pow128_le (i := i + 1) (by omega)
  have hp0 := pow128_le (i := i) (by omega)
  rw [Int.pow_succ] at hp
  have hm2 : m = lov (l.take i) := by
    rw [hm, IntKind.wrap_u64]
    omega
  rw [lov_step h, ← hm2]
  have h0 : 0 ≤ gi l i % 128 ∧ gi l i % 128 < 128 := by omega
  rw [← hm2] at b0 b1
  generalize gi l i % 128 = d at *
  have e : d * 128 ^ i = ((2 ^ (7 * i) * d.toNat : Nat) : Int) := by
    rw [pow128, Int.natCast_mul, Int.mul_comm]
    congr 1
    omega
  have hle : d * 128 ^ i ≤ 127 * 128 ^ i := Int.mul_le_mul_of_nonneg_right (by omega) (by omega)
  rw [e]
  rw [e] at hle
  rw [pow128] at b1 hle hp
  rw [or_high m (7 * i) d.toNat b0 b1 (by omega), IntKind.wrap_u64]
  omega
theorem dig_nine {l : List Int} {m : Int} (h : 9 < l.length) (hm : m = IntKind.u64.wrap (lov (l.take 9))) : bits .or .u64 m (IntKind.u64.wrap (gi l 9 % 128 * 9223372036854775808)) = IntKind.u64.wrap (lov (l.take 10)) := by
  obtain ⟨b0, b1⟩ := lov_take (l := l) (i := 9) (by omega)
  have hp0 : (128 : Int) ^ 9 = 9223372036854775808 := by decide
  rw [hp0] at b1
  have hm2 : m = lov (l.take 9) := by
    rw [hm, IntKind.wrap_u64]
    omega
  rw [show lov (l.take 10) = lov (l.take 9) + gi l 9 % 128 * 128 ^ 9 from lov_step h, ← hm2, hp0]
  rw [← hm2] at b0 b1
  have h0 : 0 ≤ gi l 9 % 128 ∧ gi l 9 % 128 < 128 := by omega
  generalize gi l 9 % 128 = d at *
  have e : IntKind.u64.wrap (d * 9223372036854775808) = ((2 ^ 63 * (d % 2).toNat : Nat) : Int) := by
    rw [IntKind.wrap_u64]
    omega
  rw [e, or_high m 63 (d % 2).toNat b0 (by simpa using b1) (by omega), IntKind.wrap_u64]
  omega
/-- The tenth digit is all sign. -/
theorem dg_ten (n : Int) (h : InB 2 9 n) (hl : (dg 2 10 n).length = 10) : gi (dg 2 10 n) 9 = 0 ∨ gi (dg 2 10 n) 9 = 127 := by
  have go : ∀ (f : Nat) (m : Int), InB 2 f m → (dg 2 (f + 1) m).length = f + 1 → gi (dg 2 (f + 1) m) f = 0 ∨ gi (dg 2 (f + 1) m) f = 127 := by
    intro f
    induction f with
    | zero =>
      intro m hb _
      rw [dg_last 0 hb.last]
      obtain ⟨h1, h2, _⟩ := hb
      rw [Int.pow_zero] at h1 h2
      show m % 128 = 0 ∨ m % 128 = 127
      omega
    | succ f ih =>
      intro m hb hl
      by_cases hc : m / 128 = ab 2 (m % 128)
      · rw [dg_last _ hc] at hl
        simp at hl
      · rw [dg_step _ hc] at hl ⊢
        exact ih (m / 128) hb.next (by simpa using hl)
  exact go 9 n h hl
theorem tS_eq {l : List Int} {k : Nat} (h10 : k < 10) (hk : k < l.length) (hg : ∀ j, j < k → 128 ≤ gi l j) (hx : gi l k < 128) :
    tS 10 2 l = if l.take (k + 1) = dg 2 10 (wo 2 (l.take (k + 1))) then (wo 2 (l.take (k + 1)), l.drop (k + 1), 0) else (0, [], 4) := by
  have hfb := fb_is l k hk hg hx
  have hsp := spn_ok (most := 10) hk h10 hg hx
  unfold tS
  rw [hsp, if_pos rfl, hfb]
theorem tS_nine {l : List Int} (hf : Fit .u8 l) (hk : 9 < l.length) (h0 : ¬ gi l 9 = 0) (h1 : ¬ gi l 9 = 127) : ¬ l.take (9 + 1) = dg 2 10 (wo 2 (l.take (9 + 1))) := by
  intro e
  have hlen : (l.take (9 + 1)).length = 10 := by simp; omega
  have hb := wo_bound 2 (l.take (9 + 1)) (by omega) (hf.take _)
  have ht := dg_ten (wo 2 (l.take (9 + 1))) (InB.start hb.1 hb.2 (.inl rfl)) (by rw [← e]; exact hlen)
  rw [← e] at ht
  have e2 : gi (l.take (9 + 1)) 9 = gi l 9 := by simp [gi]
  omega
theorem tS_trunc {l : List Int} (h : l.length < 10) (hg : ∀ j, j < l.length → 128 ≤ gi l j) : tS 10 2 l = (0, [], 3) := by
  have hsp := spn_end (most := 10) h hg
  rw [tS_bad (by rw [hsp]; simp), hsp]
theorem tS_long {l : List Int} (h : 10 ≤ l.length) (hg : ∀ j, j < 10 → 128 ≤ gi l j) : tS 10 2 l = (0, [], 4) := by
  have hsp := spn_most (most := 10) h hg
  rw [tS_bad (by rw [hsp]; simp), hsp]
/-- Without bits above: the number's sign needs none, or there is no room. -/
theorem sign_none {l : List Int} {k : Nat} {m : Int} (hf : Fit .u8 l) (hk : k < l.length) (h9 : k ≤ 9) (hx : gi l k < 64 ∨ k = 9) (hx2 : gi l k < 128) (hm : m = IntKind.u64.wrap (lov (l.take (k + 1)))) : wrap64 m = wo 2 (l.take (k + 1)) := by
  have hlen : (l.take (k + 1)).length = k + 1 := by simp; omega
  have h := wo_lov 2 (l.take (k + 1)) (by omega) (hf.take _)
  have hg := hf.u8 (gi_mem (l := l) (j := k) hk)
  rw [hlen, lst_take hk] at h
  rw [h, hm, ← IntWalk.i64_left, wrap_both]
  rcases hx with hx | rfl
  · have e : ab 2 (gi l k) = 0 := by rw [ab_two]; omega
    rw [e, Int.zero_mul, Int.add_zero]
  · have e : (128 : Int) ^ (9 + 1) = 1180591620717411303424 := by decide
    have e2 : ab 2 (gi l 9) = 0 ∨ ab 2 (gi l 9) = -1 := by rw [ab_two]; omega
    rw [e, IntKind.wrap_i64, IntKind.wrap_i64]
    rcases e2 with e2 | e2 <;> rw [e2] <;> omega
theorem sign_some {l : List Int} {k : Nat} {m : Int} (hf : Fit .u8 l) (hk : k < l.length) (h8 : k ≤ 8) (hx : 64 ≤ gi l k) (hx2 : gi l k < 128) (hm : m = IntKind.u64.wrap (lov (l.take (k + 1)))) : wrap64 (bits .or .u64 m ((2 ^ (7 * (k + 1)) * (2 ^ (64 - 7 * (k + 1)) - 1) : Nat) : Int)) = wo 2 (l.take (k + 1)) := by
  have hlen : (l.take (k + 1)).length = k + 1 := by simp; omega
  have h := wo_lov 2 (l.take (k + 1)) (by omega) (hf.take _)
  rw [hlen, lst_take hk] at h
  have e : ab 2 (gi l k) = -1 := by rw [ab_two]; omega
  obtain ⟨b0, b1⟩ := lov_take (l := l) (i := k + 1) (by omega)
  rw [e] at h
  rw [h, hm, ← IntWalk.i64_left]
  generalize lov (l.take (k + 1)) = q at *
  have ht : k = 0 ∨ k = 1 ∨ k = 2 ∨ k = 3 ∨ k = 4 ∨ k = 5 ∨ k = 6 ∨ k = 7 ∨ k = 8 := by omega
  rcases ht with rfl | rfl | rfl | rfl | rfl | rfl | rfl | rfl | rfl
  · have e1 : (128 : Int) ^ (0 + 1) = 128 := by decide
    rw [e1] at b1 ⊢
    have e2 : IntKind.u64.wrap q = q := by rw [IntKind.wrap_u64]; omega
    rw [e2, or_high q (7 * (0 + 1)) (2 ^ (64 - 7 * (0 + 1)) - 1) b0 (lt_eq b1 (by decide)) (by decide), show ((2 ^ (7 * (0 + 1)) * (2 ^ (64 - 7 * (0 + 1)) - 1) : Nat) : Int) = 18446744073709551488 from by decide, IntKind.wrap_i64, IntKind.wrap_i64]
    omega
  · have e1 : (128 : Int) ^ (1 + 1) = 16384 := by decide
    rw [e1] at b1 ⊢
    have e2 : IntKind.u64.wrap q = q := by rw [IntKind.wrap_u64]; omega
    rw [e2, or_high q (7 * (1 + 1)) (2 ^ (64 - 7 * (1 + 1)) - 1) b0 (lt_eq b1 (by decide)) (by decide), show ((2 ^ (7 * (1 + 1)) * (2 ^ (64 - 7 * (1 + 1)) - 1) : Nat) : Int) = 18446744073709535232 from by decide, IntKind.wrap_i64, IntKind.wrap_i64]
    omega
  · have e1 : (128 : Int) ^ (2 + 1) = 2097152 := by decide
    rw [e1] at b1 ⊢
    have e2 : IntKind.u64.wrap q = q := by rw [IntKind.wrap_u64]; omega
    rw [e2, or_high q (7 * (2 + 1)) (2 ^ (64 - 7 * (2 + 1)) - 1) b0 (lt_eq b1 (by decide)) (by decide), show ((2 ^ (7 * (2 + 1)) * (2 ^ (64 - 7 * (2 + 1)) - 1) : Nat) : Int) = 18446744073707454464 from by decide, IntKind.wrap_i64, IntKind.wrap_i64]
    omega
  · have e1 : (128 : Int) ^ (3 + 1) = 268435456 := by decide
    rw [e1] at b1 ⊢
    have e2 : IntKind.u64.wrap q = q := by rw [IntKind.wrap_u64]; omega
    rw [e2, or_high q (7 * (3 + 1)) (2 ^ (64 - 7 * (3 + 1)) - 1) b0 (lt_eq b1 (by decide)) (by decide), show ((2 ^ (7 * (3 + 1)) * (2 ^ (64 - 7 * (3 + 1)) - 1) : Nat) : Int) = 18446744073441116160 from by decide, IntKind.wrap_i64, IntKind.wrap_i64]
    omega
  · have e1 : (128 : Int) ^ (4 + 1) = 34359738368 := by decide
    rw [e1] at b1 ⊢
    have e2 : IntKind.u64.wrap q = q := by rw [IntKind.wrap_u64]; omega
    rw [e2, or_high q (7 * (4 + 1)) (2 ^ (64 - 7 * (4 + 1)) - 1) b0 (lt_eq b1 (by decide)) (by decide), show ((2 ^ (7 * (4 + 1)) * (2 ^ (64 - 7 * (4 + 1)) - 1) : Nat) : Int) = 18446744039349813248 from by decide, IntKind.wrap_i64, IntKind.wrap_i64]
    omega
  · have e1 : (128 : Int) ^ (5 + 1) = 4398046511104 := by decide
    rw [e1] at b1 ⊢
    have e2 : IntKind.u64.wrap q = q := by rw [IntKind.wrap_u64]; omega
    rw [e2, or_high q (7 * (5 + 1)) (2 ^ (64 - 7 * (5 + 1)) - 1) b0 (lt_eq b1 (by decide)) (by decide), show ((2 ^ (7 * (5 + 1)) * (2 ^ (64 - 7 * (5 + 1)) - 1) : Nat) : Int) = 18446739675663040512 from by decide, IntKind.wrap_i64, IntKind.wrap_i64]
    omega
  · have e1 : (128 : Int) ^ (6 + 1) = 562949953421312 := by decide
    rw [e1] at b1 ⊢
    have e2 : IntKind.u64.wrap q = q := by rw [IntKind.wrap_u64]; omega
    rw [e2, or_high q (7 * (6 + 1)) (2 ^ (64 - 7 * (6 + 1)) - 1) b0 (lt_eq b1 (by decide)) (by decide), show ((2 ^ (7 * (6 + 1)) * (2 ^ (64 - 7 * (6 + 1)) - 1) : Nat) : Int) = 18446181123756130304 from by decide, IntKind.wrap_i64, IntKind.wrap_i64]
    omega
  · have e1 : (128 : Int) ^ (7 + 1) = 72057594037927936 := by decide
    rw [e1] at b1 ⊢
    have e2 : IntKind.u64.wrap q = q := by rw [IntKind.wrap_u64]; omega
    rw [e2, or_high q (7 * (7 + 1)) (2 ^ (64 - 7 * (7 + 1)) - 1) b0 (lt_eq b1 (by decide)) (by decide), show ((2 ^ (7 * (7 + 1)) * (2 ^ (64 - 7 * (7 + 1)) - 1) : Nat) : Int) = 18374686479671623680 from by decide, IntKind.wrap_i64, IntKind.wrap_i64]
    omega
  · have e1 : (128 : Int) ^ (8 + 1) = 9223372036854775808 := by decide
    rw [e1] at b1 ⊢
    have e2 : IntKind.u64.wrap q = q := by rw [IntKind.wrap_u64]; omega
    rw [e2, or_high q (7 * (8 + 1)) (2 ^ (64 - 7 * (8 + 1)) - 1) b0 (lt_eq b1 (by decide)) (by decide), show ((2 ^ (7 * (8 + 1)) * (2 ^ (64 - 7 * (8 + 1)) - 1) : Nat) : Int) = 9223372036854775808 from by decide, IntKind.wrap_i64, IntKind.wrap_i64]
    omega
theorem high_const {k : Nat} (h : k ≤ 8) : IntKind.u64.wrap (18446744073709551615 * 2 ^ (7 * (k + 1))) = ((2 ^ (7 * (k + 1)) * (2 ^ (64 - 7 * (k + 1)) - 1) : Nat) : Int) := by
  have ht : k = 0 ∨ k = 1 ∨ k = 2 ∨ k = 3 ∨ k = 4 ∨ k = 5 ∨ k = 6 ∨ k = 7 ∨ k = 8 := by omega
  rcases ht with rfl | rfl | rfl | rfl | rfl | rfl | rfl | rfl | rfl <;> decide +kernel
theorem sign_some2 {l : List Int} {k : Nat} {m : Int} (hf : Fit .u8 l) (hk : k < l.length) (h8 : k ≤ 8) (hx : 64 ≤ gi l k) (hx2 : gi l k < 128) (hm : m = IntKind.u64.wrap (lov (l.take (k + 1)))) : wrap64 (bits .or .u64 m (IntKind.u64.wrap (18446744073709551615 * 2 ^ (7 * (k + 1))))) = wo 2 (l.take (k + 1)) := by
  rw [high_const h8]
  exact sign_some hf hk h8 hx hx2 hm
end Go.Proofs.Ytdjfdigaokokbaa
