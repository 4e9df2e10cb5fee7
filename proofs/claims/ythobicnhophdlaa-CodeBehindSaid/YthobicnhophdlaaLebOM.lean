/- Numbers in one, two, four bytes: leb's words and those of instructions are one. -/
import Derived.Test.YthobicnhophdlaaLebSpec
import Derived.Test.YthobicnhophdlaaOpsSpec
namespace Go.Proofs.Ythobicnhophdlaa
set_option linter.unusedVariables false

theorem bS_1 {n : Int} (h : -128 ≤ n ∧ n ≤ 255) : bS n 1 = (be1 n, 0) := by
  have hf : ftB n 1 = true := by simp [ftB]; omega
  unfold bS
  rw [if_neg (by omega), if_pos hf]
  simp [bg, be1]
theorem bS_2 {n : Int} (h : -32768 ≤ n ∧ n ≤ 65535) : bS n 2 = (be2 n, 0) := by
  have hf : ftB n 2 = true := by simp [ftB]; omega
  unfold bS
  rw [if_neg (by omega), if_pos hf]
  simp [bg, be2]
theorem bS_4 {n : Int} (h : -2147483648 ≤ n ∧ n ≤ 4294967295) : bS n 4 = (be4 n, 0) := by
  have hf : ftB n 4 = true := by simp [ftB]; omega
  unfold bS
  rw [if_neg (by omega), if_pos hf]
  simp [bg, be4]
theorem wr {n : Int} (h0 : -9223372036854775808 ≤ n) (h1 : n ≤ 9223372036854775807) : IntKind.i64.wrap n = n := by rw [IntKind.wrap_i64]; omega
/-- A number of s bytes off the beginning of bytes, with a sign or without. -/
def pk (s : Nat) (sg : Bool) (l : List Int) : Int :=
  match s, sg, l with
  | 1, false, p :: _ => p
  | 1, true, p :: _ => s1 p
  | 2, false, p :: q :: _ => u2 p q
  | 2, true, p :: q :: _ => s2 (u2 p q)
  | 4, true, b :: c :: d :: e :: _ => s4 (u4 b c d e)
  | _, _, _ => 0
/-- Numbers that an instruction has. -/
def Siz (s : Nat) (sg : Bool) : Prop := (s = 1 ∧ sg = false) ∨ (s = 1 ∧ sg = true) ∨ (s = 2 ∧ sg = false) ∨ (s = 2 ∧ sg = true) ∨ (s = 4 ∧ sg = true)
theorem Siz.le {s : Nat} {sg : Bool} (h : Siz s sg) : 1 ≤ s ∧ s ≤ 4 := by unfold Siz at h; omega
def tBs (sg : Bool) (l : List Int) (s : Int) : Int × List Int × Int := match sg with | true => tB 8 4 l s | false => tB 7 3 l s
theorem tB_short {most wy : Int} {l : List Int} {s : Nat} (h1 : 1 ≤ s) (h2 : (s : Int) ≤ most) (h : l.length < s) : tB most wy l s = (0, [], 3) := by
  unfold tB
  rw [if_neg (by omega), if_pos (by omega)]
theorem tBs_short {sg : Bool} {l : List Int} {s : Nat} (h1 : 1 ≤ s) (h2 : s ≤ 4) (h : l.length < s) : tBs sg l s = (0, [], 3) := by
  unfold tBs
  cases sg
  · exact tB_short h1 (by omega) h
  · exact tB_short h1 (by omega) h
theorem ab3 (x : Int) : ab 3 x = 0 := rfl
theorem ab4 {x : Int} (h : B8 x) : ab 4 x = if x < 128 then 0 else -1 := by
  unfold B8 at h
  unfold ab
  simp
  split <;> omega
theorem tBs_ok {sg : Bool} {l : List Int} {s : Nat} (hs : Siz s sg) (hb : ∀ c ∈ l, B8 c) (h : s ≤ l.length) : tBs sg l s = (pk s sg l, l.drop s, 0) := by
  rcases hs with ⟨rfl, rfl⟩ | ⟨rfl, rfl⟩ | ⟨rfl, rfl⟩ | ⟨rfl, rfl⟩ | ⟨rfl, rfl⟩
  · match l, h, hb with
    | p :: l, h, hb =>
      have h0 := hb p (by simp)
      unfold B8 at h0
      simp only [tBs, tB, pk]
      rw [if_neg (by omega), if_neg (by simp at h ⊢; omega)]
      simp [bf, ab3, gi]
      rw [wr (by omega) (by omega)]
  · match l, h, hb with
    | p :: l, h, hb =>
      have h0 := hb p (by simp)
      have h0' := h0
      unfold B8 at h0
      simp only [tBs, tB, pk]
      rw [if_neg (by omega), if_neg (by simp at h ⊢; omega)]
      simp [bf, ab4 h0', gi, s1]
      split
      · rw [wr (by omega) (by omega)]; omega
      · rw [wr (by omega) (by omega)]; omega
  · match l, h, hb with
    | p :: q :: l, h, hb =>
      have h0 := hb p (by simp)
      have h1 := hb q (by simp)
      unfold B8 at h0 h1
      simp only [tBs, tB, pk]
      rw [if_neg (by omega), if_neg (by simp at h ⊢; omega)]
      simp [bf, ab3, gi, u2]
      rw [wr (n := p) (by omega) (by omega), wr (by omega) (by omega)]
  · match l, h, hb with
    | p :: q :: l, h, hb =>
      have h0 := hb p (by simp)
      have h1 := hb q (by simp)
      have h0' := h0
      unfold B8 at h0 h1
      simp only [tBs, tB, pk]
      rw [if_neg (by omega), if_neg (by simp at h ⊢; omega)]
      simp [bf, ab4 h0', gi]
      unfold s2 u2
      split
      · rw [wr (n := 0 * 256 + p) (by omega) (by omega), wr (by omega) (by omega), if_pos (by omega)]
        omega
      · rw [wr (n := -1 * 256 + p) (by omega) (by omega), wr (by omega) (by omega), if_neg (by omega)]
        omega
  · match l, h, hb with
    | b :: c :: d :: e :: l, h, hb =>
      have h0 := hb b (by simp)
      have h1 := hb c (by simp)
      have h2 := hb d (by simp)
      have h3 := hb e (by simp)
      have h0' := h0
      unfold B8 at h0 h1 h2 h3
      simp only [tBs, tB, pk]
      rw [if_neg (by omega), if_neg (by simp at h ⊢; omega)]
      simp [bf, ab4 h0', gi]
      unfold s4 u4
      split
      · rw [wr (n := 0 * 256 + b) (by omega) (by omega), wr (n := (0 * 256 + b) * 256 + c) (by omega) (by omega), wr (n := ((0 * 256 + b) * 256 + c) * 256 + d) (by omega) (by omega), wr (by omega) (by omega), if_pos (by omega)]
        omega
      · rw [wr (n := -1 * 256 + b) (by omega) (by omega), wr (n := (-1 * 256 + b) * 256 + c) (by omega) (by omega), wr (n := ((-1 * 256 + b) * 256 + c) * 256 + d) (by omega) (by omega), wr (by omega) (by omega), if_neg (by omega)]
        omega
end Go.Proofs.Ythobicnhophdlaa
