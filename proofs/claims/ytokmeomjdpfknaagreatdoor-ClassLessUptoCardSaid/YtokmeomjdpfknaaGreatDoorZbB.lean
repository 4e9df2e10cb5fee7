/- Several texts of this proof, one behind the other. -/
import Derived.Test.YtokmeomjdpfknaaGreatDoorZbA
import Derived.Lib.ValidLaws
import Derived.Laws.StructEq
import Derived.Deep.QuietTactic
import Derived.RegionTactic
namespace Go.Proofs.YtokmeomjdpfknaaGreatDoor
open Go.Lib
set_option linter.unusedVariables false

def Sc (c : Int) : Prop := (0 ≤ c ∧ c < 55296) ∨ (57343 < c ∧ c ≤ 1114111)
instance (c : Int) : Decidable (Sc c) := by unfold Sc; infer_instance
theorem Sc.lo {c : Int} (h : Sc c) : 0 ≤ c := by unfold Sc at h; omega
theorem Sc.hi {c : Int} (h : Sc c) : c ≤ 1114111 := by unfold Sc at h; omega
theorem validRune_eq (c : Int) : validRune c = true ↔ Sc c := by
  unfold validRune Sc
  rw [decide_eq_true_iff]

def th (c : Int) : List Int := [224 + c / 4096, 128 + c / 64 % 64, 128 + c % 64]
def ch (c : Int) : List Int :=
  if 1 ≤ c ∧ c ≤ 127 then [c] else if c ≤ 2047 then [192 + c / 64, 128 + c % 64] else if c ≤ 65535 then th c else th (55296 + (c - 65536) / 1024) ++ th (56320 + (c - 65536) % 1024)
theorem ch1 {c : Int} (h : 1 ≤ c ∧ c ≤ 127) : ch c = [c] := by unfold ch; rw [if_pos h]
theorem ch2 {c : Int} (h : ¬ (1 ≤ c ∧ c ≤ 127)) (h2 : c ≤ 2047) : ch c = [192 + c / 64, 128 + c % 64] := by unfold ch; rw [if_neg h, if_pos h2]
theorem ch3 {c : Int} (h2 : 2047 < c) (h3 : c ≤ 65535) : ch c = th c := by unfold ch; rw [if_neg (by omega), if_neg (by omega), if_pos h3]
theorem ch6 {c : Int} (h3 : 65535 < c) : ch c = th (55296 + (c - 65536) / 1024) ++ th (56320 + (c - 65536) % 1024) := by unfold ch; rw [if_neg (by omega), if_neg (by omega), if_neg (by omega)]
theorem ch_cases {P : Int → List Int → Prop} (c : Int) (h0 : 0 ≤ c) (hc : c ≤ 1114111)
    (c1 : 1 ≤ c → c ≤ 127 → P c [c]) (c2 : (c = 0 ∨ 128 ≤ c) → c ≤ 2047 → P c [192 + c / 64, 128 + c % 64]) (c3 : 2048 ≤ c → c ≤ 65535 → P c [224 + c / 4096, 128 + c / 64 % 64, 128 + c % 64])
    (c6 : 65536 ≤ c → P c [224 + (55296 + (c - 65536) / 1024) / 4096, 128 + (55296 + (c - 65536) / 1024) / 64 % 64, 128 + (55296 + (c - 65536) / 1024) % 64, 224 + (56320 + (c - 65536) % 1024) / 4096, 128 + (56320 + (c - 65536) % 1024) / 64 % 64, 128 + (56320 + (c - 65536) % 1024) % 64]) : P c (ch c) := by
  by_cases h1 : 1 ≤ c ∧ c ≤ 127
  · rw [ch1 h1]; exact c1 h1.1 h1.2
  · by_cases h2 : c ≤ 2047
    · rw [ch2 h1 h2]; exact c2 (by omega) h2
    · by_cases h3 : c ≤ 65535
      · rw [ch3 (by omega) h3]; exact c3 (by omega) h3
      · rw [ch6 (by omega)]; exact c6 (by omega)
theorem ch_len (c : Int) : 1 ≤ (ch c).length ∧ (ch c).length ≤ 6 := by
  unfold ch th
  split
  · simp
  · split
    · simp
    · split <;> simp
def runesGo : Nat → List UInt8 → List Int
  | 0, _ => []
  | n + 1, l => if l = [] then [] else ((decodeL l).1 : Int) :: runesGo n (l.drop (decodeL l).2)
def runes (l : List UInt8) : List Int := runesGo l.length l
theorem runesGo_nil : ∀ n, runesGo n [] = []
  | 0 => rfl
  | _ + 1 => by simp [runesGo]
theorem runesGo_fuel : ∀ (n m : Nat) (l : List UInt8), l.length ≤ n → l.length ≤ m → runesGo n l = runesGo m l
  | 0, m, l, hn, _ => by
    have : l = [] := List.eq_nil_of_length_eq_zero (by omega)
    subst this
    rw [runesGo_nil, runesGo_nil]
  | n + 1, 0, l, _, hm => by
    have : l = [] := List.eq_nil_of_length_eq_zero (by omega)
    subst this
    rw [runesGo_nil, runesGo_nil]
  | n + 1, m + 1, l, hn, hm => by
    unfold runesGo
    by_cases hne : l = []
    · simp [hne]
    · have hw := decodeL_width l
      have hl : 0 < l.length := List.length_pos_iff.2 hne
      rw [if_neg hne, if_neg hne, runesGo_fuel n m (l.drop (decodeL l).2) (by rw [List.length_drop]; omega) (by rw [List.length_drop]; omega)]
theorem runes_nil : runes [] = [] := rfl
theorem runes_step (l : List UInt8) (hne : l ≠ []) : runes l = ((decodeL l).1 : Int) :: runes (l.drop (decodeL l).2) := by
  have hl : 0 < l.length := List.length_pos_iff.2 hne
  have hw := decodeL_width l
  obtain ⟨n, hn⟩ : ∃ n, l.length = n + 1 := ⟨l.length - 1, by omega⟩
  unfold runes
  rw [hn]
  show (if l = [] then [] else _) = _
  rw [if_neg hne, runesGo_fuel n (l.drop (decodeL l).2).length _ (by rw [List.length_drop]; omega) (Nat.le_refl _)]
theorem decodeL_sc (l : List UInt8) : Sc ((decodeL l).1 : Int) := by
  rw [decodeL_N]
  have k0 := (l.getD 0 0).toNat_lt
  rcases decodeN_shape l.length (l.getD 0 0).toNat (l.getD 1 0).toNat (l.getD 2 0).toNat (l.getD 3 0).toNat with ⟨c, e⟩ | ⟨c1, c2, c3, cv, e⟩ | ⟨c1, c2, c3, c4, cv, cs, e⟩ | ⟨c1, c2, c3, c4, c5, cv, cw, e⟩ | e
  all_goals
    rw [e]
    unfold Sc
    dsimp only
    omega
theorem runes_sc (l : List UInt8) : ∀ c ∈ runes l, Sc c := by
  obtain ⟨n, hn⟩ : ∃ n, l.length ≤ n := ⟨_, Nat.le_refl _⟩
  induction n generalizing l with
  | zero =>
    have : l = [] := List.eq_nil_of_length_eq_zero (by omega)
    subst this
    intro c hc; cases hc
  | succ n ih =>
    by_cases hne : l = []
    · subst hne; intro c hc; cases hc
    · rw [runes_step l hne]
      have hw := decodeL_width l
      have hl : 0 < l.length := List.length_pos_iff.2 hne
      intro c hc
      rcases List.mem_cons.1 hc with rfl | hc
      · exact decodeL_sc l
      · exact ih _ (by rw [List.length_drop]; omega) c hc
def mu (cs : List Int) : List Int := cs.flatMap ch
def utf (cs : List Int) : List UInt8 := cs.flatMap encodeRune
def encZ (l : List UInt8) : List Int := mu (runes l)
theorem mu_cons (c : Int) (cs : List Int) : mu (c :: cs) = ch c ++ mu cs := rfl
theorem mu_app (a b : List Int) : mu (a ++ b) = mu a ++ mu b := by simp [mu]
theorem mu_snoc (a : List Int) (c : Int) : mu (a ++ [c]) = mu a ++ ch c := by simp [mu]
theorem utf_cons (c : Int) (cs : List Int) : utf (c :: cs) = encodeRune c ++ utf cs := rfl
theorem utf_snoc (a : List Int) (c : Int) : utf (a ++ [c]) = utf a ++ encodeRune c := by simp [utf]
theorem encodeRune_len (c : Int) : 1 ≤ (encodeRune c).length ∧ (encodeRune c).length ≤ 4 := by
  unfold encodeRune
  rw [List.length_map]
  exact encodeRuneZ_length c
theorem ch_ge {c : Int} (h : Sc c) : (encodeRune c).length ≤ (ch c).length ∧ (ch c).length ≤ 2 * (encodeRune c).length := by
  unfold encodeRune
  rw [List.length_map]
  unfold Sc at h
  by_cases h1 : c ≤ 127
  · rw [encodeRuneZ_one (by omega) h1]
    have := ch_len c
    by_cases h0 : c = 0
    · subst h0; decide
    · rw [ch1 (by omega)]; simp
  · by_cases h2 : c ≤ 2047
    · rw [encodeRuneZ_two (by omega) h2, ch2 (by omega) h2]; simp
    · by_cases h3 : c ≤ 65535
      · rw [encodeRuneZ_three (by omega), ch3 (by omega) h3]; simp [th]
      · rw [encodeRuneZ_four (by omega) (by omega), ch6 (by omega)]; simp [th]
theorem utf_le {cs : List Int} (h : ∀ c ∈ cs, Sc c) : (utf cs).length ≤ (mu cs).length ∧ (mu cs).length ≤ 2 * (utf cs).length := by
  induction cs with
  | nil => simp [utf, mu]
  | cons c cs ih =>
    rw [utf_cons, mu_cons, List.length_append, List.length_append]
    have h1 := ch_ge (h c (by simp))
    have h2 := ih (fun d hd => h d (by simp [hd]))
    omega
theorem utf_runes (l : List UInt8) (hv : validD l = true) : utf (runes l) = l := by
  obtain ⟨n, hn⟩ : ∃ n, l.length ≤ n := ⟨_, Nat.le_refl _⟩
  induction n generalizing l with
  | zero =>
    have : l = [] := List.eq_nil_of_length_eq_zero (by omega)
    subst this
    rfl
  | succ n ih =>
    by_cases hne : l = []
    · subst hne; rfl
    · rw [validD_step l hne] at hv
      have hw := decodeL_width l
      have hl : 0 < l.length := List.length_pos_iff.2 hne
      by_cases hb : (decodeL l).1 = 65533 ∧ (decodeL l).2 = 1
      · rw [if_pos hb] at hv; cases hv
      · rw [if_neg hb] at hv
        rw [runes_step l hne, utf_cons, ih _ hv (by rw [List.length_drop]; omega), encode_decode l hne hb, List.take_append_drop]
theorem u8z (z : Int) (h0 : 0 ≤ z) (h1 : z < 256) : (z.toNat.toUInt8).toNat = z.toNat := by
  simp
  omega
theorem decodeL_encode {c : Int} (h : Sc c) (r : List UInt8) : ((decodeL (encodeRune c ++ r)).1 : Int) = c ∧ (decodeL (encodeRune c ++ r)).2 = (encodeRune c).length := by
  rw [decodeL_N]
  unfold encodeRune
  unfold Sc at h
  by_cases h1 : c ≤ 127
  · rw [encodeRuneZ_one (by omega) h1]
    simp only [List.map_cons, List.map_nil, List.cons_append, List.nil_append, List.getD_cons_zero, List.getD_cons_succ, List.length_cons, List.length_nil]
    rw [u8z _ (by omega) (by omega)]
    unfold decodeN
    rw [if_pos (by omega)]
    exact ⟨by dsimp only; omega, rfl⟩
  · by_cases h2 : c ≤ 2047
    · rw [encodeRuneZ_two (by omega) h2]
      simp only [List.map_cons, List.map_nil, List.cons_append, List.nil_append, List.getD_cons_zero, List.getD_cons_succ, List.length_cons, List.length_nil]
      rw [u8z _ (by omega) (by omega), u8z _ (by omega) (by omega)]
      unfold decodeN
      rw [if_neg (by omega), if_pos ⟨by omega, by omega, by omega⟩, if_pos (by omega)]
      exact ⟨by dsimp only; omega, rfl⟩
    · by_cases h3 : c ≤ 65535
      · rw [encodeRuneZ_three (by omega)]
        simp only [List.map_cons, List.map_nil, List.cons_append, List.nil_append, List.getD_cons_zero, List.getD_cons_succ, List.length_cons, List.length_nil]
        rw [u8z _ (by omega) (by omega), u8z _ (by omega) (by omega), u8z _ (by omega) (by omega)]
        unfold decodeN
        rw [if_neg (by omega), if_neg (by omega), if_pos ⟨by omega, ⟨by omega, by omega⟩, by omega, by omega⟩, if_pos (by omega)]
        exact ⟨by dsimp only; omega, rfl⟩
      · rw [encodeRuneZ_four (by omega) (by omega)]
        simp only [List.map_cons, List.map_nil, List.cons_append, List.nil_append, List.getD_cons_zero, List.getD_cons_succ, List.length_cons, List.length_nil]
        rw [u8z _ (by omega) (by omega), u8z _ (by omega) (by omega), u8z _ (by omega) (by omega), u8z _ (by omega) (by omega)]
        unfold decodeN
        rw [if_neg (by omega), if_neg (by omega), if_neg (by omega), if_pos ⟨by omega, ⟨by omega, by omega⟩, ⟨by omega, by omega⟩, by omega, by omega⟩, if_pos (by omega)]
        exact ⟨by dsimp only; omega, rfl⟩
theorem back_utf {cs : List Int} (h : ∀ c ∈ cs, Sc c) : validD (utf cs) = true ∧ runes (utf cs) = cs := by
  induction cs with
  | nil => exact ⟨rfl, rfl⟩
  | cons c cs ih =>
    obtain ⟨i1, i2⟩ := ih (fun d hd => h d (by simp [hd]))
    obtain ⟨d1, d2⟩ := decodeL_encode (h c (by simp)) (utf cs)
    have hl := encodeRune_len c
    have hne : encodeRune c ++ utf cs ≠ [] := fun e => by
      have := congrArg List.length e
      simp at this
      rw [this.1] at hl
      simp at hl
    have hd : (encodeRune c ++ utf cs).drop (encodeRune c).length = utf cs := by simp
    rw [utf_cons]
    constructor
    · rw [validD_step _ hne, d2, hd, i1, if_neg]
      rintro ⟨e1, e2⟩
      have hc : c = 65533 := by omega
      subst hc
      have : (encodeRune 65533).length = 3 := by decide
      omega
    · rw [runes_step _ hne, d1, d2, hd, i2]
def unitZ (b : List Int) : Int × Nat :=
  if 1 ≤ b.length ∧ 1 ≤ gi b 0 ∧ gi b 0 ≤ 127 then (gi b 0, 1)
  else if 2 ≤ b.length ∧ gi b 0 / 32 = 6 ∧ gi b 1 / 64 = 2 then (gi b 0 % 32 * 64 + gi b 1 % 64, 2)
  else if 3 ≤ b.length ∧ gi b 0 / 16 = 14 ∧ gi b 1 / 64 = 2 ∧ gi b 2 / 64 = 2 then (gi b 0 % 16 * 4096 + gi b 1 % 64 * 64 + gi b 2 % 64, 3)
  else (0, 0)
def badU (u : Int × Nat) : Prop := (u.2 = 2 ∧ u.1 < 128 ∧ u.1 ≠ 0) ∨ (u.2 = 3 ∧ u.1 < 2048) ∨ (56320 ≤ u.1 ∧ u.1 ≤ 57343)
instance (u : Int × Nat) : Decidable (badU u) := by unfold badU; infer_instance
def nextZ (b : List Int) : Int × Nat :=
  if badU (unitZ b) then (0, 0)
  else if (unitZ b).1 < 55296 ∨ 56319 < (unitZ b).1 then unitZ b
  else if (unitZ (b.drop (unitZ b).2)).2 ≠ 3 ∨ (unitZ (b.drop (unitZ b).2)).1 < 56320 ∨ 57343 < (unitZ (b.drop (unitZ b).2)).1 then (0, 0)
  else (65536 + ((unitZ b).1 - 55296) * 1024 + (unitZ (b.drop (unitZ b).2)).1 - 56320, 6)
theorem nextZ_bad {b : List Int} (h1 : badU (unitZ b)) : nextZ b = (0, 0) := by unfold nextZ; exact if_pos h1
theorem nextZ_one {b : List Int} (h1 : ¬ badU (unitZ b)) (h2 : (unitZ b).1 < 55296 ∨ 56319 < (unitZ b).1) : nextZ b = unitZ b := by unfold nextZ; exact (if_neg h1).trans (if_pos h2)
theorem nextZ_no {b : List Int} (h1 : ¬ badU (unitZ b)) (h2 : ¬ ((unitZ b).1 < 55296 ∨ 56319 < (unitZ b).1)) (h3 : (unitZ (b.drop (unitZ b).2)).2 ≠ 3 ∨ (unitZ (b.drop (unitZ b).2)).1 < 56320 ∨ 57343 < (unitZ (b.drop (unitZ b).2)).1) : nextZ b = (0, 0) := by unfold nextZ; exact (if_neg h1).trans ((if_neg h2).trans (if_pos h3))
theorem nextZ_two {b : List Int} (h1 : ¬ badU (unitZ b)) (h2 : ¬ ((unitZ b).1 < 55296 ∨ 56319 < (unitZ b).1)) (h3 : ¬ ((unitZ (b.drop (unitZ b).2)).2 ≠ 3 ∨ (unitZ (b.drop (unitZ b).2)).1 < 56320 ∨ 57343 < (unitZ (b.drop (unitZ b).2)).1)) : nextZ b = (65536 + ((unitZ b).1 - 55296) * 1024 + (unitZ (b.drop (unitZ b).2)).1 - 56320, 6) := by unfold nextZ; exact (if_neg h1).trans ((if_neg h2).trans (if_neg h3))
theorem unitZ_cases (b : List Int) :
    (1 ≤ b.length ∧ 1 ≤ gi b 0 ∧ gi b 0 ≤ 127 ∧ unitZ b = (gi b 0, 1)) ∨
    (2 ≤ b.length ∧ gi b 0 / 32 = 6 ∧ gi b 1 / 64 = 2 ∧ unitZ b = (gi b 0 % 32 * 64 + gi b 1 % 64, 2)) ∨
    (3 ≤ b.length ∧ gi b 0 / 16 = 14 ∧ gi b 1 / 64 = 2 ∧ gi b 2 / 64 = 2 ∧ unitZ b = (gi b 0 % 16 * 4096 + gi b 1 % 64 * 64 + gi b 2 % 64, 3)) ∨ unitZ b = (0, 0) := by
  unfold unitZ
  repeat' split
  · left; rename_i h; exact ⟨h.1, h.2.1, h.2.2, rfl⟩
  · right; left; rename_i h; exact ⟨h.1, h.2.1, h.2.2, rfl⟩
  · right; right; left; rename_i h; exact ⟨h.1, h.2.1, h.2.2.1, h.2.2.2, rfl⟩
  · right; right; right; rfl
theorem gi0 (x : Int) (l : List Int) : gi (x :: l) 0 = x := rfl
theorem giS (x : Int) (l : List Int) (n : Nat) : gi (x :: l) (n + 1) = gi l n := by simp [gi]
theorem takes1 : ∀ b : List Int, 1 ≤ b.length → b.take 1 = [gi b 0]
  | _ :: _, _ => rfl
theorem takes2 : ∀ b : List Int, 2 ≤ b.length → b.take 2 = [gi b 0, gi b 1]
  | [_], h => by simp at h
  | _ :: _ :: _, _ => rfl
theorem takes3 : ∀ b : List Int, 3 ≤ b.length → b.take 3 = [gi b 0, gi b 1, gi b 2]
  | [_], h => by simp at h
  | [_, _], h => by simp at h
  | _ :: _ :: _ :: _, _ => rfl
theorem unitZ_th (c : Int) (h0 : 2048 ≤ c) (h1 : c ≤ 65535) (r : List Int) : unitZ (th c ++ r) = (c, 3) := by
  unfold unitZ th
  simp only [List.cons_append, List.nil_append, gi0, giS, List.length_cons]
  rw [if_neg (by omega), if_neg (by omega), if_pos ⟨by omega, by omega, by omega, by omega⟩]
  congr 1
  omega
theorem nextZ_ch {c : Int} (h : Sc c) (r : List Int) : nextZ (ch c ++ r) = (c, (ch c).length) := by
  unfold Sc at h
  by_cases h1 : 1 ≤ c ∧ c ≤ 127
  · have e : unitZ (ch c ++ r) = (c, 1) := by
      rw [ch1 h1]
      unfold unitZ
      simp only [List.cons_append, List.nil_append, gi0, giS, List.length_cons]
      rw [if_pos ⟨by omega, by omega, by omega⟩]
    have hb : ¬ badU (unitZ (ch c ++ r)) := by rw [e]; unfold badU; dsimp only; omega
    rw [nextZ_one hb (by rw [e]; dsimp only; omega), e, ch1 h1]
    rfl
  · by_cases h2 : c ≤ 2047
    · have e : unitZ (ch c ++ r) = (c, 2) := by
        rw [ch2 h1 h2]
        unfold unitZ
        simp only [List.cons_append, List.nil_append, gi0, giS, List.length_cons]
        rw [if_neg (by omega), if_pos ⟨by omega, by omega, by omega⟩]
        congr 1
        omega
      have hb : ¬ badU (unitZ (ch c ++ r)) := by rw [e]; unfold badU; dsimp only; omega
      rw [nextZ_one hb (by rw [e]; dsimp only; omega), e, ch2 h1 h2]
      rfl
    · by_cases h3 : c ≤ 65535
      · have e : unitZ (ch c ++ r) = (c, 3) := by
          rw [ch3 (by omega) h3]
          exact unitZ_th c (by omega) h3 r
        have hb : ¬ badU (unitZ (ch c ++ r)) := by rw [e]; unfold badU; dsimp only; omega
        rw [nextZ_one hb (by rw [e]; dsimp only; omega), e, ch3 (by omega) h3]
        rfl
      · have e : unitZ (ch c ++ r) = (55296 + (c - 65536) / 1024, 3) := by
          rw [ch6 (by omega), List.append_assoc]
          exact unitZ_th _ (by omega) (by omega) _
        have e2 : unitZ ((ch c ++ r).drop 3) = (56320 + (c - 65536) % 1024, 3) := by
          rw [ch6 (by omega), List.append_assoc, List.drop_left' (by rfl)]
          exact unitZ_th _ (by omega) (by omega) _
        have hb : ¬ badU (unitZ (ch c ++ r)) := by rw [e]; unfold badU; dsimp only; omega
        have e3 : unitZ ((ch c ++ r).drop (unitZ (ch c ++ r)).2) = (56320 + (c - 65536) % 1024, 3) := by rw [e]; exact e2
        rw [nextZ_two hb (by rw [e]; dsimp only; omega) (by rw [e3]; dsimp only; omega), e3, e, ch6 (by omega)]
        refine Prod.ext ?_ rfl
        dsimp only
        omega
theorem Fit.gi {b : List Int} (h : Fit .u8 b) (j : Nat) : 0 ≤ gi b j ∧ gi b j < 256 := by
  by_cases hj : j < b.length
  · exact h.u8 (gi_mem hj)
  · unfold Go.Proofs.YtokmeomjdpfknaaGreatDoor.gi
    rw [List.getD_eq_getElem?_getD, List.getElem?_eq_none (by omega)]
    simp
theorem unitZ_zero {b : List Int} (h : (unitZ b).2 = 0) : unitZ b = (0, 0) := by
  rcases unitZ_cases b with ⟨_, _, _, e⟩ | ⟨_, _, _, e⟩ | ⟨_, _, _, _, e⟩ | e
  · rw [e] at h; simp at h
  · rw [e] at h; simp at h
  · rw [e] at h; simp at h
  · exact e
theorem nextZ_zero {b : List Int} (h : (nextZ b).2 = 0) : nextZ b = (0, 0) := by
  by_cases h1 : badU (unitZ b)
  · exact nextZ_bad h1
  · by_cases h2 : (unitZ b).1 < 55296 ∨ 56319 < (unitZ b).1
    · rw [nextZ_one h1 h2] at h ⊢
      exact unitZ_zero h
    · by_cases h3 : (unitZ (b.drop (unitZ b).2)).2 ≠ 3 ∨ (unitZ (b.drop (unitZ b).2)).1 < 56320 ∨ 57343 < (unitZ (b.drop (unitZ b).2)).1
      · exact nextZ_no h1 h2 h3
      · rw [nextZ_two h1 h2 h3] at h
        exact absurd h (by simp)
theorem unitZ_sound {b : List Int} (hf : Fit .u8 b) (h : (unitZ b).2 ≠ 0) (hb : ¬ badU (unitZ b)) : (unitZ b).2 ≤ b.length ∧ 0 ≤ (unitZ b).1 ∧ (unitZ b).1 ≤ 65535 ∧ b.take (unitZ b).2 = ch (unitZ b).1 ∧ (2048 ≤ (unitZ b).1 → (unitZ b).2 = 3) := by
  have g0 := hf.gi 0
  have g1 := hf.gi 1
  have g2 := hf.gi 2
  unfold badU at hb
  rcases unitZ_cases b with ⟨c1, c2, c3, e⟩ | ⟨c1, c2, c3, e⟩ | ⟨c1, c2, c3, c4, e⟩ | e
  · rw [e] at h hb ⊢
    dsimp only at h hb ⊢
    exact ⟨c1, by omega, by omega, by rw [takes1 b c1, ch1 ⟨c2, c3⟩], by omega⟩
  · rw [e] at h hb ⊢
    dsimp only at h hb ⊢
    refine ⟨c1, by omega, by omega, ?_, by omega⟩
    rw [takes2 b c1, ch2 (by omega) (by omega), show gi b 0 = 192 + (gi b 0 % 32 * 64 + gi b 1 % 64) / 64 by omega, show gi b 1 = 128 + (gi b 0 % 32 * 64 + gi b 1 % 64) % 64 by omega]
    congr 2 <;> omega
  · rw [e] at h hb ⊢
    dsimp only at h hb ⊢
    refine ⟨c1, by omega, by omega, ?_, fun _ => rfl⟩
    rw [takes3 b c1, ch3 (by omega) (by omega)]
    unfold th
    congr 1
    · omega
    · congr 1
      · omega
      · congr 1
        omega
  · rw [e] at h; exact absurd rfl h
theorem nextZ_sound {b : List Int} (hf : Fit .u8 b) (h : (nextZ b).2 ≠ 0) : Sc (nextZ b).1 ∧ (nextZ b).2 ≤ b.length ∧ b.take (nextZ b).2 = ch (nextZ b).1 := by
  by_cases h1 : badU (unitZ b)
  · rw [nextZ_bad h1] at h
    exact absurd rfl h
  · by_cases h2 : (unitZ b).1 < 55296 ∨ 56319 < (unitZ b).1
    · have e : nextZ b = unitZ b := nextZ_one h1 h2
      rw [e] at h ⊢
      obtain ⟨s1, s2, s3, s4, s5⟩ := unitZ_sound hf h h1
      refine ⟨?_, s1, s4⟩
      unfold badU at h1
      unfold Sc
      omega
    · by_cases h3 : (unitZ (b.drop (unitZ b).2)).2 ≠ 3 ∨ (unitZ (b.drop (unitZ b).2)).1 < 56320 ∨ 57343 < (unitZ (b.drop (unitZ b).2)).1
      · rw [nextZ_no h1 h2 h3] at h
        exact absurd rfl h
      · have e : nextZ b = (65536 + ((unitZ b).1 - 55296) * 1024 + (unitZ (b.drop (unitZ b).2)).1 - 56320, 6) := nextZ_two h1 h2 h3
        have hu : (unitZ b).2 ≠ 0 := fun e0 => by
          have := unitZ_zero e0
          rw [this] at h2
          exact h2 (by dsimp only; omega)
        obtain ⟨s1, s2, s3, s4, s5⟩ := unitZ_sound hf hu h1
        have h6 : (unitZ b).2 = 3 := s5 (by omega)
        have g0 := (hf.drop 3).gi 0
        have g1 := (hf.drop 3).gi 1
        have g2 := (hf.drop 3).gi 2
        rw [h6] at h3 e s1 s4
        rw [e]
        dsimp only
        rcases unitZ_cases (b.drop 3) with ⟨c1, c2, c3, e'⟩ | ⟨c1, c2, c3, e'⟩ | ⟨c1, c2, c3, c4, e'⟩ | e'
        · rw [e'] at h3; exact absurd (.inl (by simp)) h3
        · rw [e'] at h3; exact absurd (.inl (by simp)) h3
        · rw [e'] at h3 ⊢
          dsimp only at h3 ⊢
          rw [List.length_drop] at c1
          refine ⟨?_, by omega, ?_⟩
          · unfold Sc; omega
          · have t6 : b.take 6 = b.take 3 ++ (b.drop 3).take 3 := by
              rw [show (6 : Nat) = 3 + 3 from rfl, List.take_add]
            rw [t6, s4, takes3 (b.drop 3) (by rw [List.length_drop]; exact c1), ch3 (by omega) (by omega), ch6 (by omega)]
            unfold th
            simp only [List.cons_append, List.nil_append, List.cons.injEq, and_true]
            exact ⟨by omega, by omega, by omega, by omega, by omega, by omega⟩
        · rw [e'] at h3; exact absurd (.inl (by simp)) h3
theorem nextZ_len {b : List Int} (hf : Fit .u8 b) (h : (nextZ b).2 ≠ 0) : (nextZ b).2 = (ch (nextZ b).1).length := by
  obtain ⟨_, h1, h2⟩ := nextZ_sound hf h
  rw [← h2, List.length_take]
  omega

def rowZ (b : List Int) : Int × Nat :=
  if b = [] then (0, 0)
  else if gi b 0 < 192 then (gi b 0, 1)
  else if gi b 0 < 224 then (if 2 ≤ b.length then ((gi b 0 - 192) * 64 + gi b 1 % 64, 2) else (0, 0))
  else (if 3 ≤ b.length then ((gi b 0 - 224) * 4096 + gi b 1 % 64 * 64 + gi b 2 % 64, 3) else (0, 0))
def pairZ (b : List Int) : Int × Nat :=
  if 55296 ≤ (rowZ b).1 ∧ (rowZ b).1 < 56320 then (65536 + ((rowZ b).1 - 55296) * 1024 + ((rowZ (b.drop (rowZ b).2)).1 - 56320), (rowZ b).2 + (rowZ (b.drop (rowZ b).2)).2) else rowZ b
theorem pairZ_one {b : List Int} (h : ¬ (55296 ≤ (rowZ b).1 ∧ (rowZ b).1 < 56320)) : pairZ b = rowZ b := by unfold pairZ; exact if_neg h
theorem pairZ_two {b : List Int} (h : 55296 ≤ (rowZ b).1 ∧ (rowZ b).1 < 56320) : pairZ b = (65536 + ((rowZ b).1 - 55296) * 1024 + ((rowZ (b.drop (rowZ b).2)).1 - 56320), (rowZ b).2 + (rowZ (b.drop (rowZ b).2)).2) := by unfold pairZ; exact if_pos h
def takeZ (b : List Int) : Int × Nat := if Sc (pairZ b).1 ∧ b.take (pairZ b).2 = ch (pairZ b).1 then pairZ b else (0, 0)
theorem rowZ_th (c : Int) (h0 : 0 ≤ c) (h1 : c ≤ 65535) (r : List Int) : rowZ (th c ++ r) = (c, 3) := by
  unfold rowZ th
  simp only [List.cons_append, List.nil_append, gi0, giS, List.length_cons]
  rw [if_neg (by simp), if_neg (by omega), if_neg (by omega), if_pos (by omega)]
  congr 1
  omega
theorem pairZ_ch {c : Int} (h : Sc c) (r : List Int) : pairZ (ch c ++ r) = (c, (ch c).length) := by
  unfold Sc at h
  by_cases h1 : 1 ≤ c ∧ c ≤ 127
  · have e : rowZ (ch c ++ r) = (c, 1) := by
      rw [ch1 h1]
      unfold rowZ
      simp only [List.cons_append, List.nil_append, gi0, giS, List.length_cons]
      rw [if_neg (by simp), if_pos (by omega)]
    rw [pairZ_one (by rw [e]; dsimp only; omega), e, ch1 h1]
    rfl
  · by_cases h2 : c ≤ 2047
    · have e : rowZ (ch c ++ r) = (c, 2) := by
        rw [ch2 h1 h2]
        unfold rowZ
        simp only [List.cons_append, List.nil_append, gi0, giS, List.length_cons]
        rw [if_neg (by simp), if_neg (by omega), if_pos (by omega), if_pos (by omega)]
        congr 1
        omega
      rw [pairZ_one (by rw [e]; dsimp only; omega), e, ch2 h1 h2]
      rfl
    · by_cases h3 : c ≤ 65535
      · have e : rowZ (ch c ++ r) = (c, 3) := by
          rw [ch3 (by omega) h3]
          exact rowZ_th c (by omega) h3 r
        rw [pairZ_one (by rw [e]; dsimp only; omega), e, ch3 (by omega) h3]
        rfl
      · have e : rowZ (ch c ++ r) = (55296 + (c - 65536) / 1024, 3) := by
          rw [ch6 (by omega), List.append_assoc]
          exact rowZ_th _ (by omega) (by omega) _
        have e2 : rowZ ((ch c ++ r).drop 3) = (56320 + (c - 65536) % 1024, 3) := by
          rw [ch6 (by omega), List.append_assoc, List.drop_left' (by rfl)]
          exact rowZ_th _ (by omega) (by omega) _
        have e3 : rowZ ((ch c ++ r).drop (rowZ (ch c ++ r)).2) = (56320 + (c - 65536) % 1024, 3) := by rw [e]; exact e2
        rw [pairZ_two (by rw [e]; dsimp only; omega), e3, e, ch6 (by omega)]
        refine Prod.ext ?_ rfl
        dsimp only
        omega
theorem takeZ_eq {b : List Int} (hf : Fit .u8 b) : takeZ b = nextZ b := by
  by_cases h : Sc (pairZ b).1 ∧ b.take (pairZ b).2 = ch (pairZ b).1
  · have hl : (pairZ b).2 ≤ b.length ∨ b.length < (pairZ b).2 := by omega
    have hb : b = ch (pairZ b).1 ++ b.drop (pairZ b).2 := by rw [← h.2, List.take_append_drop]
    have e := nextZ_ch h.1 (b.drop (pairZ b).2)
    rw [← hb] at e
    have e2 := pairZ_ch h.1 (b.drop (pairZ b).2)
    rw [← hb] at e2
    unfold takeZ
    rw [if_pos h, e, ← e2]
  · unfold takeZ
    rw [if_neg h]
    by_cases hn : (nextZ b).2 = 0
    · exact (nextZ_zero hn).symm
    · exfalso
      obtain ⟨s1, s2, s3⟩ := nextZ_sound hf hn
      have hb : b = ch (nextZ b).1 ++ b.drop (nextZ b).2 := by rw [← s3, List.take_append_drop]
      have e := pairZ_ch s1 (b.drop (nextZ b).2)
      rw [← hb] at e
      apply h
      rw [e]
      exact ⟨s1, by dsimp only; rw [← nextZ_len hf hn]; exact s3⟩
theorem rowZ_bound {b : List Int} (hf : Fit .u8 b) : 0 ≤ (rowZ b).1 ∧ (rowZ b).1 ≤ 131071 ∧ (rowZ b).2 ≤ 3 ∧ (rowZ b).2 ≤ b.length := by
  have g0 := hf.gi 0
  have g1 := hf.gi 1
  have g2 := hf.gi 2
  unfold rowZ
  by_cases h0 : b = []
  · rw [if_pos h0]; simp
  · have hl : 0 < b.length := List.length_pos_iff.2 h0
    rw [if_neg h0]
    split
    · dsimp only; omega
    · split
      · split
        · dsimp only; omega
        · simp
      · split
        · dsimp only; omega
        · simp

def charsGo : Nat → List Int → List Int
  | 0, _ => []
  | n + 1, b => if b = [] ∨ (nextZ b).2 = 0 then [] else (nextZ b).1 :: charsGo n (b.drop (nextZ b).2)
def chs (b : List Int) : List Int := charsGo b.length b
theorem charsGo_nil : ∀ n, charsGo n [] = []
  | 0 => rfl
  | _ + 1 => by simp [charsGo]
theorem charsGo_fuel : ∀ (n m : Nat) (b : List Int), b.length ≤ n → b.length ≤ m → charsGo n b = charsGo m b
  | 0, m, b, hn, _ => by
    have : b = [] := List.eq_nil_of_length_eq_zero (by omega)
    subst this
    rw [charsGo_nil, charsGo_nil]
  | n + 1, 0, b, _, hm => by
    have : b = [] := List.eq_nil_of_length_eq_zero (by omega)
    subst this
    rw [charsGo_nil, charsGo_nil]
  | n + 1, m + 1, b, hn, hm => by
    unfold charsGo
    by_cases hb : b = [] ∨ (nextZ b).2 = 0
    · rw [if_pos hb, if_pos hb]
    · have hl : 0 < b.length := List.length_pos_iff.2 (fun e => hb (.inl e))
      have h2 : (nextZ b).2 ≠ 0 := fun e => hb (.inr e)
      rw [if_neg hb, if_neg hb, charsGo_fuel n m (b.drop (nextZ b).2) (by rw [List.length_drop]; omega) (by rw [List.length_drop]; omega)]
theorem chs_nil : chs [] = [] := rfl
theorem chs_stop {b : List Int} (h : (nextZ b).2 = 0) : chs b = [] := by
  unfold chs
  cases b.length with
  | zero => rfl
  | succ n => simp [charsGo, h]
theorem chs_step {b : List Int} (h : (nextZ b).2 ≠ 0) : chs b = (nextZ b).1 :: chs (b.drop (nextZ b).2) := by
  have hb : b ≠ [] := fun e => by subst e; exact h (by decide)
  have hl : 0 < b.length := List.length_pos_iff.2 hb
  obtain ⟨n, hn⟩ : ∃ n, b.length = n + 1 := ⟨b.length - 1, by omega⟩
  unfold chs
  rw [hn]
  show (if b = [] ∨ (nextZ b).2 = 0 then [] else _) = _
  rw [if_neg (by simp [hb, h]), charsGo_fuel n (b.drop (nextZ b).2).length _ (by rw [List.length_drop]; omega) (Nat.le_refl _)]
def stop (b : List Int) : Nat := (mu (chs b)).length
theorem chs_sound {b : List Int} (hf : Fit .u8 b) : (∀ c ∈ chs b, Sc c) ∧ b = mu (chs b) ++ b.drop (stop b) ∧ stop b ≤ b.length := by
  obtain ⟨n, hn⟩ : ∃ n, b.length ≤ n := ⟨_, Nat.le_refl _⟩
  induction n generalizing b with
  | zero =>
    have : b = [] := List.eq_nil_of_length_eq_zero (by omega)
    subst this
    exact ⟨fun c hc => (by cases hc), rfl, Nat.le_refl _⟩
  | succ n ih =>
    by_cases h : (nextZ b).2 = 0
    · unfold stop
      rw [chs_stop h]
      exact ⟨fun c hc => (by cases hc), rfl, Nat.zero_le _⟩
    · obtain ⟨s1, s2, s3⟩ := nextZ_sound hf h
      have s4 := nextZ_len hf h
      obtain ⟨i1, i2, i3⟩ := ih (hf.drop (nextZ b).2) (by rw [List.length_drop]; omega)
      unfold stop at i2 i3 ⊢
      rw [chs_step h, mu_cons, List.length_append, ← s4]
      refine ⟨fun c hc => ?_, ?_, ?_⟩
      · rcases List.mem_cons.1 hc with rfl | hc
        · exact s1
        · exact i1 c hc
      · rw [← s3, List.append_assoc, ← List.drop_drop, ← i2, List.take_append_drop]
      · rw [List.length_drop] at i3
        omega
theorem chs_mu {cs : List Int} (h : ∀ c ∈ cs, Sc c) (r : List Int) : chs (mu cs ++ r) = cs ++ chs r := by
  induction cs with
  | nil => rfl
  | cons c cs ih =>
    have e := nextZ_ch (h c (by simp)) (mu cs ++ r)
    have hl := (ch_len c).1
    rw [mu_cons, List.append_assoc, chs_step (by rw [e]; dsimp only; omega), e]
    dsimp only
    rw [List.drop_left, ih (fun d hd => h d (by simp [hd])), List.cons_append]
theorem chs_all {cs : List Int} (h : ∀ c ∈ cs, Sc c) : chs (mu cs) = cs ∧ stop (mu cs) = (mu cs).length := by
  have e := chs_mu h []
  rw [List.append_nil, chs_nil, List.append_nil] at e
  exact ⟨e, by unfold stop; rw [e]⟩
theorem drop_stop {b : List Int} (hf : Fit .u8 b) : mu (chs b) = b.take (stop b) := by
  obtain ⟨h1, h2, h3⟩ := chs_sound hf
  have := congrArg (List.take (stop b)) h2
  rw [this]
  unfold stop
  rw [List.take_left]
end Go.Proofs.YtokmeomjdpfknaaGreatDoor
namespace Go.Proofs.YtokmeomjdpfknaaGreatDoor

def isK (l : List Cst) (i k : Int) : Bool := decide (1 ≤ i) && (decide (i < l.length) && decide ((gc l i.toNat).k = k))
theorem isK_at {l : List Cst} {i k : Int} (h : isK l i k = true) : ∃ j : Nat, i = j ∧ 1 ≤ j ∧ j < l.length ∧ (gc l j).k = k := by
  simp [isK] at h
  exact ⟨i.toNat, by omega, by omega, by omega, h.2.2⟩
end Go.Proofs.YtokmeomjdpfknaaGreatDoor
namespace Go.Proofs.YtokmeomjdpfknaaGreatDoor
open Go.RowKit
set_option linter.unusedVariables false

noncomputable def eqC (x y : Cst) : Bool := @decide (x = y) (Classical.propDecidable _)
noncomputable def eqLP (l m : List Cst) : Bool := @decide (l = m) (Classical.propDecidable _)
theorem eqC_yes {x y : Cst} (h : x = y) : eqC x y = true := @decide_eq_true _ (Classical.propDecidable _) h
theorem eqC_no {x y : Cst} (h : ¬ x = y) : eqC x y = false := @decide_eq_false _ (Classical.propDecidable _) h
theorem eqL_yes {l m : List Cst} (h : l = m) : eqLP l m = true := @decide_eq_true _ (Classical.propDecidable _) h
theorem eqL_no {l m : List Cst} (h : ¬ l = m) : eqLP l m = false := @decide_eq_false _ (Classical.propDecidable _) h
theorem Cst.ext_ {x y : Cst} (h0 : x.k = y.k) (h1 : x.t = y.t) (h2 : x.n = y.n) (h3 : x.a = y.a) (h4 : x.b = y.b) (h5 : x.c = y.c) : x = y := by
  cases x; cases y
  simp only at h0 h1 h2 h3 h4 h5
  subst h0 h1 h2 h3 h4 h5
  rfl
theorem toList_inj {a b : ByteArray} (h : a.toList = b.toList) : a = b := by
  rw [ByteArray.toList_eq, ByteArray.toList_eq] at h
  exact ByteArray.ext (Array.toList_inj.1 h)
theorem ret_bP {b c : Bool} (h : b = c) : Ending.returned (.bool b) = .returned (.bool c) := by rw [h]
theorem run_neq6 (x y : Cst) (W : World) : (binOp .neq 49 (.agg x.vals) (.agg y.vals)).run Tryz.prog W = .ok (.bool (!eqC x y)) W := by
  unfold Cst.vals
  go_simp
  by_cases h : x = y
  · rw [eqC_yes h, h]
    simp
  · rw [eqC_no h]
    (repeat' split) <;> first | rfl | (exact (h (Cst.ext_ ‹x.k = y.k› (toList_inj ‹x.t.toList = y.t.toList›) ‹x.n = y.n› ‹x.a = y.a› ‹x.b = y.b› ‹x.c = y.c›)).elim)
theorem takeC_one {l : List Cst} {k : Nat} (h : k < l.length) : l.take (k + 1) = l.take k ++ [gc l k] := by
  rw [List.take_succ_eq_append_getElem h]
  simp [gc, h]
theorem ne_gc {l m : List Cst} {k : Nat} (h : ¬ gc l k = gc m k) : ¬ l = m := fun e => h (by rw [e])

set_option maxHeartbeats 1000000 in
theorem refSame_anyP (v1 v2 : Value) (l m : List Cst) (w : World) (h1 : RowC w v1 l) (h2 : RowC w v2 m) :
    Calls Tryz.prog 42 #[v1, v2] w (Quiet w (.bool (eqLP l m))) := by
  obtain ⟨A1, c1, rfl, hc1, hm1, ha1, hf1, hg1⟩ := h1
  obtain ⟨A2, c2, rfl, hc2, hm2, ha2, hf2, hg2⟩ := h2
  unfold maxLen at hm1 hm2
  by_cases hl : l.length = m.length
  · obtain ⟨n, hn⟩ : ∃ n, n = l.length := ⟨_, rfl⟩
    rw [← hn] at hc1 hg1
    rw [← hl, ← hn] at hc2 hg2
    rw [← hn, ← hl, ← hn]
    have Hn := Lib.hid hn
    have Hl := Lib.hid hl
    clear hn hl ha1 ha2
    go_enter Tryz.func42, Tryz.ntmps42
    go_wp2
    go_loopw [5] (fun i wr => ∃ k q : Nat, k ≤ n ∧ i = .int .i64 k ∧ wr = w.drewN q ∧ l.take k = m.take k) (fun i _ => n - (intOf i).toNat)
    case atStart => exact ⟨0, 0, by omega, rfl, rfl, rfl⟩
    case round =>
      obtain ⟨k, q, hk, rfl, rfl, ht⟩ := hrel
      have Ht := Lib.hid ht
      clear ht
      by_cases hlt : k < n
      · obtain ⟨b1, o1, rfl, hb1, hx1⟩ := hg1 (by omega)
        obtain ⟨b2, o2, rfl, hb2, hx2⟩ := hg2 (by omega)
        obtain ⟨y0, y1, y2, y3, y4, y5⟩ := hx1 k hlt
        obtain ⟨z0, z1, z2, z3, z4, z5⟩ := hx2 k hlt
        have hne := fun W => run_neq6 (gc l k) (gc m k) W
        unfold Cst.vals at hne
        clear hx1 hx2
        by_cases he : gc l k = gc m k
        · rw [eqC_yes he] at hne
          have HE := Lib.hid he
          clear he
          go_wp2
          go_quiet (fail)
          go_wp2
          refine ⟨⟨k + 1, q + nq, by omega, by go_num, rfl, ?_⟩, by simp [intOf]; omega⟩
          rw [takeC_one (by have := Hn.out; omega), takeC_one (by have := Hn.out; have := Hl.out; omega), Ht.out, HE.out]
        · rw [eqC_no he] at hne
          have HE := Lib.hid (eqL_no (ne_gc he))
          clear he
          go_wp2
          go_quiet (fail)
          go_wp2
          go_ret
          exact ⟨ret_bP HE.out.symm, q + nq, by rw [World.drewN_drewN]⟩
      · go_wp2
        go_ret
        refine ⟨ret_bP ?_, _, rfl⟩
        have hk' : k = n := by omega
        have e : l = m := by
          have := Ht.out
          rw [hk', Hn.out] at this
          rwa [List.take_length, Hl.out, List.take_length] at this
        rw [eqL_yes e]
  · have hb : ((l.length : Int) != (m.length : Int)) = true := by simp; omega
    have Hne := Lib.hid (eqL_no (show ¬ l = m from fun h => hl (by rw [h])))
    clear hg1 hg2 ha1 ha2 hf1 hf2 hl
    go_enter Tryz.func42, Tryz.ntmps42
    go_wp2
    go_ret
    exact ⟨ret_bP Hne.out.symm, 0, rfl⟩
end Go.Proofs.YtokmeomjdpfknaaGreatDoor
namespace Go.Proofs.YtokmeomjdpfknaaGreatDoor
theorem b32_and63 (x : Int) (h0 : 0 ≤ x) (h1 : x < 2147483648) : bits .and .i32 x 63 = x % 64 := bits_mask .i32 31 (by decide) wraps_i32 6 (by decide) x h0 h1
theorem b32_and1023 (x : Int) (h0 : 0 ≤ x) (h1 : x < 2147483648) : bits .and .i32 x 1023 = x % 1024 := bits_mask .i32 31 (by decide) wraps_i32 10 (by decide) x h0 h1
theorem b8_or128 (y : Int) (h0 : 0 ≤ y) (h1 : y < 64) : bits .or .u8 128 y = 128 + y := bits_join .u8 8 (by decide) wraps_u8 6 128 y (by decide) (by decide) (by decide) h0 h1 (by omega)
theorem b8_or192 (y : Int) (h0 : 0 ≤ y) (h1 : y < 64) : bits .or .u8 192 y = 192 + y := bits_join .u8 8 (by decide) wraps_u8 6 192 y (by decide) (by decide) (by decide) h0 h1 (by omega)
theorem b8_or224 (y : Int) (h0 : 0 ≤ y) (h1 : y < 32) : bits .or .u8 224 y = 224 + y := bits_join .u8 8 (by decide) wraps_u8 5 224 y (by decide) (by decide) (by decide) h0 h1 (by omega)
theorem b8_and63 (x : Int) (h0 : 0 ≤ x) (h1 : x < 256) : bits .and .u8 x 63 = x % 64 := bits_mask .u8 8 (by decide) wraps_u8 6 (by decide) x h0 h1
theorem b32_or6 (x y : Int) (h0 : 0 ≤ x) (h1 : x < 1000000) (hy0 : 0 ≤ y) (hy1 : y < 64) : bits .or .i32 (x * 64) y = x * 64 + y := bits_join .i32 31 (by decide) wraps_i32 6 (x * 64) y (by omega) (by simp) (by omega) hy0 hy1 (by omega)
end Go.Proofs.YtokmeomjdpfknaaGreatDoor
namespace Go.Proofs.YtokmeomjdpfknaaGreatDoor

def bring (i n : Int) : Int := if n ≤ 0 then 0 else i % n
theorem bring_pos (i : Int) {n : Int} (h : 0 < n) : bring i n = i % n := by
  unfold bring
  rw [if_neg (by omega)]
theorem tmod_neg {i n : Int} (h : i < 0) (hn : 0 < n) : (i.tmod n = i % n - n ∨ i.tmod n = i % n) ∧ -n < i.tmod n ∧ i.tmod n ≤ 0 := by
  have e := Int.tmod_eq_emod (a := i) (b := n)
  have h1 := Int.emod_nonneg i (show n ≠ 0 by omega)
  have h2 := Int.emod_lt_of_pos i hn
  split at e
  · rename_i hc
    have hd : n ∣ i := by rcases hc with hc | hc; omega; exact hc
    have hz : i % n = 0 := Int.emod_eq_zero_of_dvd hd
    omega
  · have : (n.natAbs : Int) = n := by omega
    omega
theorem bring_nat (i : Int) {n : Nat} (h : 0 < n) : ∃ k : Nat, bring i n = k ∧ k < n := by
  rw [bring_pos i (by omega)]
  have h1 := Int.emod_nonneg i (show (n : Int) ≠ 0 by omega)
  have h2 := Int.emod_lt_of_pos i (show (0 : Int) < n by omega)
  exact ⟨(i % n).toNat, by omega, by omega⟩
end Go.Proofs.YtokmeomjdpfknaaGreatDoor
