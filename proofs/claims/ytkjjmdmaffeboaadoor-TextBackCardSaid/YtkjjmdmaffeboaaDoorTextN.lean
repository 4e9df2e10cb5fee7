/- The document's answer for texts: the character that is written from a place on. -/
import Derived.Test.YtkjjmdmaffeboaaDoorTextU
namespace Go.Proofs.YtkjjmdmaffeboaaDoor
open Go.RowKit
set_option linter.unusedVariables false

theorem UnitAns.val {u v : Int × Nat} (h : v = u) {w : World} {e : Ending} {w' : World} (k : UnitAns w u e w') : UnitAns w v e w' := by rw [h]; exact k
set_option maxHeartbeats 400000 in
theorem unit_end (w : World) (A : Option Addr) (c n : Nat) (hlc : n ≤ c) (hc : c ≤ 9223372036854775807) :
    Calls Tryd.prog 40 #[.slice A n c, .int .i64 n] w (UnitAns w (0, 0)) := by
  go_enter Tryd.func40, Tryd.ntmps40
  go_wp2
  refine wp_loop_rounds 1 ?_
  rw [rounds_succ]
  go_wp2
  go_ret2
  exact ⟨rfl, (Ext.refl _).alloc _⟩
theorem unit_any (v : Value) (b : List Int) (n : Nat) (w : World) (h : Row w .u8 v b) (hn : n ≤ b.length) :
    Calls Tryd.prog 40 #[v, .int .i64 n] w (UnitAns w (unitZ (b.drop n))) := by
  rw [unitZ_N]
  have hf := h.fit
  obtain ⟨A, c, rfl, h2, h3, h4, h5, h6⟩ := h
  have hc : c ≤ 9223372036854775807 := by unfold maxLen at h3; omega
  have g0 := hf.gi n
  have g1 := hf.gi (n + 1)
  have g2 := hf.gi (n + 2)
  obtain ⟨L, hL⟩ : ∃ L, b.length - n = L := ⟨_, rfl⟩
  rw [hL]
  by_cases hend : b.length = n
  · rw [unitN_0 (by omega) (by omega) (by omega), ← hend]
    exact unit_end w A c b.length h2 hc
  · obtain ⟨bl, o, rfl, hb, hx⟩ := h6 (by omega)
    have e0 : n < b.length := by omega
    have c0 := hx n e0
    obtain ⟨x0, hx0⟩ : ∃ x, gi b n = x := ⟨_, rfl⟩
    obtain ⟨x1, hx1⟩ : ∃ x, gi b (n + 1) = x := ⟨_, rfl⟩
    obtain ⟨x2, hx2⟩ : ∃ x, gi b (n + 2) = x := ⟨_, rfl⟩
    have c1 : n + 1 < b.length → w.cell? ⟨bl, o + (n + 1), none⟩ = some (.int .u8 x1) := fun e => by rw [← hx1]; exact hx (n + 1) e
    have c2 : n + 2 < b.length → w.cell? ⟨bl, o + (n + 2), none⟩ = some (.int .u8 x2) := fun e => by rw [← hx2]; exact hx (n + 2) e
    rw [hx0] at g0 c0 ⊢
    rw [hx1] at g1 ⊢
    rw [hx2] at g2 ⊢
    clear hx h6 h4 hx0 hx1 hx2
    rcases (by omega : b.length = n + 1 ∨ b.length = n + 2 ∨ n + 3 ≤ b.length) with hl | hl | hl
    · skip
      rcases (by omega : x0 = 0 ∨ (1 ≤ x0 ∧ x0 ≤ 127) ∨ (128 ≤ x0 ∧ x0 < 192) ∨ (192 ≤ x0 ∧ x0 < 224) ∨ (224 ≤ x0 ∧ x0 < 240) ∨ (240 ≤ x0 ∧ x0 < 256)) with a1 | ⟨a1, a2⟩ | ⟨a1, a2⟩ | ⟨a1, a2⟩ | ⟨a1, a2⟩ | ⟨a1, a2⟩
      · exact (unit_N1z w bl o b.length c n x0 x1 x2 g0.1 g0.2 g1.1 g1.2 g2.1 g2.2 h2 hc (by omega) hb c0 a1).mono fun _ _ k => UnitAns.val (unitN_0 (by omega) (by omega) (by omega)) k
      · exact (unit_A1 w bl o b.length c n x0 x1 x2 g0.1 g0.2 g1.1 g1.2 g2.1 g2.2 h2 hc (by omega) hb c0 a1 a2).mono fun _ _ k => UnitAns.val (unitN_1 (by omega)) k
      · exact (unit_N1a w bl o b.length c n x0 x1 x2 g0.1 g0.2 g1.1 g1.2 g2.1 g2.2 h2 hc (by omega) hb c0 a1 a2).mono fun _ _ k => UnitAns.val (unitN_0 (by omega) (by omega) (by omega)) k
      · exact (unit_N1b w bl o b.length c n x0 x1 x2 g0.1 g0.2 g1.1 g1.2 g2.1 g2.2 h2 hc (by omega) hb c0 a1 a2).mono fun _ _ k => UnitAns.val (unitN_0 (by omega) (by omega) (by omega)) k
      · exact (unit_N1c w bl o b.length c n x0 x1 x2 g0.1 g0.2 g1.1 g1.2 g2.1 g2.2 h2 hc (by omega) hb c0 a1 a2).mono fun _ _ k => UnitAns.val (unitN_0 (by omega) (by omega) (by omega)) k
      · exact (unit_N1d w bl o b.length c n x0 x1 x2 g0.1 g0.2 g1.1 g1.2 g2.1 g2.2 h2 hc (by omega) hb c0 a1 a2).mono fun _ _ k => UnitAns.val (unitN_0 (by omega) (by omega) (by omega)) k
    · skip
      rcases (by omega : x0 = 0 ∨ (1 ≤ x0 ∧ x0 ≤ 127) ∨ (128 ≤ x0 ∧ x0 < 192) ∨ (192 ≤ x0 ∧ x0 < 224) ∨ (224 ≤ x0 ∧ x0 < 240) ∨ (240 ≤ x0 ∧ x0 < 256)) with a1 | ⟨a1, a2⟩ | ⟨a1, a2⟩ | ⟨a1, a2⟩ | ⟨a1, a2⟩ | ⟨a1, a2⟩
      · exact (unit_N2z w bl o b.length c n x0 x1 x2 g0.1 g0.2 g1.1 g1.2 g2.1 g2.2 h2 hc (by omega) hb c0 (c1 (by omega)) a1).mono fun _ _ k => UnitAns.val (unitN_0 (by omega) (by omega) (by omega)) k
      · exact (unit_A2 w bl o b.length c n x0 x1 x2 g0.1 g0.2 g1.1 g1.2 g2.1 g2.2 h2 hc (by omega) hb c0 (c1 (by omega)) a1 a2).mono fun _ _ k => UnitAns.val (unitN_1 (by omega)) k
      · exact (unit_N2a w bl o b.length c n x0 x1 x2 g0.1 g0.2 g1.1 g1.2 g2.1 g2.2 h2 hc (by omega) hb c0 (c1 (by omega)) a1 a2).mono fun _ _ k => UnitAns.val (unitN_0 (by omega) (by omega) (by omega)) k
      · rcases (by omega : x1 < 128 ∨ (128 ≤ x1 ∧ x1 < 192) ∨ 192 ≤ x1) with d1 | ⟨d1, d2⟩ | d1
        · exact (unit_N2bl w bl o b.length c n x0 x1 x2 g0.1 g0.2 g1.1 g1.2 g2.1 g2.2 h2 hc (by omega) hb c0 (c1 (by omega)) a1 a2 d1).mono fun _ _ k => UnitAns.val (unitN_0 (by omega) (by omega) (by omega)) k
        · exact (unit_B2 w bl o b.length c n x0 x1 x2 g0.1 g0.2 g1.1 g1.2 g2.1 g2.2 h2 hc (by omega) hb c0 (c1 (by omega)) a1 a2 d1 d2).mono fun _ _ k => UnitAns.val (unitN_2 (by omega) (by omega)) k
        · exact (unit_N2bh w bl o b.length c n x0 x1 x2 g0.1 g0.2 g1.1 g1.2 g2.1 g2.2 h2 hc (by omega) hb c0 (c1 (by omega)) a1 a2 d1).mono fun _ _ k => UnitAns.val (unitN_0 (by omega) (by omega) (by omega)) k
      · exact (unit_N2c w bl o b.length c n x0 x1 x2 g0.1 g0.2 g1.1 g1.2 g2.1 g2.2 h2 hc (by omega) hb c0 (c1 (by omega)) a1 a2).mono fun _ _ k => UnitAns.val (unitN_0 (by omega) (by omega) (by omega)) k
      · exact (unit_N2d w bl o b.length c n x0 x1 x2 g0.1 g0.2 g1.1 g1.2 g2.1 g2.2 h2 hc (by omega) hb c0 (c1 (by omega)) a1 a2).mono fun _ _ k => UnitAns.val (unitN_0 (by omega) (by omega) (by omega)) k
    · skip
      rcases (by omega : x0 = 0 ∨ (1 ≤ x0 ∧ x0 ≤ 127) ∨ (128 ≤ x0 ∧ x0 < 192) ∨ (192 ≤ x0 ∧ x0 < 224) ∨ (224 ≤ x0 ∧ x0 < 240) ∨ (240 ≤ x0 ∧ x0 < 256)) with a1 | ⟨a1, a2⟩ | ⟨a1, a2⟩ | ⟨a1, a2⟩ | ⟨a1, a2⟩ | ⟨a1, a2⟩
      · exact (unit_N3z w bl o b.length c n x0 x1 x2 g0.1 g0.2 g1.1 g1.2 g2.1 g2.2 h2 hc (by omega) hb c0 (c1 (by omega)) (c2 (by omega)) a1).mono fun _ _ k => UnitAns.val (unitN_0 (by omega) (by omega) (by omega)) k
      · exact (unit_A3 w bl o b.length c n x0 x1 x2 g0.1 g0.2 g1.1 g1.2 g2.1 g2.2 h2 hc (by omega) hb c0 (c1 (by omega)) (c2 (by omega)) a1 a2).mono fun _ _ k => UnitAns.val (unitN_1 (by omega)) k
      · exact (unit_N3a w bl o b.length c n x0 x1 x2 g0.1 g0.2 g1.1 g1.2 g2.1 g2.2 h2 hc (by omega) hb c0 (c1 (by omega)) (c2 (by omega)) a1 a2).mono fun _ _ k => UnitAns.val (unitN_0 (by omega) (by omega) (by omega)) k
      · rcases (by omega : x1 < 128 ∨ (128 ≤ x1 ∧ x1 < 192) ∨ 192 ≤ x1) with d1 | ⟨d1, d2⟩ | d1
        · exact (unit_N3bl w bl o b.length c n x0 x1 x2 g0.1 g0.2 g1.1 g1.2 g2.1 g2.2 h2 hc (by omega) hb c0 (c1 (by omega)) (c2 (by omega)) a1 a2 d1).mono fun _ _ k => UnitAns.val (unitN_0 (by omega) (by omega) (by omega)) k
        · exact (unit_B3 w bl o b.length c n x0 x1 x2 g0.1 g0.2 g1.1 g1.2 g2.1 g2.2 h2 hc (by omega) hb c0 (c1 (by omega)) (c2 (by omega)) a1 a2 d1 d2).mono fun _ _ k => UnitAns.val (unitN_2 (by omega) (by omega)) k
        · exact (unit_N3bh w bl o b.length c n x0 x1 x2 g0.1 g0.2 g1.1 g1.2 g2.1 g2.2 h2 hc (by omega) hb c0 (c1 (by omega)) (c2 (by omega)) a1 a2 d1).mono fun _ _ k => UnitAns.val (unitN_0 (by omega) (by omega) (by omega)) k
      · rcases (by omega : x1 < 128 ∨ (128 ≤ x1 ∧ x1 < 192) ∨ 192 ≤ x1) with d1 | ⟨d1, d2⟩ | d1
        · exact (unit_N3cl w bl o b.length c n x0 x1 x2 g0.1 g0.2 g1.1 g1.2 g2.1 g2.2 h2 hc (by omega) hb c0 (c1 (by omega)) (c2 (by omega)) a1 a2 d1).mono fun _ _ k => UnitAns.val (unitN_0 (by omega) (by omega) (by omega)) k
        · rcases (by omega : x2 < 128 ∨ (128 ≤ x2 ∧ x2 < 192) ∨ 192 ≤ x2) with f1 | ⟨f1, f2⟩ | f1
          · exact (unit_N3cml w bl o b.length c n x0 x1 x2 g0.1 g0.2 g1.1 g1.2 g2.1 g2.2 h2 hc (by omega) hb c0 (c1 (by omega)) (c2 (by omega)) a1 a2 d1 d2 f1).mono fun _ _ k => UnitAns.val (unitN_0 (by omega) (by omega) (by omega)) k
          · exact (unit_C3 w bl o b.length c n x0 x1 x2 g0.1 g0.2 g1.1 g1.2 g2.1 g2.2 h2 hc (by omega) hb c0 (c1 (by omega)) (c2 (by omega)) a1 a2 d1 d2 f1 f2).mono fun _ _ k => UnitAns.val (unitN_3 (by omega) (by omega) (by omega)) k
          · exact (unit_N3cmh w bl o b.length c n x0 x1 x2 g0.1 g0.2 g1.1 g1.2 g2.1 g2.2 h2 hc (by omega) hb c0 (c1 (by omega)) (c2 (by omega)) a1 a2 d1 d2 f1).mono fun _ _ k => UnitAns.val (unitN_0 (by omega) (by omega) (by omega)) k
        · exact (unit_N3ch w bl o b.length c n x0 x1 x2 g0.1 g0.2 g1.1 g1.2 g2.1 g2.2 h2 hc (by omega) hb c0 (c1 (by omega)) (c2 (by omega)) a1 a2 d1).mono fun _ _ k => UnitAns.val (unitN_0 (by omega) (by omega) (by omega)) k
      · exact (unit_N3d w bl o b.length c n x0 x1 x2 g0.1 g0.2 g1.1 g1.2 g2.1 g2.2 h2 hc (by omega) hb c0 (c1 (by omega)) (c2 (by omega)) a1 a2).mono fun _ _ k => UnitAns.val (unitN_0 (by omega) (by omega) (by omega)) k

theorem nextZ_bd (b : List Int) (hf : Fit .u8 b) : 0 ≤ (unitZ b).1 ∧ (unitZ b).1 ≤ 65535 ∧ (unitZ b).2 ≤ 3 ∧ (unitZ b).2 ≤ b.length ∧ (55296 ≤ (unitZ b).1 → (unitZ b).2 = 3) := by
  have g0 := hf.gi 0
  have g1 := hf.gi 1
  have g2 := hf.gi 2
  rcases unitZ_cases b with ⟨c1, c2, c3, e⟩ | ⟨c1, c2, c3, e⟩ | ⟨c1, c2, c3, c4, e⟩ | e
  all_goals
    rw [e]
    dsimp only
    refine ⟨by omega, by omega, by omega, by omega, by omega⟩

theorem unitZ_1 {b : List Int} {c : Int} (h : unitZ b = (c, 1)) : 1 ≤ c ∧ c ≤ 127 := by
  rcases unitZ_cases b with ⟨c1, c2, c3, e⟩ | ⟨c1, c2, c3, e⟩ | ⟨c1, c2, c3, c4, e⟩ | e
  all_goals
    rw [e] at h
    injection h with h1 h2
    try omega
theorem unitZ_2 {b : List Int} {c : Int} (h : unitZ b = (c, 2)) : 0 ≤ c ∧ c ≤ 2047 := by
  rcases unitZ_cases b with ⟨c1, c2, c3, e⟩ | ⟨c1, c2, c3, e⟩ | ⟨c1, c2, c3, c4, e⟩ | e
  all_goals
    rw [e] at h
    injection h with h1 h2
    try omega

set_option maxHeartbeats 1000000 in
theorem next_0 (v : Value) (b : List Int) (n : Nat) (w : World) (h : Row w .u8 v b) (hn : n ≤ b.length) (hm : b.length ≤ 9223372036854775807) (c : Int) (b1 : 0 ≤ c) (b2 : c ≤ 65535) (HU : Hid (unitZ (b.drop n) = (c, 0))) (f1 : c = 0) :
    Calls Tryd.prog 30 #[v, .int .i64 n] w (UnitAns w (0, 0)) := by
  subst f1
  go_enter Tryd.func30, Tryd.ntmps30
  go_wp2_with (go_at_call 40; refine (unit_any _ b n _ (by exact h) hn).mono ?_; rw [HU.out]; rintro e w1 ⟨rfl, he⟩)
  go_ret2
  exact ⟨rfl, he⟩

set_option maxHeartbeats 1000000 in
theorem next_1 (v : Value) (b : List Int) (n : Nat) (w : World) (h : Row w .u8 v b) (hn : n ≤ b.length) (hm : b.length ≤ 9223372036854775807) (c : Int) (b1 : 0 ≤ c) (b2 : c ≤ 65535) (HU : Hid (unitZ (b.drop n) = (c, 1))) (f1 : 1 ≤ c) (f2 : c ≤ 127) :
    Calls Tryd.prog 30 #[v, .int .i64 n] w (UnitAns w (c, 1)) := by
  have z : (c == 0) = false := by simp; omega
  have z' : (c != 0) = true := by simp; omega
  go_enter Tryd.func30, Tryd.ntmps30
  go_wp2_with (go_at_call 40; refine (unit_any _ b n _ (by exact h) hn).mono ?_; rw [HU.out]; rintro e w1 ⟨rfl, he⟩)
  go_ret2
  exact ⟨rfl, he⟩

set_option maxHeartbeats 1000000 in
theorem next_2 (v : Value) (b : List Int) (n : Nat) (w : World) (h : Row w .u8 v b) (hn : n ≤ b.length) (hm : b.length ≤ 9223372036854775807) (c : Int) (b1 : 0 ≤ c) (b2 : c ≤ 65535) (HU : Hid (unitZ (b.drop n) = (c, 2))) (f1 : 128 ≤ c) (f2 : c ≤ 2047) :
    Calls Tryd.prog 30 #[v, .int .i64 n] w (UnitAns w (c, 2)) := by
  have z : (c == 0) = false := by simp; omega
  have z' : (c != 0) = true := by simp; omega
  go_enter Tryd.func30, Tryd.ntmps30
  go_wp2_with (go_at_call 40; refine (unit_any _ b n _ (by exact h) hn).mono ?_; rw [HU.out]; rintro e w1 ⟨rfl, he⟩)
  go_ret2
  exact ⟨rfl, he⟩

set_option maxHeartbeats 1000000 in
theorem next_2z (v : Value) (b : List Int) (n : Nat) (w : World) (h : Row w .u8 v b) (hn : n ≤ b.length) (hm : b.length ≤ 9223372036854775807) (c : Int) (b1 : 0 ≤ c) (b2 : c ≤ 65535) (HU : Hid (unitZ (b.drop n) = (c, 2))) (f1 : c = 0) :
    Calls Tryd.prog 30 #[v, .int .i64 n] w (UnitAns w (0, 2)) := by
  subst f1
  go_enter Tryd.func30, Tryd.ntmps30
  go_wp2_with (go_at_call 40; refine (unit_any _ b n _ (by exact h) hn).mono ?_; rw [HU.out]; rintro e w1 ⟨rfl, he⟩)
  go_ret2
  exact ⟨rfl, he⟩

set_option maxHeartbeats 1000000 in
theorem next_2b (v : Value) (b : List Int) (n : Nat) (w : World) (h : Row w .u8 v b) (hn : n ≤ b.length) (hm : b.length ≤ 9223372036854775807) (c : Int) (b1 : 0 ≤ c) (b2 : c ≤ 65535) (HU : Hid (unitZ (b.drop n) = (c, 2))) (f1 : 1 ≤ c) (f2 : c < 128) :
    Calls Tryd.prog 30 #[v, .int .i64 n] w (UnitAns w (0, 0)) := by
  have z : (c == 0) = false := by simp; omega
  have z' : (c != 0) = true := by simp; omega
  go_enter Tryd.func30, Tryd.ntmps30
  go_wp2_with (go_at_call 40; refine (unit_any _ b n _ (by exact h) hn).mono ?_; rw [HU.out]; rintro e w1 ⟨rfl, he⟩)
  go_ret2
  exact ⟨rfl, he⟩

set_option maxHeartbeats 1000000 in
theorem next_3 (v : Value) (b : List Int) (n : Nat) (w : World) (h : Row w .u8 v b) (hn : n ≤ b.length) (hm : b.length ≤ 9223372036854775807) (c : Int) (b1 : 0 ≤ c) (b2 : c ≤ 65535) (HU : Hid (unitZ (b.drop n) = (c, 3))) (f1 : 2048 ≤ c) (f2 : c < 55296) :
    Calls Tryd.prog 30 #[v, .int .i64 n] w (UnitAns w (c, 3)) := by
  have z : (c == 0) = false := by simp; omega
  have z' : (c != 0) = true := by simp; omega
  go_enter Tryd.func30, Tryd.ntmps30
  go_wp2_with (go_at_call 40; refine (unit_any _ b n _ (by exact h) hn).mono ?_; rw [HU.out]; rintro e w1 ⟨rfl, he⟩)
  go_ret2
  exact ⟨rfl, he⟩

set_option maxHeartbeats 1000000 in
theorem next_3h (v : Value) (b : List Int) (n : Nat) (w : World) (h : Row w .u8 v b) (hn : n ≤ b.length) (hm : b.length ≤ 9223372036854775807) (c : Int) (b1 : 0 ≤ c) (b2 : c ≤ 65535) (HU : Hid (unitZ (b.drop n) = (c, 3))) (f1 : 57343 < c) :
    Calls Tryd.prog 30 #[v, .int .i64 n] w (UnitAns w (c, 3)) := by
  have z : (c == 0) = false := by simp; omega
  have z' : (c != 0) = true := by simp; omega
  go_enter Tryd.func30, Tryd.ntmps30
  go_wp2_with (go_at_call 40; refine (unit_any _ b n _ (by exact h) hn).mono ?_; rw [HU.out]; rintro e w1 ⟨rfl, he⟩)
  go_ret2
  exact ⟨rfl, he⟩

set_option maxHeartbeats 1000000 in
theorem next_3b (v : Value) (b : List Int) (n : Nat) (w : World) (h : Row w .u8 v b) (hn : n ≤ b.length) (hm : b.length ≤ 9223372036854775807) (c : Int) (b1 : 0 ≤ c) (b2 : c ≤ 65535) (HU : Hid (unitZ (b.drop n) = (c, 3))) (f1 : c < 2048) :
    Calls Tryd.prog 30 #[v, .int .i64 n] w (UnitAns w (0, 0)) := by
  go_enter Tryd.func30, Tryd.ntmps30
  go_wp2_with (go_at_call 40; refine (unit_any _ b n _ (by exact h) hn).mono ?_; rw [HU.out]; rintro e w1 ⟨rfl, he⟩)
  go_ret2
  exact ⟨rfl, he⟩

set_option maxHeartbeats 1000000 in
theorem next_3s (v : Value) (b : List Int) (n : Nat) (w : World) (h : Row w .u8 v b) (hn : n ≤ b.length) (hm : b.length ≤ 9223372036854775807) (c : Int) (b1 : 0 ≤ c) (b2 : c ≤ 65535) (HU : Hid (unitZ (b.drop n) = (c, 3))) (f1 : 56320 ≤ c) (f2 : c ≤ 57343) :
    Calls Tryd.prog 30 #[v, .int .i64 n] w (UnitAns w (0, 0)) := by
  have z : (c == 0) = false := by simp; omega
  have z' : (c != 0) = true := by simp; omega
  go_enter Tryd.func30, Tryd.ntmps30
  go_wp2_with (go_at_call 40; refine (unit_any _ b n _ (by exact h) hn).mono ?_; rw [HU.out]; rintro e w1 ⟨rfl, he⟩)
  go_ret2
  exact ⟨rfl, he⟩

set_option maxHeartbeats 1000000 in
theorem next_6 (v : Value) (b : List Int) (n : Nat) (w : World) (h : Row w .u8 v b) (hn : n + 3 ≤ b.length) (hm : b.length ≤ 9223372036854775807) (c : Int) (HU : Hid (unitZ (b.drop n) = (c, 3))) (f1 : 55296 ≤ c) (f2 : c ≤ 56319)
    (c2 : Int) (m2 : Nat) (d1 : 0 ≤ c2) (d2 : c2 ≤ 65535) (d3 : m2 ≤ 3) (HU2 : Hid (unitZ (b.drop (n + 3)) = (c2, m2))) (g0 : m2 = 3) (g1 : 56320 ≤ c2) (g2 : c2 ≤ 57343) :
    Calls Tryd.prog 30 #[v, .int .i64 n] w (UnitAns w (65536 + (c - 55296) * 1024 + c2 - 56320, 6)) := by
  subst g0
  go_enter Tryd.func30, Tryd.ntmps30
  go_wp2_with fail
  refine (unit_any _ b n _ (by exact h) (by omega)).mono ?_
  rw [HU.out]
  rintro e w1 ⟨rfl, he⟩
  go_wp2_with fail
  refine (unit_any _ b (n + 3) _ (by exact h.ext he) hn).mono ?_
  rw [HU2.out]
  rintro e w2 ⟨rfl, he2⟩
  go_wp2
  all_goals
    go_ret2
    exact ⟨rfl, he.trans he2⟩

set_option maxHeartbeats 1000000 in
theorem next_6m (v : Value) (b : List Int) (n : Nat) (w : World) (h : Row w .u8 v b) (hn : n + 3 ≤ b.length) (hm : b.length ≤ 9223372036854775807) (c : Int) (HU : Hid (unitZ (b.drop n) = (c, 3))) (f1 : 55296 ≤ c) (f2 : c ≤ 56319)
    (c2 : Int) (m2 : Nat) (d1 : 0 ≤ c2) (d2 : c2 ≤ 65535) (d3 : m2 ≤ 3) (HU2 : Hid (unitZ (b.drop (n + 3)) = (c2, m2))) (g0 : m2 ≠ 3) :
    Calls Tryd.prog 30 #[v, .int .i64 n] w (UnitAns w (0, 0)) := by
  have z : ((m2 : Int) == 3) = false := by simp; omega
  have z' : ((m2 : Int) != 3) = true := by simp; omega
  go_enter Tryd.func30, Tryd.ntmps30
  go_wp2_with fail
  refine (unit_any _ b n _ (by exact h) (by omega)).mono ?_
  rw [HU.out]
  rintro e w1 ⟨rfl, he⟩
  go_wp2_with fail
  refine (unit_any _ b (n + 3) _ (by exact h.ext he) hn).mono ?_
  rw [HU2.out]
  rintro e w2 ⟨rfl, he2⟩
  go_wp2
  all_goals
    go_ret2
    exact ⟨rfl, he.trans he2⟩

set_option maxHeartbeats 1000000 in
theorem next_6l (v : Value) (b : List Int) (n : Nat) (w : World) (h : Row w .u8 v b) (hn : n + 3 ≤ b.length) (hm : b.length ≤ 9223372036854775807) (c : Int) (HU : Hid (unitZ (b.drop n) = (c, 3))) (f1 : 55296 ≤ c) (f2 : c ≤ 56319)
    (c2 : Int) (m2 : Nat) (d1 : 0 ≤ c2) (d2 : c2 ≤ 65535) (d3 : m2 ≤ 3) (HU2 : Hid (unitZ (b.drop (n + 3)) = (c2, m2))) (g0 : m2 = 3) (g1 : c2 < 56320) :
    Calls Tryd.prog 30 #[v, .int .i64 n] w (UnitAns w (0, 0)) := by
  subst g0
  go_enter Tryd.func30, Tryd.ntmps30
  go_wp2_with fail
  refine (unit_any _ b n _ (by exact h) (by omega)).mono ?_
  rw [HU.out]
  rintro e w1 ⟨rfl, he⟩
  go_wp2_with fail
  refine (unit_any _ b (n + 3) _ (by exact h.ext he) hn).mono ?_
  rw [HU2.out]
  rintro e w2 ⟨rfl, he2⟩
  go_wp2
  all_goals
    go_ret2
    exact ⟨rfl, he.trans he2⟩

set_option maxHeartbeats 1000000 in
theorem next_6h (v : Value) (b : List Int) (n : Nat) (w : World) (h : Row w .u8 v b) (hn : n + 3 ≤ b.length) (hm : b.length ≤ 9223372036854775807) (c : Int) (HU : Hid (unitZ (b.drop n) = (c, 3))) (f1 : 55296 ≤ c) (f2 : c ≤ 56319)
    (c2 : Int) (m2 : Nat) (d1 : 0 ≤ c2) (d2 : c2 ≤ 65535) (d3 : m2 ≤ 3) (HU2 : Hid (unitZ (b.drop (n + 3)) = (c2, m2))) (g0 : m2 = 3) (g1 : 57343 < c2) :
    Calls Tryd.prog 30 #[v, .int .i64 n] w (UnitAns w (0, 0)) := by
  subst g0
  go_enter Tryd.func30, Tryd.ntmps30
  go_wp2_with fail
  refine (unit_any _ b n _ (by exact h) (by omega)).mono ?_
  rw [HU.out]
  rintro e w1 ⟨rfl, he⟩
  go_wp2_with fail
  refine (unit_any _ b (n + 3) _ (by exact h.ext he) hn).mono ?_
  rw [HU2.out]
  rintro e w2 ⟨rfl, he2⟩
  go_wp2
  all_goals
    go_ret2
    exact ⟨rfl, he.trans he2⟩


theorem next_any (v : Value) (b : List Int) (n : Nat) (w : World) (h : Row w .u8 v b) (hn : n ≤ b.length) :
    Calls Tryd.prog 30 #[v, .int .i64 n] w (UnitAns w (nextZ (b.drop n))) := by
  have hf := h.fit.drop n
  have hm : b.length ≤ 9223372036854775807 := by
    obtain ⟨A, c, -, h2, h3, -⟩ := h
    unfold maxLen at h3
    omega
  have hb := nextZ_bd _ hf
  have hld : (b.drop n).length = b.length - n := List.length_drop
  obtain ⟨c, hc⟩ : ∃ c, (unitZ (b.drop n)).1 = c := ⟨_, rfl⟩
  obtain ⟨m, hm'⟩ : ∃ m, (unitZ (b.drop n)).2 = m := ⟨_, rfl⟩
  have hu : unitZ (b.drop n) = (c, m) := by rw [← hc, ← hm']
  rw [hc, hm', hld] at hb
  obtain ⟨b1, b2, b3, b4, b5⟩ := hb
  have bad : badU (c, m) → nextZ (b.drop n) = (0, 0) := fun e => nextZ_bad (by rw [hu]; exact e)
  have one : ¬ badU (c, m) → (c < 55296 ∨ 56319 < c) → nextZ (b.drop n) = (c, m) := fun e f => by rw [nextZ_one (by rw [hu]; exact e) (by rw [hu]; exact f), hu]
  clear hc hm'
  have fin : ∀ {u : Int × Nat}, nextZ (b.drop n) = u → Calls Tryd.prog 30 #[v, .int .i64 n] w (UnitAns w u) → Calls Tryd.prog 30 #[v, .int .i64 n] w (UnitAns w (nextZ (b.drop n))) := fun e k => by rw [e]; exact k
  rcases (by omega : m = 0 ∨ m = 1 ∨ m = 2 ∨ m = 3) with rfl | rfl | rfl | rfl
  · have hz := unitZ_zero (by rw [hu])
    have e0 : c = 0 := by rw [hu] at hz; injection hz
    subst e0
    exact fin (one (by unfold badU; simp) (by omega)) (next_0 v b n w h hn hm 0 b1 b2 (Lib.hid hu) rfl)
  · have f := unitZ_1 hu
    exact fin (one (by unfold badU; dsimp only; omega) (by omega)) (next_1 v b n w h hn hm c b1 b2 (Lib.hid hu) f.1 f.2)
  · have f := unitZ_2 hu
    rcases (by omega : c = 0 ∨ (1 ≤ c ∧ c < 128) ∨ 128 ≤ c) with rfl | ⟨f1, f2⟩ | f1
    · exact fin (one (by unfold badU; simp) (by omega)) (next_2z v b n w h hn hm 0 b1 b2 (Lib.hid hu) rfl)
    · exact fin (bad (by unfold badU; dsimp only; omega)) (next_2b v b n w h hn hm c b1 b2 (Lib.hid hu) f1 f2)
    · exact fin (one (by unfold badU; dsimp only; omega) (by omega)) (next_2 v b n w h hn hm c b1 b2 (Lib.hid hu) f1 f.2)
  · rcases (by omega : c < 2048 ∨ (2048 ≤ c ∧ c < 55296) ∨ (55296 ≤ c ∧ c ≤ 56319) ∨ (56320 ≤ c ∧ c ≤ 57343) ∨ 57343 < c) with f1 | ⟨f1, f2⟩ | ⟨f1, f2⟩ | ⟨f1, f2⟩ | f1
    · exact fin (bad (by unfold badU; dsimp only; omega)) (next_3b v b n w h hn hm c b1 b2 (Lib.hid hu) f1)
    · exact fin (one (by unfold badU; dsimp only; omega) (by omega)) (next_3 v b n w h hn hm c b1 b2 (Lib.hid hu) f1 f2)
    · have nb : ¬ badU (unitZ (b.drop n)) := by rw [hu]; unfold badU; dsimp only; omega
      have nl : ¬ ((unitZ (b.drop n)).1 < 55296 ∨ 56319 < (unitZ (b.drop n)).1) := by rw [hu]; dsimp only; omega
      have two := nextZ_two nb nl
      have no := nextZ_no nb nl
      have hdd : (b.drop n).drop 3 = b.drop (n + 3) := by rw [List.drop_drop]
      rw [hu] at two no
      dsimp only at two no
      rw [hdd] at two no
      have hb' := nextZ_bd _ (h.fit.drop (n + 3))
      obtain ⟨c2, hc2⟩ : ∃ c, (unitZ (b.drop (n + 3))).1 = c := ⟨_, rfl⟩
      obtain ⟨m2, hm2⟩ : ∃ m, (unitZ (b.drop (n + 3))).2 = m := ⟨_, rfl⟩
      have hu2 : unitZ (b.drop (n + 3)) = (c2, m2) := by rw [← hc2, ← hm2]
      rw [hc2, hm2] at hb' two no
      obtain ⟨d1, d2, d3, -, -⟩ := hb'
      have hn3 : n + 3 ≤ b.length := by omega
      by_cases g0 : m2 = 3
      · rcases (by omega : c2 < 56320 ∨ (56320 ≤ c2 ∧ c2 ≤ 57343) ∨ 57343 < c2) with g1 | ⟨g1, g2⟩ | g1
        · exact fin (no (by omega)) (next_6l v b n w h hn3 hm c (Lib.hid hu) f1 f2 c2 m2 d1 d2 d3 (Lib.hid hu2) g0 g1)
        · exact fin (two (by omega)) (next_6 v b n w h hn3 hm c (Lib.hid hu) f1 f2 c2 m2 d1 d2 d3 (Lib.hid hu2) g0 g1 g2)
        · exact fin (no (by omega)) (next_6h v b n w h hn3 hm c (Lib.hid hu) f1 f2 c2 m2 d1 d2 d3 (Lib.hid hu2) g0 g1)
      · exact fin (no (by omega)) (next_6m v b n w h hn3 hm c (Lib.hid hu) f1 f2 c2 m2 d1 d2 d3 (Lib.hid hu2) g0)
    · exact fin (bad (by unfold badU; dsimp only; omega)) (next_3s v b n w h hn hm c b1 b2 (Lib.hid hu) f1 f2)
    · exact fin (one (by unfold badU; dsimp only; omega) (by omega)) (next_3h v b n w h hn hm c b1 b2 (Lib.hid hu) f1)

end Go.Proofs.YtkjjmdmaffeboaaDoor
