/- Several texts of this proof, one behind the other. -/
import Derived.Test.YtecgldkhjgcffaaDoorZtJ
import Derived.Test.YtecgldkhjgcffaaDoorZtI
import Derived.Test.YtecgldkhjgcffaaDoorZtH
/- The document's answer for texts: the character that is written from a place on. -/
namespace Go.Proofs.YtecgldkhjgcffaaDoor
open Go.RowKit
set_option linter.unusedVariables false

theorem UnitAns.val {u v : Int × Nat} (h : v = u) {w : World} {e : Ending} {w' : World} (k : UnitAns w u e w') : UnitAns w v e w' := by rw [h]; exact k
set_option maxRecDepth 100000 in
set_option maxHeartbeats 400000 in
theorem unit_end (w : World) (A : Option Addr) (c n : Nat) (hlc : n ≤ c) (hc : c ≤ 9223372036854775807) :
    Calls Tryd.prog 107 #[.slice A n c, .int .i64 n] w (UnitAns w (0, 0)) := by
  go_enter Tryd.func107, Tryd.ntmps107
  go_wp2
  refine wp_loop_rounds 1 ?_
  rw [rounds_succ]
  go_wp2
  go_ret2
  exact ⟨rfl, (Ext.refl _).alloc _⟩
theorem unit_any (v : Value) (b : List Int) (n : Nat) (w : World) (h : Row w .u8 v b) (hn : n ≤ b.length) :
    Calls Tryd.prog 107 #[v, .int .i64 n] w (UnitAns w (unitZ (b.drop n))) := by
  rw [unitZ_N]
  have hf := h.fit
  obtain ⟨A, c, rfl, h2, h3, h4, h5, h6⟩ := h
  have hc : c ≤ 9223372036854775807 := by unfold maxLen at h3; omega
  have g0 := hf.gi n
  have g1 := hf.gi (n + 1)
  have g2 := hf.gi (n + 2)
  obtain ⟨L, hL⟩ : ∃ L, b.length - n = L := ⟨_, rfl⟩
  rw [hL]
  by_cases hend : b.length = n
  · rw [unitN_0 (by omega) (by omega) (by omega), ← hend]
    exact unit_end w A c b.length h2 hc
  · obtain ⟨bl, o, rfl, hb, hx⟩ := h6 (by omega)
    have e0 : n < b.length := by omega
    have c0 := hx n e0
    obtain ⟨x0, hx0⟩ : ∃ x, gi b n = x := ⟨_, rfl⟩
    obtain ⟨x1, hx1⟩ : ∃ x, gi b (n + 1) = x := ⟨_, rfl⟩
    obtain ⟨x2, hx2⟩ : ∃ x, gi b (n + 2) = x := ⟨_, rfl⟩
    have c1 : n + 1 < b.length → w.cell? ⟨bl, o + (n + 1), none⟩ = some (.int .u8 x1) := fun e => by rw [← hx1]; exact hx (n + 1) e
    have c2 : n + 2 < b.length → w.cell? ⟨bl, o + (n + 2), none⟩ = some (.int .u8 x2) := fun e => by rw [← hx2]; exact hx (n + 2) e
    rw [hx0] at g0 c0 ⊢
    rw [hx1] at g1 ⊢
    rw [hx2] at g2 ⊢
    clear hx h6 h4 hx0 hx1 hx2
    rcases (by omega : b.length = n + 1 ∨ b.length = n + 2 ∨ n + 3 ≤ b.length) with hl | hl | hl
    · skip
      rcases (by omega : x0 = 0 ∨ (1 ≤ x0 ∧ x0 ≤ 127) ∨ (128 ≤ x0 ∧ x0 < 192) ∨ (192 ≤ x0 ∧ x0 < 224) ∨ (224 ≤ x0 ∧ x0 < 240) ∨ (240 ≤ x0 ∧ x0 < 256)) with a1 | ⟨a1, a2⟩ | ⟨a1, a2⟩ | ⟨a1, a2⟩ | ⟨a1, a2⟩ | ⟨a1, a2⟩
      · exact (unit_N1z w bl o b.length c n x0 x1 x2 g0.1 g0.2 g1.1 g1.2 g2.1 g2.2 h2 hc (by omega) hb c0 a1).mono fun _ _ k => UnitAns.val (unitN_0 (by omega) (by omega) (by omega)) k
      · exact (unit_A1 w bl o b.length c n x0 x1 x2 g0.1 g0.2 g1.1 g1.2 g2.1 g2.2 h2 hc (by omega) hb c0 a1 a2).mono fun _ _ k => UnitAns.val (unitN_1 (by omega)) k
      · exact (unit_N1a w bl o b.length c n x0 x1 x2 g0.1 g0.2 g1.1 g1.2 g2.1 g2.2 h2 hc (by omega) hb c0 a1 a2).mono fun _ _ k => UnitAns.val (unitN_0 (by omega) (by omega) (by omega)) k
      · exact (unit_N1b w bl o b.length c n x0 x1 x2 g0.1 g0.2 g1.1 g1.2 g2.1 g2.2 h2 hc (by omega) hb c0 a1 a2).mono fun _ _ k => UnitAns.val (unitN_0 (by omega) (by omega) (by omega)) k
      · exact (unit_N1c w bl o b.length c n x0 x1 x2 g0.1 g0.2 g1.1 g1.2 g2.1 g2.2 h2 hc (by omega) hb c0 a1 a2).mono fun _ _ k => UnitAns.val (unitN_0 (by omega) (by omega) (by omega)) k
      · exact (unit_N1d w bl o b.length c n x0 x1 x2 g0.1 g0.2 g1.1 g1.2 g2.1 g2.2 h2 hc (by omega) hb c0 a1 a2).mono fun _ _ k => UnitAns.val (unitN_0 (by omega) (by omega) (by omega)) k
    · skip
      rcases (by omega : x0 = 0 ∨ (1 ≤ x0 ∧ x0 ≤ 127) ∨ (128 ≤ x0 ∧ x0 < 192) ∨ (192 ≤ x0 ∧ x0 < 224) ∨ (224 ≤ x0 ∧ x0 < 240) ∨ (240 ≤ x0 ∧ x0 < 256)) with a1 | ⟨a1, a2⟩ | ⟨a1, a2⟩ | ⟨a1, a2⟩ | ⟨a1, a2⟩ | ⟨a1, a2⟩
      · exact (unit_N2z w bl o b.length c n x0 x1 x2 g0.1 g0.2 g1.1 g1.2 g2.1 g2.2 h2 hc (by omega) hb c0 (c1 (by omega)) a1).mono fun _ _ k => UnitAns.val (unitN_0 (by omega) (by omega) (by omega)) k
      · exact (unit_A2 w bl o b.length c n x0 x1 x2 g0.1 g0.2 g1.1 g1.2 g2.1 g2.2 h2 hc (by omega) hb c0 (c1 (by omega)) a1 a2).mono fun _ _ k => UnitAns.val (unitN_1 (by omega)) k
      · exact (unit_N2a w bl o b.length c n x0 x1 x2 g0.1 g0.2 g1.1 g1.2 g2.1 g2.2 h2 hc (by omega) hb c0 (c1 (by omega)) a1 a2).mono fun _ _ k => UnitAns.val (unitN_0 (by omega) (by omega) (by omega)) k
      · rcases (by omega : x1 < 128 ∨ (128 ≤ x1 ∧ x1 < 192) ∨ 192 ≤ x1) with d1 | ⟨d1, d2⟩ | d1
        · exact (unit_N2bl w bl o b.length c n x0 x1 x2 g0.1 g0.2 g1.1 g1.2 g2.1 g2.2 h2 hc (by omega) hb c0 (c1 (by omega)) a1 a2 d1).mono fun _ _ k => UnitAns.val (unitN_0 (by omega) (by omega) (by omega)) k
        · exact (unit_B2 w bl o b.length c n x0 x1 x2 g0.1 g0.2 g1.1 g1.2 g2.1 g2.2 h2 hc (by omega) hb c0 (c1 (by omega)) a1 a2 d1 d2).mono fun _ _ k => UnitAns.val (unitN_2 (by omega) (by omega)) k
        · exact (unit_N2bh w bl o b.length c n x0 x1 x2 g0.1 g0.2 g1.1 g1.2 g2.1 g2.2 h2 hc (by omega) hb c0 (c1 (by omega)) a1 a2 d1).mono fun _ _ k => UnitAns.val (unitN_0 (by omega) (by omega) (by omega)) k
      · exact (unit_N2c w bl o b.length c n x0 x1 x2 g0.1 g0.2 g1.1 g1.2 g2.1 g2.2 h2 hc (by omega) hb c0 (c1 (by omega)) a1 a2).mono fun _ _ k => UnitAns.val (unitN_0 (by omega) (by omega) (by omega)) k
      · exact (unit_N2d w bl o b.length c n x0 x1 x2 g0.1 g0.2 g1.1 g1.2 g2.1 g2.2 h2 hc (by omega) hb c0 (c1 (by omega)) a1 a2).mono fun _ _ k => UnitAns.val (unitN_0 (by omega) (by omega) (by omega)) k
    · skip
      rcases (by omega : x0 = 0 ∨ (1 ≤ x0 ∧ x0 ≤ 127) ∨ (128 ≤ x0 ∧ x0 < 192) ∨ (192 ≤ x0 ∧ x0 < 224) ∨ (224 ≤ x0 ∧ x0 < 240) ∨ (240 ≤ x0 ∧ x0 < 256)) with a1 | ⟨a1, a2⟩ | ⟨a1, a2⟩ | ⟨a1, a2⟩ | ⟨a1, a2⟩ | ⟨a1, a2⟩
      · exact (unit_N3z w bl o b.length c n x0 x1 x2 g0.1 g0.2 g1.1 g1.2 g2.1 g2.2 h2 hc (by omega) hb c0 (c1 (by omega)) (c2 (by omega)) a1).mono fun _ _ k => UnitAns.val (unitN_0 (by omega) (by omega) (by omega)) k
      · exact (unit_A3 w bl o b.length c n x0 x1 x2 g0.1 g0.2 g1.1 g1.2 g2.1 g2.2 h2 hc (by omega) hb c0 (c1 (by omega)) (c2 (by omega)) a1 a2).mono fun _ _ k => UnitAns.val (unitN_1 (by omega)) k
      · exact (unit_N3a w bl o b.length c n x0 x1 x2 g0.1 g0.2 g1.1 g1.2 g2.1 g2.2 h2 hc (by omega) hb c0 (c1 (by omega)) (c2 (by omega)) a1 a2).mono fun _ _ k => UnitAns.val (unitN_0 (by omega) (by omega) (by omega)) k
      · rcases (by omega : x1 < 128 ∨ (128 ≤ x1 ∧ x1 < 192) ∨ 192 ≤ x1) with d1 | ⟨d1, d2⟩ | d1
        · exact (unit_N3bl w bl o b.length c n x0 x1 x2 g0.1 g0.2 g1.1 g1.2 g2.1 g2.2 h2 hc (by omega) hb c0 (c1 (by omega)) (c2 (by omega)) a1 a2 d1).mono fun _ _ k => UnitAns.val (unitN_0 (by omega) (by omega) (by omega)) k
        · exact (unit_B3 w bl o b.length c n x0 x1 x2 g0.1 g0.2 g1.1 g1.2 g2.1 g2.2 h2 hc (by omega) hb c0 (c1 (by omega)) (c2 (by omega)) a1 a2 d1 d2).mono fun _ _ k => UnitAns.val (unitN_2 (by omega) (by omega)) k
        · exact (unit_N3bh w bl o b.length c n x0 x1 x2 g0.1 g0.2 g1.1 g1.2 g2.1 g2.2 h2 hc (by omega) hb c0 (c1 (by omega)) (c2 (by omega)) a1 a2 d1).mono fun _ _ k => UnitAns.val (unitN_0 (by omega) (by omega) (by omega)) k
      · rcases (by omega : x1 < 128 ∨ (128 ≤ x1 ∧ x1 < 192) ∨ 192 ≤ x1) with d1 | ⟨d1, d2⟩ | d1
        · exact (unit_N3cl w bl o b.length c n x0 x1 x2 g0.1 g0.2 g1.1 g1.2 g2.1 g2.2 h2 hc (by omega) hb c0 (c1 (by omega)) (c2 (by omega)) a1 a2 d1).mono fun _ _ k => UnitAns.val (unitN_0 (by omega) (by omega) (by omega)) k
        · rcases (by omega : x2 < 128 ∨ (128 ≤ x2 ∧ x2 < 192) ∨ 192 ≤ x2) with f1 | ⟨f1, f2⟩ | f1
          · exact (unit_N3cml w bl o b.length c n x0 x1 x2 g0.1 g0.2 g1.1 g1.2 g2.1 g2.2 h2 hc (by omega) hb c0 (c1 (by omega)) (c2 (by omega)) a1 a2 d1 d2 f1).mono fun _ _ k => UnitAns.val (unitN_0 (by omega) (by omega) (by omega)) k
          · exact (unit_C3 w bl o b.length c n x0 x1 x2 g0.1 g0.2 g1.1 g1.2 g2.1 g2.2 h2 hc (by omega) hb c0 (c1 (by omega)) (c2 (by omega)) a1 a2 d1 d2 f1 f2).mono fun _ _ k => UnitAns.val (unitN_3 (by omega) (by omega) (by omega)) k
          · exact (unit_N3cmh w bl o b.length c n x0 x1 x2 g0.1 g0.2 g1.1 g1.2 g2.1 g2.2 h2 hc (by omega) hb c0 (c1 (by omega)) (c2 (by omega)) a1 a2 d1 d2 f1).mono fun _ _ k => UnitAns.val (unitN_0 (by omega) (by omega) (by omega)) k
        · exact (unit_N3ch w bl o b.length c n x0 x1 x2 g0.1 g0.2 g1.1 g1.2 g2.1 g2.2 h2 hc (by omega) hb c0 (c1 (by omega)) (c2 (by omega)) a1 a2 d1).mono fun _ _ k => UnitAns.val (unitN_0 (by omega) (by omega) (by omega)) k
      · exact (unit_N3d w bl o b.length c n x0 x1 x2 g0.1 g0.2 g1.1 g1.2 g2.1 g2.2 h2 hc (by omega) hb c0 (c1 (by omega)) (c2 (by omega)) a1 a2).mono fun _ _ k => UnitAns.val (unitN_0 (by omega) (by omega) (by omega)) k

theorem nextZ_bd (b : List Int) (hf : Fit .u8 b) : 0 ≤ (unitZ b).1 ∧ (unitZ b).1 ≤ 65535 ∧ (unitZ b).2 ≤ 3 ∧ (unitZ b).2 ≤ b.length ∧ (55296 ≤ (unitZ b).1 → (unitZ b).2 = 3) := by
  have g0 := hf.gi 0
  have g1 := hf.gi 1
  have g2 := hf.gi 2
  rcases unitZ_cases b with ⟨c1, c2, c3, e⟩ | ⟨c1, c2, c3, e⟩ | ⟨c1, c2, c3, c4, e⟩ | e
  all_goals
    rw [e]
    dsimp only
    refine ⟨by omega, by omega, by omega, by omega, by omega⟩

theorem unitZ_1 {b : List Int} {c : Int} (h : unitZ b = (c, 1)) : 1 ≤ c ∧ c ≤ 127 := by
  rcases unitZ_cases b with ⟨c1, c2, c3, e⟩ | ⟨c1, c2, c3, e⟩ | ⟨c1, c2, c3, c4, e⟩ | e
  all_goals
    rw [e] at h
    injection h with h1 h2
    try omega
theorem unitZ_2 {b : List Int} {c : Int} (h : unitZ b = (c, 2)) : 0 ≤ c ∧ c ≤ 2047 := by
  rcases unitZ_cases b with ⟨c1, c2, c3, e⟩ | ⟨c1, c2, c3, e⟩ | ⟨c1, c2, c3, c4, e⟩ | e
  all_goals
    rw [e] at h
    injection h with h1 h2
    try omega

set_option maxRecDepth 100000 in
set_option maxHeartbeats 1000000 in
theorem next_0 (v : Value) (b : List Int) (n : Nat) (w : World) (h : Row w .u8 v b) (hn : n ≤ b.length) (hm : b.length ≤ 9223372036854775807) (c : Int) (b1 : 0 ≤ c) (b2 : c ≤ 65535) (HU : Hid (unitZ (b.drop n) = (c, 0))) (f1 : c = 0) :
    Calls Tryd.prog 94 #[v, .int .i64 n] w (UnitAns w (0, 0)) := by
  subst f1
  go_enter Tryd.func94, Tryd.ntmps94
  go_wp2_with (go_at_call 107; refine (unit_any _ b n _ (by exact h) hn).mono ?_; rw [HU.out]; rintro e w1 ⟨rfl, he⟩)
  go_ret2
  exact ⟨rfl, he⟩

set_option maxRecDepth 100000 in
set_option maxHeartbeats 1000000 in
theorem next_1 (v : Value) (b : List Int) (n : Nat) (w : World) (h : Row w .u8 v b) (hn : n ≤ b.length) (hm : b.length ≤ 9223372036854775807) (c : Int) (b1 : 0 ≤ c) (b2 : c ≤ 65535) (HU : Hid (unitZ (b.drop n) = (c, 1))) (f1 : 1 ≤ c) (f2 : c ≤ 127) :
    Calls Tryd.prog 94 #[v, .int .i64 n] w (UnitAns w (c, 1)) := by
  have z : (c == 0) = false := by simp; omega
  have z' : (c != 0) = true := by simp; omega
  go_enter Tryd.func94, Tryd.ntmps94
  go_wp2_with (go_at_call 107; refine (unit_any _ b n _ (by exact h) hn).mono ?_; rw [HU.out]; rintro e w1 ⟨rfl, he⟩)
  go_ret2
  exact ⟨rfl, he⟩

set_option maxRecDepth 100000 in
set_option maxHeartbeats 1000000 in
theorem next_2 (v : Value) (b : List Int) (n : Nat) (w : World) (h : Row w .u8 v b) (hn : n ≤ b.length) (hm : b.length ≤ 9223372036854775807) (c : Int) (b1 : 0 ≤ c) (b2 : c ≤ 65535) (HU : Hid (unitZ (b.drop n) = (c, 2))) (f1 : 128 ≤ c) (f2 : c ≤ 2047) :
    Calls Tryd.prog 94 #[v, .int .i64 n] w (UnitAns w (c, 2)) := by
  have z : (c == 0) = false := by simp; omega
  have z' : (c != 0) = true := by simp; omega
  go_enter Tryd.func94, Tryd.ntmps94
  go_wp2_with (go_at_call 107; refine (unit_any _ b n _ (by exact h) hn).mono ?_; rw [HU.out]; rintro e w1 ⟨rfl, he⟩)
  go_ret2
  exact ⟨rfl, he⟩

set_option maxRecDepth 100000 in
set_option maxHeartbeats 1000000 in
theorem next_2z (v : Value) (b : List Int) (n : Nat) (w : World) (h : Row w .u8 v b) (hn : n ≤ b.length) (hm : b.length ≤ 9223372036854775807) (c : Int) (b1 : 0 ≤ c) (b2 : c ≤ 65535) (HU : Hid (unitZ (b.drop n) = (c, 2))) (f1 : c = 0) :
    Calls Tryd.prog 94 #[v, .int .i64 n] w (UnitAns w (0, 2)) := by
  subst f1
  go_enter Tryd.func94, Tryd.ntmps94
  go_wp2_with (go_at_call 107; refine (unit_any _ b n _ (by exact h) hn).mono ?_; rw [HU.out]; rintro e w1 ⟨rfl, he⟩)
  go_ret2
  exact ⟨rfl, he⟩

set_option maxRecDepth 100000 in
set_option maxHeartbeats 1000000 in
theorem next_2b (v : Value) (b : List Int) (n : Nat) (w : World) (h : Row w .u8 v b) (hn : n ≤ b.length) (hm : b.length ≤ 9223372036854775807) (c : Int) (b1 : 0 ≤ c) (b2 : c ≤ 65535) (HU : Hid (unitZ (b.drop n) = (c, 2))) (f1 : 1 ≤ c) (f2 : c < 128) :
    Calls Tryd.prog 94 #[v, .int .i64 n] w (UnitAns w (0, 0)) := by
  have z : (c == 0) = false := by simp; omega
  have z' : (c != 0) = true := by simp; omega
  go_enter Tryd.func94, Tryd.ntmps94
  go_wp2_with (go_at_call 107; refine (unit_any _ b n _ (by exact h) hn).mono ?_; rw [HU.out]; rintro e w1 ⟨rfl, he⟩)
  go_ret2
  exact ⟨rfl, he⟩

set_option maxRecDepth 100000 in
set_option maxHeartbeats 1000000 in
theorem next_3 (v : Value) (b : List Int) (n : Nat) (w : World) (h : Row w .u8 v b) (hn : n ≤ b.length) (hm : b.length ≤ 9223372036854775807) (c : Int) (b1 : 0 ≤ c) (b2 : c ≤ 65535) (HU : Hid (unitZ (b.drop n) = (c, 3))) (f1 : 2048 ≤ c) (f2 : c < 55296) :
    Calls Tryd.prog 94 #[v, .int .i64 n] w (UnitAns w (c, 3)) := by
  have z : (c == 0) = false := by simp; omega
  have z' : (c != 0) = true := by simp; omega
  go_enter Tryd.func94, Tryd.ntmps94
  go_wp2_with (go_at_call 107; refine (unit_any _ b n _ (by exact h) hn).mono ?_; rw [HU.out]; rintro e w1 ⟨rfl, he⟩)
  go_ret2
  exact ⟨rfl, he⟩

set_option maxRecDepth 100000 in
set_option maxHeartbeats 1000000 in
theorem next_3h (v : Value) (b : List Int) (n : Nat) (w : World) (h : Row w .u8 v b) (hn : n ≤ b.length) (hm : b.length ≤ 9223372036854775807) (c : Int) (b1 : 0 ≤ c) (b2 : c ≤ 65535) (HU : Hid (unitZ (b.drop n) = (c, 3))) (f1 : 57343 < c) :
    Calls Tryd.prog 94 #[v, .int .i64 n] w (UnitAns w (c, 3)) := by
  have z : (c == 0) = false := by simp; omega
  have z' : (c != 0) = true := by simp; omega
  go_enter Tryd.func94, Tryd.ntmps94
  go_wp2_with (go_at_call 107; refine (unit_any _ b n _ (by exact h) hn).mono ?_; rw [HU.out]; rintro e w1 ⟨rfl, he⟩)
  go_ret2
  exact ⟨rfl, he⟩

set_option maxRecDepth 100000 in
set_option maxHeartbeats 1000000 in
theorem next_3b (v : Value) (b : List Int) (n : Nat) (w : World) (h : Row w .u8 v b) (hn : n ≤ b.length) (hm : b.length ≤ 9223372036854775807) (c : Int) (b1 : 0 ≤ c) (b2 : c ≤ 65535) (HU : Hid (unitZ (b.drop n) = (c, 3))) (f1 : c < 2048) :
    Calls Tryd.prog 94 #[v, .int .i64 n] w (UnitAns w (0, 0)) := by
  go_enter Tryd.func94, Tryd.ntmps94
  go_wp2_with (go_at_call 107; refine (unit_any _ b n _ (by exact h) hn).mono ?_; rw [HU.out]; rintro e w1 ⟨rfl, he⟩)
  go_ret2
  exact ⟨rfl, he⟩

set_option maxRecDepth 100000 in
set_option maxHeartbeats 1000000 in
theorem next_3s (v : Value) (b : List Int) (n : Nat) (w : World) (h : Row w .u8 v b) (hn : n ≤ b.length) (hm : b.length ≤ 9223372036854775807) (c : Int) (b1 : 0 ≤ c) (b2 : c ≤ 65535) (HU : Hid (unitZ (b.drop n) = (c, 3))) (f1 : 56320 ≤ c) (f2 : c ≤ 57343) :
    Calls Tryd.prog 94 #[v, .int .i64 n] w (UnitAns w (0, 0)) := by
  have z : (c == 0) = false := by simp; omega
  have z' : (c != 0) = true := by simp; omega
  go_enter Tryd.func94, Tryd.ntmps94
  go_wp2_with (go_at_call 107; refine (unit_any _ b n _ (by exact h) hn).mono ?_; rw [HU.out]; rintro e w1 ⟨rfl, he⟩)
  go_ret2
  exact ⟨rfl, he⟩

set_option maxRecDepth 100000 in
set_option maxHeartbeats 1000000 in
theorem next_6 (v : Value) (b : List Int) (n : Nat) (w : World) (h : Row w .u8 v b) (hn : n + 3 ≤ b.length) (hm : b.length ≤ 9223372036854775807) (c : Int) (HU : Hid (unitZ (b.drop n) = (c, 3))) (f1 : 55296 ≤ c) (f2 : c ≤ 56319)
    (c2 : Int) (m2 : Nat) (d1 : 0 ≤ c2) (d2 : c2 ≤ 65535) (d3 : m2 ≤ 3) (HU2 : Hid (unitZ (b.drop (n + 3)) = (c2, m2))) (g0 : m2 = 3) (g1 : 56320 ≤ c2) (g2 : c2 ≤ 57343) :
    Calls Tryd.prog 94 #[v, .int .i64 n] w (UnitAns w (65536 + (c - 55296) * 1024 + c2 - 56320, 6)) := by
  subst g0
  go_enter Tryd.func94, Tryd.ntmps94
  go_wp2_with fail
  refine (unit_any _ b n _ (by exact h) (by omega)).mono ?_
  rw [HU.out]
  rintro e w1 ⟨rfl, he⟩
  go_wp2_with fail
  refine (unit_any _ b (n + 3) _ (by exact h.ext he) hn).mono ?_
  rw [HU2.out]
  rintro e w2 ⟨rfl, he2⟩
  go_wp2
  all_goals
    go_ret2
    exact ⟨rfl, he.trans he2⟩

set_option maxRecDepth 100000 in
set_option maxHeartbeats 1000000 in
theorem next_6m (v : Value) (b : List Int) (n : Nat) (w : World) (h : Row w .u8 v b) (hn : n + 3 ≤ b.length) (hm : b.length ≤ 9223372036854775807) (c : Int) (HU : Hid (unitZ (b.drop n) = (c, 3))) (f1 : 55296 ≤ c) (f2 : c ≤ 56319)
    (c2 : Int) (m2 : Nat) (d1 : 0 ≤ c2) (d2 : c2 ≤ 65535) (d3 : m2 ≤ 3) (HU2 : Hid (unitZ (b.drop (n + 3)) = (c2, m2))) (g0 : m2 ≠ 3) :
    Calls Tryd.prog 94 #[v, .int .i64 n] w (UnitAns w (0, 0)) := by
  have z : ((m2 : Int) == 3) = false := by simp; omega
  have z' : ((m2 : Int) != 3) = true := by simp; omega
  go_enter Tryd.func94, Tryd.ntmps94
  go_wp2_with fail
  refine (unit_any _ b n _ (by exact h) (by omega)).mono ?_
  rw [HU.out]
  rintro e w1 ⟨rfl, he⟩
  go_wp2_with fail
  refine (unit_any _ b (n + 3) _ (by exact h.ext he) hn).mono ?_
  rw [HU2.out]
  rintro e w2 ⟨rfl, he2⟩
  go_wp2
  all_goals
    go_ret2
    exact ⟨rfl, he.trans he2⟩

set_option maxRecDepth 100000 in
set_option maxHeartbeats 1000000 in
theorem next_6l (v : Value) (b : List Int) (n : Nat) (w : World) (h : Row w .u8 v b) (hn : n + 3 ≤ b.length) (hm : b.length ≤ 9223372036854775807) (c : Int) (HU : Hid (unitZ (b.drop n) = (c, 3))) (f1 : 55296 ≤ c) (f2 : c ≤ 56319)
    (c2 : Int) (m2 : Nat) (d1 : 0 ≤ c2) (d2 : c2 ≤ 65535) (d3 : m2 ≤ 3) (HU2 : Hid (unitZ (b.drop (n + 3)) = (c2, m2))) (g0 : m2 = 3) (g1 : c2 < 56320) :
    Calls Tryd.prog 94 #[v, .int .i64 n] w (UnitAns w (0, 0)) := by
  subst g0
  go_enter Tryd.func94, Tryd.ntmps94
  go_wp2_with fail
  refine (unit_any _ b n _ (by exact h) (by omega)).mono ?_
  rw [HU.out]
  rintro e w1 ⟨rfl, he⟩
  go_wp2_with fail
  refine (unit_any _ b (n + 3) _ (by exact h.ext he) hn).mono ?_
  rw [HU2.out]
  rintro e w2 ⟨rfl, he2⟩
  go_wp2
  all_goals
    go_ret2
    exact ⟨rfl, he.trans he2⟩

set_option maxRecDepth 100000 in
set_option maxHeartbeats 1000000 in
theorem next_6h (v : Value) (b : List Int) (n : Nat) (w : World) (h : Row w .u8 v b) (hn : n + 3 ≤ b.length) (hm : b.length ≤ 9223372036854775807) (c : Int) (HU : Hid (unitZ (b.drop n) = (c, 3))) (f1 : 55296 ≤ c) (f2 : c ≤ 56319)
    (c2 : Int) (m2 : Nat) (d1 : 0 ≤ c2) (d2 : c2 ≤ 65535) (d3 : m2 ≤ 3) (HU2 : Hid (unitZ (b.drop (n + 3)) = (c2, m2))) (g0 : m2 = 3) (g1 : 57343 < c2) :
    Calls Tryd.prog 94 #[v, .int .i64 n] w (UnitAns w (0, 0)) := by
  subst g0
  go_enter Tryd.func94, Tryd.ntmps94
  go_wp2_with fail
  refine (unit_any _ b n _ (by exact h) (by omega)).mono ?_
  rw [HU.out]
  rintro e w1 ⟨rfl, he⟩
  go_wp2_with fail
  refine (unit_any _ b (n + 3) _ (by exact h.ext he) hn).mono ?_
  rw [HU2.out]
  rintro e w2 ⟨rfl, he2⟩
  go_wp2
  all_goals
    go_ret2
    exact ⟨rfl, he.trans he2⟩


theorem next_any (v : Value) (b : List Int) (n : Nat) (w : World) (h : Row w .u8 v b) (hn : n ≤ b.length) :
    Calls Tryd.prog 94 #[v, .int .i64 n] w (UnitAns w (nextZ (b.drop n))) := by
  have hf := h.fit.drop n
  have hm : b.length ≤ 9223372036854775807 := by
    obtain ⟨A, c, -, h2, h3, -⟩ := h
    unfold maxLen at h3
    omega
  have hb := nextZ_bd _ hf
  have hld : (b.drop n).length = b.length - n := List.length_drop
  obtain ⟨c, hc⟩ : ∃ c, (unitZ (b.drop n)).1 = c := ⟨_, rfl⟩
  obtain ⟨m, hm'⟩ : ∃ m, (unitZ (b.drop n)).2 = m := ⟨_, rfl⟩
  have hu : unitZ (b.drop n) = (c, m) := by rw [← hc, ← hm']
  rw [hc, hm', hld] at hb
  obtain ⟨b1, b2, b3, b4, b5⟩ := hb
  have bad : badU (c, m) → nextZ (b.drop n) = (0, 0) := fun e => nextZ_bad (by rw [hu]; exact e)
  have one : ¬ badU (c, m) → (c < 55296 ∨ 56319 < c) → nextZ (b.drop n) = (c, m) := fun e f => by rw [nextZ_one (by rw [hu]; exact e) (by rw [hu]; exact f), hu]
  clear hc hm'
  have fin : ∀ {u : Int × Nat}, nextZ (b.drop n) = u → Calls Tryd.prog 94 #[v, .int .i64 n] w (UnitAns w u) → Calls Tryd.prog 94 #[v, .int .i64 n] w (UnitAns w (nextZ (b.drop n))) := fun e k => by rw [e]; exact k
  rcases (by omega : m = 0 ∨ m = 1 ∨ m = 2 ∨ m = 3) with rfl | rfl | rfl | rfl
  · have hz := unitZ_zero (by rw [hu])
    have e0 : c = 0 := by rw [hu] at hz; injection hz
    subst e0
    exact fin (one (by unfold badU; simp) (by omega)) (next_0 v b n w h hn hm 0 b1 b2 (Lib.hid hu) rfl)
  · have f := unitZ_1 hu
    exact fin (one (by unfold badU; dsimp only; omega) (by omega)) (next_1 v b n w h hn hm c b1 b2 (Lib.hid hu) f.1 f.2)
  · have f := unitZ_2 hu
    rcases (by omega : c = 0 ∨ (1 ≤ c ∧ c < 128) ∨ 128 ≤ c) with rfl | ⟨f1, f2⟩ | f1
    · exact fin (one (by unfold badU; simp) (by omega)) (next_2z v b n w h hn hm 0 b1 b2 (Lib.hid hu) rfl)
    · exact fin (bad (by unfold badU; dsimp only; omega)) (next_2b v b n w h hn hm c b1 b2 (Lib.hid hu) f1 f2)
    · exact fin (one (by unfold badU; dsimp only; omega) (by omega)) (next_2 v b n w h hn hm c b1 b2 (Lib.hid hu) f1 f.2)
  · rcases (by omega : c < 2048 ∨ (2048 ≤ c ∧ c < 55296) ∨ (55296 ≤ c ∧ c ≤ 56319) ∨ (56320 ≤ c ∧ c ≤ 57343) ∨ 57343 < c) with f1 | ⟨f1, f2⟩ | ⟨f1, f2⟩ | ⟨f1, f2⟩ | f1
    · exact fin (bad (by unfold badU; dsimp only; omega)) (next_3b v b n w h hn hm c b1 b2 (Lib.hid hu) f1)
    · exact fin (one (by unfold badU; dsimp only; omega) (by omega)) (next_3 v b n w h hn hm c b1 b2 (Lib.hid hu) f1 f2)
    · have nb : ¬ badU (unitZ (b.drop n)) := by rw [hu]; unfold badU; dsimp only; omega
      have nl : ¬ ((unitZ (b.drop n)).1 < 55296 ∨ 56319 < (unitZ (b.drop n)).1) := by rw [hu]; dsimp only; omega
      have two := nextZ_two nb nl
      have no := nextZ_no nb nl
      have hdd : (b.drop n).drop 3 = b.drop (n + 3) := by rw [List.drop_drop]
      rw [hu] at two no
      dsimp only at two no
      rw [hdd] at two no
      have hb' := nextZ_bd _ (h.fit.drop (n + 3))
      obtain ⟨c2, hc2⟩ : ∃ c, (unitZ (b.drop (n + 3))).1 = c := ⟨_, rfl⟩
      obtain ⟨m2, hm2⟩ : ∃ m, (unitZ (b.drop (n + 3))).2 = m := ⟨_, rfl⟩
      have hu2 : unitZ (b.drop (n + 3)) = (c2, m2) := by rw [← hc2, ← hm2]
      rw [hc2, hm2] at hb' two no
      obtain ⟨d1, d2, d3, -, -⟩ := hb'
      have hn3 : n + 3 ≤ b.length := by omega
      by_cases g0 : m2 = 3
      · rcases (by omega : c2 < 56320 ∨ (56320 ≤ c2 ∧ c2 ≤ 57343) ∨ 57343 < c2) with g1 | ⟨g1, g2⟩ | g1
        · exact fin (no (by omega)) (next_6l v b n w h hn3 hm c (Lib.hid hu) f1 f2 c2 m2 d1 d2 d3 (Lib.hid hu2) g0 g1)
        · exact fin (two (by omega)) (next_6 v b n w h hn3 hm c (Lib.hid hu) f1 f2 c2 m2 d1 d2 d3 (Lib.hid hu2) g0 g1 g2)
        · exact fin (no (by omega)) (next_6h v b n w h hn3 hm c (Lib.hid hu) f1 f2 c2 m2 d1 d2 d3 (Lib.hid hu2) g0 g1)
      · exact fin (no (by omega)) (next_6m v b n w h hn3 hm c (Lib.hid hu) f1 f2 c2 m2 d1 d2 d3 (Lib.hid hu2) g0)
    · exact fin (bad (by unfold badU; dsimp only; omega)) (next_3s v b n w h hn hm c b1 b2 (Lib.hid hu) f1 f2)
    · exact fin (one (by unfold badU; dsimp only; omega) (by omega)) (next_3h v b n w h hn hm c b1 b2 (Lib.hid hu) f1)

end Go.Proofs.YtecgldkhjgcffaaDoor
/- Texts out of bytes: the program's way, and the document's. -/
namespace Go.Proofs.YtecgldkhjgcffaaDoor
open Go.RowKit
set_option linter.unusedVariables false

/-- What Decode answers of bytes. -/
def DecAns (b : List Int) (v' : Value) (w' : World) : Prop :=
  (stop b = b.length ∧ v' = .tuple #[.string ⟨(utf (chs b)).toArray⟩, .int .i64 0, .int .i64 0]) ∨ (stop b < b.length ∧ v' = .tuple #[.string ⟨#[]⟩, .int .i64 (stop b), .int .i64 20])

/-- A place up to which bytes are read. -/
def Upto (b : List Int) (k : Nat) (pre : List Int) : Prop :=
  k ≤ b.length ∧ (mu pre).length = k ∧ (∀ c ∈ pre, Sc c) ∧ chs b = pre ++ chs (b.drop k)
theorem Upto.le {b : List Int} {k : Nat} {pre : List Int} (h : Upto b k pre) : k ≤ b.length := h.1
theorem Upto.len {b : List Int} {k : Nat} {pre : List Int} (h : Upto b k pre) : (mu pre).length = k := h.2.1
theorem Upto.sc {b : List Int} {k : Nat} {pre : List Int} (h : Upto b k pre) : ∀ c ∈ pre, Sc c := h.2.2.1
theorem Upto.all {b : List Int} {k : Nat} {pre : List Int} (h : Upto b k pre) : chs b = pre ++ chs (b.drop k) := h.2.2.2
theorem Upto.start (b : List Int) : Upto b 0 [] := ⟨Nat.zero_le _, rfl, (fun c hc => by cases hc), rfl⟩
theorem Upto.next {b : List Int} {k : Nat} {pre : List Int} (h : Upto b k pre) (hf : Fit .u8 b) {c : Int} {m : Nat} (hn : nextZ (b.drop k) = (c, m)) (hm : m ≠ 0) : Upto b (k + m) (pre ++ [c]) ∧ Sc c := by
  have hn' : (nextZ (b.drop k)).2 ≠ 0 := by rw [hn]; exact hm
  obtain ⟨s1, s2, s3⟩ := nextZ_sound (hf.drop k) hn'
  have s4 := nextZ_len (hf.drop k) hn'
  have e := chs_step hn'
  rw [hn] at s1 s2 s4 e
  dsimp only at s1 s2 s4 e
  rw [List.length_drop] at s2
  have := h.le
  refine ⟨⟨by omega, by rw [mu_snoc, List.length_append, h.len, s4], fun d hd => ?_, ?_⟩, s1⟩
  · rcases List.mem_append.1 hd with hd | hd
    · exact h.sc d hd
    · rw [List.mem_singleton.1 hd]; exact s1
  · rw [h.all, e, List.drop_drop]
    simp
theorem Upto.fail {b : List Int} {k : Nat} {pre : List Int} (h : Upto b k pre) (hk : k < b.length) (hn : (nextZ (b.drop k)).2 = 0) : stop b = k ∧ stop b < b.length := by
  have e := h.all
  rw [chs_stop hn, List.append_nil] at e
  have : stop b = k := by unfold stop; rw [e, h.len]
  exact ⟨this, by omega⟩
theorem Upto.done {b : List Int} {k : Nat} {pre : List Int} (h : Upto b k pre) (hk : ¬ k < b.length) : stop b = b.length ∧ chs b = pre := by
  have e := h.all
  rw [List.drop_eq_nil_iff.2 (by omega), chs_nil, List.append_nil] at e
  have := h.le
  exact ⟨by unfold stop; rw [e, h.len]; omega, e⟩
theorem Upto.small {b : List Int} {k : Nat} {pre : List Int} (h : Upto b k pre) : (utf pre).length ≤ k := by
  have := (utf_le h.sc).1
  rw [h.len] at this
  exact this

set_option maxRecDepth 100000 in
set_option maxHeartbeats 4000000 in
theorem Decode_any (v : Value) (b : List Int) (w : World) (h : Row w .u8 v b) (hl : b.length + 4 ≤ 140737488355328) :
    Calls Tryd.prog 71 #[v] w (Ret w (DecAns b)) := by
  have hf := h.fit
  have hk := h
  obtain ⟨A, c, rfl, hbc, hcm, -, -, -⟩ := hk
  unfold maxLen at hcm
  have HF := Lib.hid hf
  clear hf
  obtain ⟨n, hn⟩ : ∃ n, b.length = n := ⟨_, rfl⟩
  have hbld : Bld w.heap.size w.heap.size [] (w.alloc (.cells #[.pointer none, .slice none 0 0] 105)) := Lib.fresh_isBuilder 105 5 w
  rw [hn] at hbc hl
  have HN := Lib.hid hn
  rw [HN.out] at h ⊢
  clear hn
  go_enter Tryd.func71, Tryd.ntmps71
  go_wp2
  go_loopw [3] (fun at' wr => ∃ (k : Nat) (pre : List Int), at' = .int .i64 k ∧ k ≤ n ∧ Ext w wr ∧ Bld w.heap.size w.heap.size (utf pre) wr ∧ Hid (Upto b k pre)) (fun at' _ => n - (intOf at').toNat)
  case atStart => exact ⟨0, [], rfl, by omega, (Ext.refl w).alloc _, hbld, Lib.hid (Upto.start b)⟩
  case round =>
    obtain ⟨k, pre, rfl, hkn, hx, hB, HU⟩ := hrel
    have hwr : w.heap.size ≤ wr.heap.size := hx.size
    by_cases hlt : k < n
    · obtain ⟨v3, ht1, ht2, ht⟩ := tail_slice h k (by rw [HN.out]; exact hkn)
      obtain ⟨c1, hc1⟩ : ∃ c1, (nextZ (b.drop k)).1 = c1 := ⟨_, rfl⟩
      obtain ⟨m, hm⟩ : ∃ m, (nextZ (b.drop k)).2 = m := ⟨_, rfl⟩
      have hne : nextZ (b.drop k) = (c1, m) := by rw [← hc1, ← hm]
      have HC := Lib.hid hne
      clear hc1 hm hne
      have hsm : (utf pre).length ≤ k := HU.out.small
      by_cases hm0 : m = 0
      · subst hm0
        go_wp2_with fail
        refine (take_any v3 (b.drop k) _ (by exact ht.ext hx)).mono ?_
        rw [HC.out]
        rintro e w2 ⟨rfl, he2⟩
        have hs := HU.out.fail (by rw [HN.out]; exact hlt) (by rw [HC.out])
        have HS := Lib.hid hs
        clear hs
        go_wp2
        go_ret3
        exact Ret.mk (.inr ⟨HS.out.2, by rw [HS.out.1]; rfl⟩) (hx.trans he2)
      · have hmb : ((m : Int) == 0) = false := by simp; omega
        obtain ⟨hu2, hsc⟩ := HU.out.next HF.out HC.out hm0
        have HU2 := Lib.hid hu2
        have hkm : k + m ≤ n := by have := hu2.le; have := HN.out; omega
        have hc0 := hsc.lo
        have hc9 := hsc.hi
        have hm1 : 1 ≤ m := by omega
        clear hu2 hm0 hsc
        go_wp2_with fail
        refine (take_any v3 (b.drop k) _ (by exact ht.ext hx)).mono ?_
        rw [HC.out]
        rintro e w2 ⟨rfl, he2⟩
        have hB2 : Bld w.heap.size w.heap.size (utf pre) w2 := bld_ext hB he2
        have x2 : Ext w w2 := hx.trans he2
        go_wp2_with fail
        refine (WriteRune_any w.heap.size w.heap.size (utf pre) c1 _ hB2 hc0 hc9 (by omega) x2.size).mono ?_
        rintro e w3 ⟨⟨nn, rfl⟩, hB3, hb3⟩
        have x3 : Ext w w3 := Below.trans x2 hb3
        go_wp2
        go_roundw
        case rel => exact ⟨k + m, pre ++ [c1], by go_num, hkm, x3, by rw [utf_snoc]; exact hB3, HU2⟩
        case measure => simp [intOf]; omega
    · have hs := HU.out.done (by rw [HN.out]; exact hlt)
      have HS := Lib.hid hs
      clear hs
      go_wp2_with fail
      refine (Tryd.Builder_String_any w.heap.size w.heap.size (utf pre) _ hB hwr).mono ?_
      rintro e w2 ⟨rfl, hb2⟩
      go_wp2
      go_ret3
      exact Ret.mk (.inl ⟨by rw [HS.out.1, HN.out], by rw [HS.out.2]; rfl⟩) (Below.trans hx hb2)

/-- The bytes of characters as strings have them, as numbers. -/
def utfZ (cs : List Int) : List Int := cs.flatMap Lib.encodeRuneZ
theorem utfZ_snoc (a : List Int) (c : Int) : utfZ (a ++ [c]) = utfZ a ++ Lib.encodeRuneZ c := by simp [utfZ]
theorem utfZ_utf (cs : List Int) : (utfZ cs).map (fun n => UInt8.ofNat n.toNat) = utf cs := by
  unfold utfZ utf
  rw [List.map_flatMap]
  rfl
theorem utfZ_len (cs : List Int) : (utfZ cs).length = (utf cs).length := by rw [← utfZ_utf, List.length_map]
theorem str_utfZ (cs : List Int) : strOfNums (utfZ cs) = ⟨(utf cs).toArray⟩ := by
  unfold strOfNums
  rw [utfZ_utf]
theorem encodeRuneZ_fit (c : Int) : Fit .u8 (Lib.encodeRuneZ c) := fun x hx => by
  have := Lib.encodeRuneZ_byte c x hx
  exact wf_u8 (by omega) (by omega)

set_option maxRecDepth 100000 in
set_option maxHeartbeats 4000000 in
theorem refDecode_any (v : Value) (b : List Int) (w : World) (h : Row w .u8 v b) (hl : b.length + 4 ≤ 140737488355328) :
    Calls Tryd.prog 76 #[v] w (Ret w (DecAns b)) := by
  have hf := h.fit
  have hk := h
  obtain ⟨A, c, rfl, hbc, hcm, -, -, -⟩ := hk
  unfold maxLen at hcm
  have HF := Lib.hid hf
  clear hf
  obtain ⟨n, hn⟩ : ∃ n, b.length = n := ⟨_, rfl⟩
  rw [hn] at hbc hl
  have HN := Lib.hid hn
  rw [HN.out] at h ⊢
  clear hn
  go_enter Tryd.func76, Tryd.ntmps76
  go_wp2
  go_loopw [5, 6] (fun u at' wr => ∃ (k : Nat) (pre : List Int), at' = .int .i64 k ∧ k ≤ n ∧ Ext w wr ∧ Own w.heap.size wr 5 .u8 u (utfZ pre) ∧ Hid (Upto b k pre)) (fun _ at' _ => n - (intOf at').toNat)
  case atStart => exact ⟨0, [], rfl, by omega, Ext.refl w, Own.nil _ _ _ _, Lib.hid (Upto.start b)⟩
  case round =>
    obtain ⟨k, pre, rfl, hkn, hx, ho, HU⟩ := hrel
    have hwr : w.heap.size ≤ wr.heap.size := hx.size
    by_cases hlt : k < n
    · obtain ⟨c1, hc1⟩ : ∃ c1, (nextZ (b.drop k)).1 = c1 := ⟨_, rfl⟩
      obtain ⟨m, hm⟩ : ∃ m, (nextZ (b.drop k)).2 = m := ⟨_, rfl⟩
      have hne : nextZ (b.drop k) = (c1, m) := by rw [← hc1, ← hm]
      have HC := Lib.hid hne
      clear hc1 hm hne
      have hsm : (utf pre).length ≤ k := HU.out.small
      by_cases hm0 : m = 0
      · subst hm0
        go_wp2_with fail
        refine (next_any _ b k _ (by exact h.ext hx) (by rw [HN.out]; exact hkn)).mono ?_
        rw [HC.out]
        rintro e w2 ⟨rfl, he2⟩
        have hs := HU.out.fail (by rw [HN.out]; exact hlt) (by rw [HC.out])
        have HS := Lib.hid hs
        clear hs
        go_wp2
        go_ret3
        exact Ret.mk (.inr ⟨HS.out.2, by rw [HS.out.1]; rfl⟩) (hx.trans he2)
      · have hmb : ((m : Int) == 0) = false := by simp; omega
        obtain ⟨hu2, hsc⟩ := HU.out.next HF.out HC.out hm0
        have HU2 := Lib.hid hu2
        have hkm : k + m ≤ n := by have := hu2.le; have := HN.out; omega
        have hc0 := hsc.lo
        have hc9 := hsc.hi
        have hm1 : 1 ≤ m := by omega
        have hlz : (utfZ pre).length + 4 ≤ 140737488355328 := by rw [utfZ_len]; omega
        clear hu2 hm0 hsc
        go_wp2_with fail
        refine (next_any _ b k _ (by exact h.ext hx) (by rw [HN.out]; exact hkn)).mono ?_
        rw [HC.out]
        rintro e w2 ⟨rfl, he2⟩
        have x2 : Ext w w2 := hx.trans he2
        have ho2 := ho.ext he2
        go_wp2_with fail
        refine (Tryd.utf8_AppendRune_plain w.heap.size _ (utfZ pre).length _ c1 (by omega) (by omega) _ ho2.1 hlz x2.size).mono ?_
        rintro e w3 ⟨v3, rfl, ho3, o, hg3⟩
        have x3 : Ext w w3 := (x2.alloc o).grown hg3 ho2.low
        have ho4 : Own w.heap.size w3 5 .u8 v3 (utfZ (pre ++ [c1])) := by
          rw [utfZ_snoc]
          exact ⟨by simpa [Lib.runeCells] using ho3, ho2.2.app (encodeRuneZ_fit c1)⟩
        go_wp2
        go_roundw
        case rel => exact ⟨k + m, pre ++ [c1], by go_num, hkm, x3, ho4, HU2⟩
        case measure => simp [intOf]; omega
    · have hs := HU.out.done (by rw [HN.out]; exact hlt)
      have HS := Lib.hid hs
      have hcv := ho.row.conv
      rw [str_utfZ] at hcv
      clear hs
      go_wp2
      go_ret3
      exact Ret.mk (.inl ⟨by rw [HS.out.1, HN.out], by rw [HS.out.2]; rfl⟩) hx
end Go.Proofs.YtecgldkhjgcffaaDoor
/- What the statements' examples of texts rest on. -/
namespace Go.Proofs.YtecgldkhjgcffaaDoor
open Go.RowKit
set_option linter.unusedVariables false

/-- A bool comes back, and all that was there is as it was. -/
def RetT (w : World) (b : Bool) (e : Ending) (w' : World) : Prop := e = .returned (.bool b) ∧ Ext w w'
theorem Row.litT (w : World) (l : List Int) (hf : Fit .u8 l) (hl : l.length ≤ 65536) (hp : 0 < l.length) :
    Row (w.alloc (.cells (l.map (Value.int .u8)).toArray 5)) .u8 (.slice (some ⟨w.heap.size, 0, none⟩) l.length l.length) l := Row.built w .u8 5 l hf hl
theorem fit_dec {l : List Int} (h : (l.all fun x => decide (0 ≤ x ∧ x < 256)) = true) : Fit .u8 l := fun x hx => by
  have := of_decide_eq_true (List.all_eq_true.1 h x hx)
  exact wf_u8 (by omega) (by omega)
theorem str_eq (s : ByteArray) (l : List UInt8) (h : s.data.toList = l) : (⟨l.toArray⟩ : ByteArray) = s := by
  subst h
  rfl

/-- A string's bytes in a class are at most three times as many. -/
theorem enc_len (l : List UInt8) : (encZ l).length ≤ 3 * l.length := by
  obtain ⟨n, hn⟩ : ∃ n, l.length ≤ n := ⟨_, Nat.le_refl _⟩
  induction n generalizing l with
  | zero =>
    have : l = [] := List.eq_nil_of_length_eq_zero (by omega)
    subst this
    exact Nat.le_refl _
  | succ n ih =>
    by_cases hne : l = []
    · subst hne
      exact Nat.le_refl _
    · have hl : 0 < l.length := List.length_pos_iff.2 hne
      have hw := Lib.decodeL_width l
      have hle := decodeL_le l hne
      have hi := ih (l.drop (Lib.decodeL l).2) (by rw [List.length_drop]; omega)
      have hc : (ch (Lib.decodeL l).1).length ≤ 3 * (Lib.decodeL l).2 := by
        rw [Lib.decodeL_N]
        rcases Lib.decodeN_shape l.length (l.getD 0 0).toNat (l.getD 1 0).toNat (l.getD 2 0).toNat (l.getD 3 0).toNat with ⟨c, e⟩ | ⟨c1, c2, c3, cv, e⟩ | ⟨c1, c2, c3, c4, cv, cs, e⟩ | ⟨c1, c2, c3, c4, c5, cv, cw, e⟩ | e
        · rw [e]
          dsimp only
          by_cases h0 : 1 ≤ ((l.getD 0 0).toNat : Int) ∧ ((l.getD 0 0).toNat : Int) ≤ 127
          · rw [ch1 h0]; simp
          · rw [ch2 h0 (by omega)]; simp
        · rw [e]
          have := (ch_len ((((l.getD 0 0).toNat % 32 * 64 + (l.getD 1 0).toNat % 64 : Nat)) : Int)).2
          dsimp only
          omega
        · rw [e]
          have := (ch_len ((((l.getD 0 0).toNat % 16 * 4096 + (l.getD 1 0).toNat % 64 * 64 + (l.getD 2 0).toNat % 64 : Nat)) : Int)).2
          dsimp only
          omega
        · rw [e]
          have := (ch_len ((((l.getD 0 0).toNat % 8 * 262144 + (l.getD 1 0).toNat % 64 * 4096 + (l.getD 2 0).toNat % 64 * 64 + (l.getD 3 0).toNat % 64 : Nat)) : Int)).2
          dsimp only
          omega
        · rw [e]
          decide
      rw [List.length_drop] at hi
      unfold encZ at hi ⊢
      rw [runes_step l hne, mu_cons, List.length_append]
      omega
theorem enc_fit (s : ByteArray) (h : s.size ≤ 1048576) : (encZ s.data.toList).length ≤ 3145728 := by
  have := enc_len s.data.toList
  rw [← Lib.size_eq] at this
  omega
/-- What was encoded comes back. -/
theorem enc_back (s : ByteArray) (hv : Lib.validD s.data.toList = true) : stop (encZ s.data.toList) = (encZ s.data.toList).length ∧ (⟨(utf (chs (encZ s.data.toList))).toArray⟩ : ByteArray) = s := by
  have hch := chs_all (runes_sc s.data.toList)
  refine ⟨hch.2, ?_⟩
  unfold encZ
  rw [hch.1]
  exact str_eq s _ (utf_runes _ hv).symm
/-- What can be read is a text, and written so. -/
theorem dec_back {b : List Int} (hf : Fit .u8 b) (h : stop b = b.length) (S : ByteArray) (hS : (⟨(utf (chs b)).toArray⟩ : ByteArray) = S) : Lib.validD S.data.toList = true ∧ encZ S.data.toList = b ∧ S.size ≤ b.length := by
  obtain ⟨h1, h2, h3⟩ := chs_sound hf
  obtain ⟨e1, e2⟩ := back_utf h1
  have hd : S.data.toList = utf (chs b) := by rw [← hS]
  have hm : mu (chs b) = b := by rw [drop_stop hf, h, List.take_length]
  rw [Lib.size_eq, hd]
  refine ⟨e1, by unfold encZ; rw [e2, hm], ?_⟩
  have := (utf_le h1).1
  rw [hm] at this
  exact this
end Go.Proofs.YtecgldkhjgcffaaDoor
