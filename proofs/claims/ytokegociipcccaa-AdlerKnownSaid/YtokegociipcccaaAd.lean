/- The walks of package adler, and of the document's answer. -/
import Derived.Test.YtokegociipcccaaSl
import Derived.Test.YtokegociipcccaaAdSpec
import Derived.Lib.EndianBits
namespace Go.Proofs.Ytokegociipcccaa
open Go.RowKit
set_option linter.unusedVariables false

theorem b32_and16 (x : Int) (h0 : 0 ≤ x) (h1 : x < 4294967296) : bits .and .u32 x 65535 = x % 65536 := bits_mask .u32 32 (by decide) wraps_u32 16 (by decide) x h0 h1
theorem b32_or16 (x y : Int) (h0 : 0 ≤ x) (h1 : x < 65536) (hy0 : 0 ≤ y) (hy1 : y < 65536) : bits .or .u32 (x * 65536) y = x * 65536 + y :=
  bits_join .u32 32 (by decide) wraps_u32 16 (x * 65536) y (by omega) (by simp) (by omega) hy0 hy1 (by omega)

theorem half_lo (s : Int) (w : World) (h0 : 0 ≤ s) (h1 : s ≤ 4294967295) :
    Calls Try.prog 17 #[.int .u32 s, .int .i64 0] w fun e w' => e = .returned (.int .u32 (s % 65536 % 65521)) ∧ w = w' := by
  have b1 := b32_and16 s (by omega) (by omega)
  go_enter Try.func17, Try.ntmps17
  go_wp2
  go_ret
  exact ⟨rfl, rfl⟩
theorem half_hi (s : Int) (w : World) (h0 : 0 ≤ s) (h1 : s ≤ 4294967295) :
    Calls Try.prog 17 #[.int .u32 s, .int .i64 16] w fun e w' => e = .returned (.int .u32 (s / 65536 % 65521)) ∧ w = w' := by
  have b1 := b32_and16 (s / 65536) (by omega) (by omega)
  have b2 : s / 65536 % 65536 = s / 65536 := by omega
  go_enter Try.func17, Try.ntmps17
  go_wp2
  go_ret
  exact ⟨rfl, rfl⟩

set_option maxHeartbeats 1000000 in
theorem takeIn_any (a b : Int) (v : Value) (l : List Int) (w : World) (h : Row w .u8 v l) (ha0 : 0 ≤ a) (ha1 : a ≤ 65520) (hb0 : 0 ≤ b) (hb1 : b ≤ 65520) (hn : l.length ≤ 5552) :
    Calls Try.prog 18 #[.int .u32 a, .int .u32 b, v] w fun e w' => e = .returned (.tuple #[.int .u32 ((a + sm l) % 65521), .int .u32 ((b + up a l) % 65521)]) ∧ w = w' := by
  obtain ⟨A, c, rfl, h2, h3, h4, h5, h6⟩ := h
  clear h2 h3 h4
  go_enter Try.func18, Try.ntmps18
  go_wp2
  go_loop [0, 1, 12] (fun x y i => ∃ k : Nat, k ≤ l.length ∧ i = .int .i64 k ∧ x = .int .u32 (a + sm (l.take k)) ∧ y = .int .u32 (b + up a (l.take k))) (fun _ _ i => l.length - (intOf i).toNat)
  case atStart => exact ⟨0, by omega, rfl, by simp [sm], by simp [up]⟩
  case round =>
    obtain ⟨k, hk, rfl, rfl, rfl⟩ := hrel
    have d1 := sm_bd (h5.take k)
    have d2 := up_room (h5.take k) ha0 ha1 (by rw [List.length_take]; omega)
    have d3 : (l.take k).length = k := by rw [List.length_take]; omega
    rw [d3] at d1
    clear d3
    by_cases hlt : k < l.length
    · obtain ⟨bl, o, rfl, _, hc⟩ := h6 (by omega)
      have hy := hc k hlt
      have hx := h5.u8 (gi_mem hlt)
      have d2' := up_room (h5.take (k + 1)) ha0 ha1 (by rw [List.length_take]; omega)
      have e1 := sm_take hlt
      have e2 := up_take a hlt
      rw [e2] at d2'
      have E1 := Lib.hid e1
      have E2 := Lib.hid e2
      clear e1 e2 hc h6
      go_wp2
      go_round
      case rel => exact ⟨k + 1, by omega, by go_num, by rw [E1.out]; go_num, by rw [E2.out]; go_num⟩
      case measure => simp [intOf]; omega
    · have hkl : k = l.length := by omega
      subst hkl
      rw [List.take_length] at d1 d2 ⊢
      clear h6
      go_wp2
      go_ret2
      exact ⟨rfl, rfl⟩

/-- How long a slice value is. -/
def lenOf : Value → Nat
  | .slice _ n _ => n
  | _ => 0
theorem ret_u32 {a b : Int} (h : a = b) : Ending.returned (.int .u32 a) = .returned (.int .u32 b) := by rw [h]
theorem val_u32 {a b : Int} (h : a = b) : Value.int .u32 a = .int .u32 b := by rw [h]
theorem take_bd (a : Int) : 0 ≤ a % 65521 ∧ a % 65521 ≤ 65520 := by omega

set_option maxHeartbeats 2000000 in
theorem On_any (s : Int) (v : Value) (l : List Int) (w : World) (h : Row w .u8 v l) (h0 : 0 ≤ s) (h1 : s ≤ 4294967295) (hr : l.length ≤ 140737488355328) :
    Calls Try.prog 12 #[.int .u32 s, v] w fun e w' => e = .returned (.int .u32 (adl s l)) ∧ w = w' := by
  have hmf : ∀ (fn : Fn) (first cap : Array Value) (w : World), (Instr.makeFunc fn first cap).run Try.prog w = .ok (.func fn first cap) w := fun _ _ _ _ => rfl
  have h' := h
  obtain ⟨A, c, rfl, h2, h3, h4, h5, h6⟩ := h'
  clear h2 h3 h4 h6
  go_enter Try.func12, Try.ntmps12
  go_wp2_with (first
    | (go_at_call 17; refine (half_lo s _ h0 h1).mono ?_; rintro e w1 ⟨rfl, rfl⟩)
    | (go_at_call 17; refine (half_hi s _ h0 h1).mono ?_; rintro e w1 ⟨rfl, rfl⟩))
  go_loop [1, 6, 7] (fun v x y => ∃ (B : Option Addr) (n d : Nat) (pre rest : List Int), Hid (l = pre ++ rest) ∧ Hid (rest.length = n) ∧ v = .slice B n d ∧ Row w .u8 (.slice B n d) rest ∧ x = .int .u32 ((s % 65536 + sm pre) % 65521) ∧ y = .int .u32 ((s / 65536 + up (s % 65536) pre) % 65521)) (fun v _ _ => lenOf v)
  case atStart => exact ⟨A, l.length, c, [], l, rfl, rfl, rfl, h, by simp [sm], by simp [up]⟩
  case round =>
    obtain ⟨B, n, d, pre, rest, HL, HN, rfl, hw, rfl, rfl⟩ := hrel
    have hrl : n ≤ l.length := by rw [HL.out, List.length_append, HN.out]; omega
    by_cases hz : n = 0
    · subst hz
      have e : rest = [] := List.eq_nil_of_length_eq_zero HN.out
      subst e
      have HE : Hid (l = pre) := by rw [Hid, HL.out, List.append_nil]
      have e1 := take_bd (s % 65536 + sm pre)
      have e2 := take_bd (s / 65536 + up (s % 65536) pre)
      have e3 := b32_or16 ((s / 65536 + up (s % 65536) pre) % 65521) ((s % 65536 + sm pre) % 65521) (by omega) (by omega) (by omega) (by omega)
      clear hw HN
      go_wp2
      go_ret
      exact ⟨ret_u32 (by rw [adl, adH, adL, ← HE.out]), rfl⟩
    · by_cases hmn : n ≤ 5552
      · have hql' : n ≤ rest.length := by have := HN.out; omega
        obtain ⟨v3, r3, r3', hh⟩ := head3_slice hw n hql'
        obtain ⟨v4, r4, r4', ht⟩ := tail_slice hw n hql'
        have ht' := ht
        obtain ⟨B4, d4, rfl, _⟩ := ht'
        have HP : Hid (l = (pre ++ rest.take n) ++ rest.drop n) := by rw [Hid, HL.out, List.append_assoc, List.take_append_drop]
        have e1 := take_bd (s % 65536 + sm pre)
        have e2 := take_bd (s / 65536 + up (s % 65536) pre)
        have hlen : (rest.take n).length ≤ 5552 := by rw [List.length_take]; omega
        obtain ⟨m, hm⟩ : ∃ m, m = (rest.drop n).length := ⟨_, rfl⟩
        have hdl : m < n := by rw [hm, List.length_drop, HN.out]; omega
        rw [← hm] at r4 r4' ht
        have HM : Hid ((rest.drop n).length = m) := hm.symm
        clear hm
        go_wp2_with (go_at_call 18; refine (takeIn_any _ _ _ (rest.take n) _ (by exact hh) (by omega) (by omega) (by omega) (by omega) hlen).mono ?_; rintro e w1 ⟨rfl, rfl⟩)
        go_round
        case rel => exact ⟨B4, m, d4, pre ++ rest.take n, rest.drop n, HP, HM, rfl, ht, val_u32 (by rw [← lo_step]; omega), val_u32 (by rw [← hi_step]; omega)⟩
        case measure => simp only [lenOf]; exact hdl
      · have hql' : 5552 ≤ rest.length := by have := HN.out; omega
        obtain ⟨v3, r3, r3', hh⟩ := head3_slice hw 5552 hql'
        obtain ⟨v4, r4, r4', ht⟩ := tail_slice hw 5552 hql'
        simp only [show ((5552 : Nat) : Int) = 5552 from rfl] at r3 r3' r4 r4'
        have ht' := ht
        obtain ⟨B4, d4, rfl, _⟩ := ht'
        have HP : Hid (l = (pre ++ rest.take 5552) ++ rest.drop 5552) := by rw [Hid, HL.out, List.append_assoc, List.take_append_drop]
        have e1 := take_bd (s % 65536 + sm pre)
        have e2 := take_bd (s / 65536 + up (s % 65536) pre)
        have hlen : (rest.take 5552).length ≤ 5552 := by rw [List.length_take]; omega
        obtain ⟨m, hm⟩ : ∃ m, m = (rest.drop 5552).length := ⟨_, rfl⟩
        have hdl : m < n := by rw [hm, List.length_drop, HN.out]; omega
        rw [← hm] at r4 r4' ht
        have HM : Hid ((rest.drop 5552).length = m) := hm.symm
        clear hm
        go_wp2_with (go_at_call 18; refine (takeIn_any _ _ _ (rest.take 5552) _ (by exact hh) (by omega) (by omega) (by omega) (by omega) hlen).mono ?_; rintro e w1 ⟨rfl, rfl⟩)
        go_round
        case rel => exact ⟨B4, m, d4, pre ++ rest.take 5552, rest.drop 5552, HP, HM, rfl, ht, val_u32 (by rw [← lo_step]; omega), val_u32 (by rw [← hi_step]; omega)⟩
        case measure => simp only [lenOf]; exact hdl
end Go.Proofs.Ytokegociipcccaa
