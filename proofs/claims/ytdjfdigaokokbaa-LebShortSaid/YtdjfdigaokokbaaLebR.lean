/- The document's answers of layer 1, walked. -/
import Derived.Test.YtdjfdigaokokbaaLebX
import Derived.Test.YtdjfdigaokokbaaLebMath
import Derived.Test.YtdjfdigaokokbaaOwn
namespace Go.Proofs.Ytdjfdigaokokbaa
open Go.RowKit
set_option linter.unusedVariables false

set_option maxHeartbeats 1000000 in
theorem refU_any (n : Int) (w : World) (hl : -9223372036854775808 ≤ n) (hh : n ≤ 9223372036854775807) :
    Calls Try.prog 14 #[.int .i64 n] w (Ret w (RowErr w (uS n).1 (uS n).2)) := by
  by_cases h0 : n < 0
  · have e : uS n = ([], 9) := by unfold uS; rw [if_pos (.inl h0)]
    rw [e]
    clear e
    go_enter Try.func14, Try.ntmps14
    go_wp2
    go_ret2
    exact Ret.mk ⟨_, rfl, Own.nil _ _ _ _⟩ (Ext.refl _)
  · by_cases h1 : 9007199254740991 < n
    · have e : uS n = ([], 9) := by unfold uS; rw [if_pos (.inr h1)]
      rw [e]
      clear e
      go_enter Try.func14, Try.ntmps14
      go_wp2
      go_ret2
      exact Ret.mk ⟨_, rfl, Own.nil _ _ _ _⟩ (Ext.refl _)
    · have e : uS n = (dg 1 10 n, 0) := by unfold uS; rw [if_neg (by omega)]
      rw [e]
      clear e
      have hin : InB 1 9 n := InB.start hl hh (.inr ⟨rfl, by omega⟩)
      go_enter Try.func14, Try.ntmps14
      go_wp2
      go_loopw [0, 4] (fun x o wr => ∃ (f : Nat) (m : Int) (pre : List Int), x = .int .i64 m ∧ Ext w wr ∧ Own w.heap.size wr 5 .u8 o pre ∧ f ≤ 9 ∧ Hid (pre.length + f = 9) ∧ pre.length ≤ 9 ∧ InB 1 f m ∧ Hid (dg 1 10 n = pre ++ dg 1 (f + 1) m)) (fun x _ _ => mag x)
      case atStart => exact ⟨9, n, [], rfl, Ext.refl _, Own.nil _ _ _ _, by omega, rfl, by simp, hin, rfl⟩
      case round =>
        clear h0 h1 hin
        obtain ⟨f, m, pre, rfl, he, ho, hf, HP, hpl, hb, HD⟩ := hrel
        have hm := hb.bound hf
        have hm0 : 0 ≤ m := by have := hb.2.2; omega
        by_cases hc : m < 128
        · have HC : Hid (m / 128 = ab 1 (m % 128)) := by rw [Hid, ab_one]; omega
          go_wp2_with (at_builtin; refine wpList_app _ rfl _ _ w.heap.size 22 5 _ 1 .u8 rfl Try.underlying22 info8 rfl (by omega) _ pre rfl (ho.ext ((Ext.refl _).alloc _)) _ [_] rfl (Row.built1 _ _ _ _ (wf_u8 (by omega) (by omega))) (by simp; omega) (by have := he.size; simp; omega) ?_; intro v2 w2 ho2 hg2 _)
          go_ret2
          refine Ret.mk ⟨_, rfl, ?_⟩ ((he.alloc _).grown hg2 ho.low)
          rw [HD.out, dg_last f HC.out]
          have e : m % 128 = m := by omega
          rw [e]
          simpa using ho2
        · have HC : Hid (¬ m / 128 = ab 1 (m % 128)) := by rw [Hid, ab_one]; omega
          have hf1 : ¬ f = 0 := by
            rintro rfl
            exact HC.out hb.last
          obtain ⟨g, rfl⟩ : ∃ g, f = g + 1 := ⟨f - 1, by omega⟩
          go_wp2_with (at_builtin; refine wpList_app _ rfl _ _ w.heap.size 22 5 _ 1 .u8 rfl Try.underlying22 info8 rfl (by omega) _ pre rfl (ho.ext ((Ext.refl _).alloc _)) _ [_] rfl (Row.built1 _ _ _ _ (wf_u8 (by omega) (by omega))) (by simp; omega) (by have := he.size; simp; omega) ?_; intro v2 w2 ho2 hg2 _)
          go_roundw
          case rel =>
            refine ⟨g, m / 128, pre ++ [m % 128 + 128], rfl, (he.alloc _).grown hg2 ho.low, ho2, by omega, ?_, ?_, hb.next, ?_⟩
            · have := HP.out
              simp [Hid]
              omega
            · have := HP.out
              simp
              omega
            · rw [Hid, HD.out, dg_step _ HC.out]
              simp
          case measure => exact mag_lt hb HC.out

set_option maxHeartbeats 1000000 in
theorem refS_any (n : Int) (w : World) (hl : -9223372036854775808 ≤ n) (hh : n ≤ 9223372036854775807) :
    Calls Try.prog 21 #[.int .i64 n] w (Ret w (fun v' w' => Own w.heap.size w' 5 .u8 v' (dg 2 10 n))) := by
  have hin : InB 2 9 n := InB.start hl hh (.inl rfl)
  go_enter Try.func21, Try.ntmps21
  go_wp2
  go_loopw [0, 3] (fun x o wr => ∃ (f : Nat) (m : Int) (pre : List Int), x = .int .i64 m ∧ Ext w wr ∧ Own w.heap.size wr 5 .u8 o pre ∧ f ≤ 9 ∧ Hid (pre.length + f = 9) ∧ pre.length ≤ 9 ∧ InB 2 f m ∧ Hid (dg 2 10 n = pre ++ dg 2 (f + 1) m)) (fun x _ _ => mag x)
  case atStart => exact ⟨9, n, [], rfl, Ext.refl _, Own.nil _ _ _ _, by omega, rfl, by simp, hin, rfl⟩
  case round =>
    clear hin
    obtain ⟨f, m, pre, rfl, he, ho, hf, HP, hpl, hb, HD⟩ := hrel
    have hm := hb.bound hf
    have ha := and127
    have h256 : m % 128 % 256 = m % 128 := by omega
    by_cases hc : m / 128 = ab 2 (m % 128)
    · have HC := Lib.hid hc
      rw [ab_two] at hc
      by_cases hd : m % 128 < 64
      · have hz : (m / 128 == 0) = true := beq_iff_eq.2 (by omega)
        clear hc
        go_wp2_with (at_builtin; refine wpList_app _ rfl _ _ w.heap.size 22 5 _ 1 .u8 rfl Try.underlying22 info8 rfl (by omega) _ pre rfl (ho.ext ((Ext.refl _).alloc _)) _ [_] rfl (Row.built1 _ _ _ _ (wf_u8 (by omega) (by omega))) (by simp; omega) (by have := he.size; simp; omega) ?_; intro v2 w2 ho2 hg2 _)
        go_ret
        refine Ret.mk ?_ ((he.alloc _).grown hg2 ho.low)
        rw [HD.out, dg_last f HC.out]
        simpa using ho2
      · have hz : (m / 128 == 0) = false := beq_eq_false_iff_ne.2 (by omega)
        have hz1 : (m / 128 == -1) = true := beq_iff_eq.2 (by omega)
        clear hc
        go_wp2_with (at_builtin; refine wpList_app _ rfl _ _ w.heap.size 22 5 _ 1 .u8 rfl Try.underlying22 info8 rfl (by omega) _ pre rfl (ho.ext ((Ext.refl _).alloc _)) _ [_] rfl (Row.built1 _ _ _ _ (wf_u8 (by omega) (by omega))) (by simp; omega) (by have := he.size; simp; omega) ?_; intro v2 w2 ho2 hg2 _)
        go_ret
        refine Ret.mk ?_ ((he.alloc _).grown hg2 ho.low)
        rw [HD.out, dg_last f HC.out]
        simpa using ho2
    · have HC := Lib.hid hc
      have hf1 : ¬ f = 0 := by
        rintro rfl
        exact HC.out hb.last
      obtain ⟨g, rfl⟩ : ∃ g, f = g + 1 := ⟨f - 1, by omega⟩
      rw [ab_two] at hc
      have fin : ∀ (v2 : Value) (w2 : World), Own w.heap.size w2 5 .u8 v2 (pre ++ [m % 128 + 128]) → Ext w w2 → ∃ (f : Nat) (m' : Int) (pre' : List Int), Value.int .i64 (m / 128) = .int .i64 m' ∧ Ext w w2 ∧ Own w.heap.size w2 5 .u8 v2 pre' ∧ f ≤ 9 ∧ Hid (pre'.length + f = 9) ∧ pre'.length ≤ 9 ∧ InB 2 f m' ∧ Hid (dg 2 10 n = pre' ++ dg 2 (f + 1) m') := by
        intro v2 w2 ho2 he2
        refine ⟨g, m / 128, pre ++ [m % 128 + 128], rfl, he2, ho2, by omega, ?_, ?_, hb.next, ?_⟩
        · have := HP.out
          simp [Hid]
          omega
        · have := HP.out
          simp
          omega
        · rw [Hid, HD.out, dg_step _ HC.out]
          simp
      have hcases : (m / 128 == 0) = false ∧ (m / 128 == -1) = false ∨ (m / 128 == 0) = true ∧ (m / 128 == -1) = false ∧ 64 ≤ m % 128 ∨ (m / 128 == 0) = false ∧ (m / 128 == -1) = true ∧ m % 128 < 64 := by
        rw [beq_eq_false_iff_ne, beq_eq_false_iff_ne, beq_iff_eq, beq_iff_eq]
        omega
      have HF := Lib.hid fin
      clear hc fin
      rcases hcases with ⟨q1, q2⟩ | ⟨q1, q2, q3⟩ | ⟨q1, q2, q3⟩
      all_goals
        go_wp2_with (at_builtin; refine wpList_app _ rfl _ _ w.heap.size 22 5 _ 1 .u8 rfl Try.underlying22 info8 rfl (by omega) _ pre rfl (ho.ext ((Ext.refl _).alloc _)) _ [_] rfl (Row.built1 _ _ _ _ (wf_u8 (by omega) (by omega))) (by simp; omega) (by have := he.size; simp; omega) ?_; intro v2 w2 ho2 hg2 _)
        go_roundw
        case rel => exact HF.out _ _ ho2 ((he.alloc _).grown hg2 ho.low)
        case measure => exact mag_lt hb HC.out
end Go.Proofs.Ytdjfdigaokokbaa
