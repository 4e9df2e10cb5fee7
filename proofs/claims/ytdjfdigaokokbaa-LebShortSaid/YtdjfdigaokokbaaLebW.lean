/- The statements' own helpers of layer 1: a number there and back, and the chapter's examples. -/
import Derived.Test.YtdjfdigaokokbaaLebB
import Derived.Test.YtdjfdigaokokbaaLebMath
namespace Go.Proofs.Ytdjfdigaokokbaa
open Go.RowKit
set_option linter.unusedVariables false

theorem TakeBig_any (v : Value) (l : List Int) (size : Int) (w : World) (h : Row w .u8 v l) (hr : l.length ≤ 140737488355328) (hsl : -9223372036854775808 ≤ size) (hsh : size ≤ 9223372036854775807) :
    Calls Try.prog 26 #[v, .int .i64 size] w (Ret w (RowTake w (tB 7 3 l size))) := by
  go_enter Try.func26, Try.ntmps26
  go_wp2_with (first
    | (go_at_call 39; refine (takeBig_any _ l size 7 3 _ h hr hsl hsh (by omega) (by omega)).mono ?_; rintro e w1 ⟨v1, rfl, ⟨b1, rfl, ho1⟩, he1⟩))
  go_ret3
  exact Ret.mk ⟨_, rfl, ho1⟩ he1
theorem TakeBigS_any (v : Value) (l : List Int) (size : Int) (w : World) (h : Row w .u8 v l) (hr : l.length ≤ 140737488355328) (hsl : -9223372036854775808 ≤ size) (hsh : size ≤ 9223372036854775807) :
    Calls Try.prog 28 #[v, .int .i64 size] w (Ret w (RowTake w (tB 8 4 l size))) := by
  go_enter Try.func28, Try.ntmps28
  go_wp2_with (first
    | (go_at_call 39; refine (takeBig_any _ l size 8 4 _ h hr hsl hsh (by omega) (by omega)).mono ?_; rintro e w1 ⟨v1, rfl, ⟨b1, rfl, ho1⟩, he1⟩))
  go_ret3
  exact Ret.mk ⟨_, rfl, ho1⟩ he1

theorem bring_any (i n : Int) (w : World) (hl : -9223372036854775808 ≤ i) (hh : i ≤ 9223372036854775807) (hl' : -9223372036854775808 ≤ n) (hh' : n ≤ 9223372036854775807) :
    Calls Try.prog 30 #[.int .i64 i, .int .i64 n] w fun e w' => e = .returned (.int .i64 (bring i n)) ∧ w = w' := by
  by_cases hn : n ≤ 0
  · have e : bring i n = 0 := by unfold bring; rw [if_pos hn]
    rw [e]
    clear e
    go_enter Try.func30, Try.ntmps30
    go_wp2
    go_ret
    exact ⟨rfl, rfl⟩
  · have hn1 : 0 < n := by omega
    rw [bring_pos i hn1]
    by_cases h0 : 0 ≤ i
    · have hm : 0 ≤ i % n := Int.emod_nonneg i (by omega)
      go_enter Try.func30, Try.ntmps30
      go_wp2
      go_ret
      exact ⟨rfl, rfl⟩
    · obtain ⟨ht, hb1, hb2⟩ := tmod_neg (i := i) (by omega) hn1
      have hm := Int.emod_nonneg i (show n ≠ 0 by omega)
      have hm2 := Int.emod_lt_of_pos i hn1
      by_cases hz : i.tmod n < 0
      · have e : i % n = i.tmod n + n := by omega
        rw [e]
        clear e ht
        go_enter Try.func30, Try.ntmps30
        go_wp2
        go_ret
        exact ⟨rfl, rfl⟩
      · have e : i % n = i.tmod n := by omega
        rw [e]
        clear e ht
        go_enter Try.func30, Try.ntmps30
        go_wp2
        go_ret
        exact ⟨rfl, rfl⟩

theorem hasPrefix_any (v1 v2 : Value) (l1 l2 : List Int) (w : World) (h1 : Row w .u8 v1 l1) (h2 : Row w .u8 v2 l2) :
    Calls Try.prog 31 #[v1, v2] w fun e w' => e = .returned (.bool (decide (l2 <+: l1))) ∧ w = w' := by
  by_cases hl : l2.length ≤ l1.length
  · have hp : decide (l2 <+: l1) = decide (l1.take l2.length = l2) := by
      rw [decide_eq_decide, List.prefix_iff_eq_take]
      exact eq_comm
    rw [hp]
    clear hp
    have hrow2 := h2
    obtain ⟨A1, c1, rfl, hc1, hm1, ha1, hf1, hg1⟩ := id h1
    obtain ⟨A2, c2, rfl, hc2, hm2, ha2, hf2, hg2⟩ := h2
    have hhead := h1.head l2.length hl
    unfold maxLen at hm1 hm2
    have hl' : (l2.length : Int) ≤ (l1.length : Int) := by omega
    clear hg1 hg2 ha1 ha2
    go_enter Try.func31, Try.ntmps31
    go_wp2_with (first
      | (go_at_call 41; refine (equal_any _ _ (l1.take l2.length) l2 _ (by exact hhead) (by exact hrow2)).mono ?_; rintro e w2 ⟨rfl, rfl⟩))
    go_ret
    exact ⟨rfl, rfl⟩
  · have hp : decide (l2 <+: l1) = false := by
      rw [decide_eq_false_iff_not]
      exact fun h => hl h.length_le
    rw [hp]
    clear hp
    obtain ⟨A1, c1, rfl, hc1, hm1, ha1, hf1, hg1⟩ := h1
    obtain ⟨A2, c2, rfl, hc2, hm2, ha2, hf2, hg2⟩ := h2
    clear hg1 hg2 ha1 ha2
    go_enter Try.func31, Try.ntmps31
    go_wp2
    go_ret
    exact ⟨rfl, rfl⟩

/-- A bool comes back, and all that was there is as it was. -/
def RetB (w : World) (b : Bool) (e : Ending) (w' : World) : Prop := e = .returned (.bool b) ∧ Ext w w'


theorem short_true (n : Int) (v : Value) (l : List Int) (w : World) (h : Row w .u8 v l) (hl : l.length ≤ 20) (hn : -9223372036854775808 ≤ n ∧ n ≤ 9223372036854775807)
    (h1 : dg 2 10 n = l) (h2 : tS 10 2 (l ++ [9]) = (n, [9], 0)) :
    Calls Try.prog 33 #[.int .i64 n, v] w (RetB w true) := by
  have H1 := Lib.hid h1
  have H2 := Lib.hid h2
  clear h1 h2
  go_enter Try.func33, Try.ntmps33
  go_wp2_with (first
    | (go_at_call 12; refine (copyBytes_any _ l _ (by exact h) (by omega)).mono ?_; rintro e w1 ⟨v1, rfl, ho1, he1⟩)
    | (at_builtin; refine wpList_app _ rfl _ _ w.heap.size 22 5 _ 1 .u8 rfl Try.underlying22 info8 rfl (by omega) _ l rfl (ho1.ext ((Ext.refl _).alloc _)) _ [9] rfl (Row.built1 _ _ _ _ (wf_u8 (by omega) (by omega))) (by simp; omega) (by have := he1.size; simp; omega) ?_; intro v2 w2 ho2 hg2 _; have he2 : Ext w w2 := (he1.alloc _).grown hg2 ho1.low)
    | (go_at_call 18; refine (TakeS_any _ (l ++ [9]) _ (by exact ho2.row) (by simp; omega)).mono ?_; rw [H2.out]; rintro e w3 ⟨v3, rfl, ⟨b3, rfl, ho3⟩, he3⟩)
    | (go_at_call 15; refine (S_any _ _ hn.1 hn.2).mono ?_; rw [H1.out]; rintro e w4 ⟨v4, rfl, ho4, he4⟩)
    | (go_at_call 20; refine (eqBytes_any _ _ l l _ (by exact ho4.row) (by exact h.ext ((he2.trans he3).trans he4))).mono ?_; rw [decide_eq_true rfl]; rintro e w5 ⟨rfl, m5, rfl⟩)
    | (go_at_call 20; refine (eqBytes_any _ _ [9] [9] _ (by exact ho3.row.ext ((he4.drewN _).alloc _)) (by exact Row.built1 _ _ _ _ (wf_u8 (by omega) (by omega)))).mono ?_; rw [decide_eq_true rfl]; rintro e w6 ⟨rfl, m6, rfl⟩))
  go_ret
  exact ⟨rfl, (((((he2.trans he3).trans he4).drewN _).alloc _).drewN _)⟩

theorem plain_true (n : Int) (v : Value) (l : List Int) (w : World) (h : Row w .u8 v l) (hl : l.length ≤ 20) (hn : -9223372036854775808 ≤ n ∧ n ≤ 9223372036854775807)
    (h1 : uS n = (l, 0)) (h2 : tU (l ++ [9]) = (n, [9], 0)) :
    Calls Try.prog 34 #[.int .i64 n, v] w (RetB w true) := by
  have H1 := Lib.hid h1
  have H2 := Lib.hid h2
  clear h1 h2
  go_enter Try.func34, Try.ntmps34
  go_wp2_with (first
    | (go_at_call 13; refine (U_any _ _ hn.1 hn.2).mono ?_; rw [H1.out]; rintro e w0 ⟨v0, rfl, ⟨b0, rfl, ho0⟩, he0⟩)
    | (go_at_call 12; refine (copyBytes_any _ l _ (by exact h.ext he0) (by omega)).mono ?_; rintro e w1 ⟨v1, rfl, ho1, he1⟩)
    | (at_builtin; refine wpList_app _ rfl _ _ w.heap.size 22 5 _ 1 .u8 rfl Try.underlying22 info8 rfl (by omega) _ l rfl ((ho1.base he0.size).ext ((Ext.refl _).alloc _)) _ [9] rfl (Row.built1 _ _ _ _ (wf_u8 (by omega) (by omega))) (by simp; omega) (by have := (he0.trans he1).size; simp; omega) ?_; intro v2 w2 ho2 hg2 _; have he2 : Ext w w2 := ((he0.trans he1).alloc _).grown hg2 (ho1.base he0.size).low)
    | (go_at_call 16; refine (TakeU_any _ (l ++ [9]) _ (by exact ho2.row) (by simp; omega)).mono ?_; rw [H2.out]; rintro e w3 ⟨v3, rfl, ⟨b3, rfl, ho3⟩, he3⟩)
    | (go_at_call 20; refine (eqBytes_any _ _ l l _ (by exact ho0.row.ext (((he1.alloc _).grown hg2 ho1.low).trans he3)) (by exact h.ext (he2.trans he3))).mono ?_; rw [decide_eq_true rfl]; rintro e w5 ⟨rfl, m5, rfl⟩)
    | (go_at_call 20; refine (eqBytes_any _ _ [9] [9] _ (by exact ho3.row.ext (((Ext.refl _).drewN _).alloc _)) (by exact Row.built1 _ _ _ _ (wf_u8 (by omega) (by omega)))).mono ?_; rw [decide_eq_true rfl]; rintro e w6 ⟨rfl, m6, rfl⟩))
  go_ret
  exact ⟨rfl, ((((he2.trans he3).drewN _).alloc _).drewN _)⟩

theorem fails_true (u s : Int) (v : Value) (l : List Int) (w : World) (h : Row w .u8 v l) (hl : l.length ≤ 20) (h1 : (tU l).2.2 = u) (h2 : (tS 10 2 l).2.2 = s) :
    Calls Try.prog 35 #[.int .i64 u, .int .i64 s, v] w (RetB w true) := by
  have H1 := Lib.hid h1
  have H2 := Lib.hid h2
  have hu : (u == u) = true := by simp
  have hs : (s == s) = true := by simp
  clear h1 h2
  go_enter Try.func35, Try.ntmps35
  go_wp2_with (first
    | (go_at_call 16; refine (TakeU_any _ l _ (by exact h) (by omega)).mono ?_; rintro e w1 ⟨v1, rfl, ⟨b1, rfl, ho1⟩, he1⟩; rw [H1.out])
    | (go_at_call 18; refine (TakeS_any _ l _ (by exact h.ext he1) (by omega)).mono ?_; rintro e w3 ⟨v3, rfl, ⟨b3, rfl, ho3⟩, he3⟩; rw [H2.out]))
  go_ret
  exact ⟨rfl, he1.trans he3⟩
end Go.Proofs.Ytdjfdigaokokbaa
