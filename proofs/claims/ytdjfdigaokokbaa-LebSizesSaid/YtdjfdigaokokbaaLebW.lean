/- The statements' own helpers of layer 1: a number there and back, and the chapter's examples. -/
import Derived.Test.YtdjfdigaokokbaaLebB
namespace Go.Proofs.Ytdjfdigaokokbaa
open Go.RowKit
set_option linter.unusedVariables false

theorem TakeBig_any (v : Value) (l : List Int) (size : Int) (w : World) (h : Row w .u8 v l) (hr : l.length ≤ 140737488355328) (hsl : -9223372036854775808 ≤ size) (hsh : size ≤ 9223372036854775807) :
    Calls Try.prog 26 #[v, .int .i64 size] w (Ret w (RowTake w (tB 7 3 l size))) := by
  go_enter Try.func26, Try.ntmps26
  go_wp2_with (first
    | (go_at_call 39; refine (takeBig_any _ l size 7 3 _ h hr hsl hsh (by omega) (by omega)).mono ?_; rintro e w1 ⟨v1, rfl, ⟨b1, rfl, ho1⟩, he1⟩))
  go_ret3
  exact Ret.mk ⟨_, rfl, ho1⟩ he1
theorem TakeBigS_any (v : Value) (l : List Int) (size : Int) (w : World) (h : Row w .u8 v l) (hr : l.length ≤ 140737488355328) (hsl : -9223372036854775808 ≤ size) (hsh : size ≤ 9223372036854775807) :
    Calls Try.prog 28 #[v, .int .i64 size] w (Ret w (RowTake w (tB 8 4 l size))) := by
  go_enter Try.func28, Try.ntmps28
  go_wp2_with (first
    | (go_at_call 39; refine (takeBig_any _ l size 8 4 _ h hr hsl hsh (by omega) (by omega)).mono ?_; rintro e w1 ⟨v1, rfl, ⟨b1, rfl, ho1⟩, he1⟩))
  go_ret3
  exact Ret.mk ⟨_, rfl, ho1⟩ he1

/-- A bool comes back, and all that was there is as it was. -/
def RetB (w : World) (b : Bool) (e : Ending) (w' : World) : Prop := e = .returned (.bool b) ∧ Ext w w'


theorem short_true (n : Int) (v : Value) (l : List Int) (w : World) (h : Row w .u8 v l) (hl : l.length ≤ 20) (hn : -9223372036854775808 ≤ n ∧ n ≤ 9223372036854775807)
    (h1 : dg 2 10 n = l) (h2 : tS 10 2 (l ++ [9]) = (n, [9], 0)) :
    Calls Try.prog 33 #[.int .i64 n, v] w (RetB w true) := by
  have H1 := Lib.hid h1
  have H2 := Lib.hid h2
  clear h1 h2
  go_enter Try.func33, Try.ntmps33
  go_wp2_with (first
    | (go_at_call 12; refine (copyBytes_any _ l _ (by exact h) (by omega)).mono ?_; rintro e w1 ⟨v1, rfl, ho1, he1⟩)
    | (at_builtin; refine wpList_app _ rfl _ _ w.heap.size 22 5 _ 1 .u8 rfl Try.underlying22 info8 rfl (by omega) _ l rfl (ho1.ext ((Ext.refl _).alloc _)) _ [9] rfl (Row.built1 _ _ _ _ (wf_u8 (by omega) (by omega))) (by simp; omega) (by have := he1.size; simp; omega) ?_; intro v2 w2 ho2 hg2 _; have he2 : Ext w w2 := (he1.alloc _).grown hg2 ho1.low)
    | (go_at_call 18; refine (TakeS_any _ (l ++ [9]) _ (by exact ho2.row) (by simp; omega)).mono ?_; rw [H2.out]; rintro e w3 ⟨v3, rfl, ⟨b3, rfl, ho3⟩, he3⟩)
    | (go_at_call 15; refine (S_any _ _ hn.1 hn.2).mono ?_; rw [H1.out]; rintro e w4 ⟨v4, rfl, ho4, he4⟩)
    | (go_at_call 20; refine (eqBytes_any _ _ l l _ (by exact ho4.row) (by exact h.ext ((he2.trans he3).trans he4))).mono ?_; rw [decide_eq_true rfl]; rintro e w5 ⟨rfl, m5, rfl⟩)
    | (go_at_call 20; refine (eqBytes_any _ _ [9] [9] _ (by exact ho3.row.ext ((he4.drewN _).alloc _)) (by exact Row.built1 _ _ _ _ (wf_u8 (by omega) (by omega)))).mono ?_; rw [decide_eq_true rfl]; rintro e w6 ⟨rfl, m6, rfl⟩))
  go_ret
  exact ⟨rfl, (((((he2.trans he3).trans he4).drewN _).alloc _).drewN _)⟩

theorem plain_true (n : Int) (v : Value) (l : List Int) (w : World) (h : Row w .u8 v l) (hl : l.length ≤ 20) (hn : -9223372036854775808 ≤ n ∧ n ≤ 9223372036854775807)
    (h1 : uS n = (l, 0)) (h2 : tU (l ++ [9]) = (n, [9], 0)) :
    Calls Try.prog 34 #[.int .i64 n, v] w (RetB w true) := by
  have H1 := Lib.hid h1
  have H2 := Lib.hid h2
  clear h1 h2
  go_enter Try.func34, Try.ntmps34
  go_wp2_with (first
    | (go_at_call 13; refine (U_any _ _ hn.1 hn.2).mono ?_; rw [H1.out]; rintro e w0 ⟨v0, rfl, ⟨b0, rfl, ho0⟩, he0⟩)
    | (go_at_call 12; refine (copyBytes_any _ l _ (by exact h.ext he0) (by omega)).mono ?_; rintro e w1 ⟨v1, rfl, ho1, he1⟩)
    | (at_builtin; refine wpList_app _ rfl _ _ w.heap.size 22 5 _ 1 .u8 rfl Try.underlying22 info8 rfl (by omega) _ l rfl ((ho1.base he0.size).ext ((Ext.refl _).alloc _)) _ [9] rfl (Row.built1 _ _ _ _ (wf_u8 (by omega) (by omega))) (by simp; omega) (by have := (he0.trans he1).size; simp; omega) ?_; intro v2 w2 ho2 hg2 _; have he2 : Ext w w2 := ((he0.trans he1).alloc _).grown hg2 (ho1.base he0.size).low)
    | (go_at_call 16; refine (TakeU_any _ (l ++ [9]) _ (by exact ho2.row) (by simp; omega)).mono ?_; rw [H2.out]; rintro e w3 ⟨v3, rfl, ⟨b3, rfl, ho3⟩, he3⟩)
    | (go_at_call 20; refine (eqBytes_any _ _ l l _ (by exact ho0.row.ext (((he1.alloc _).grown hg2 ho1.low).trans he3)) (by exact h.ext (he2.trans he3))).mono ?_; rw [decide_eq_true rfl]; rintro e w5 ⟨rfl, m5, rfl⟩)
    | (go_at_call 20; refine (eqBytes_any _ _ [9] [9] _ (by exact ho3.row.ext (((Ext.refl _).drewN _).alloc _)) (by exact Row.built1 _ _ _ _ (wf_u8 (by omega) (by omega)))).mono ?_; rw [decide_eq_true rfl]; rintro e w6 ⟨rfl, m6, rfl⟩))
  go_ret
  exact ⟨rfl, ((((he2.trans he3).drewN _).alloc _).drewN _)⟩

theorem fails_true (u s : Int) (v : Value) (l : List Int) (w : World) (h : Row w .u8 v l) (hl : l.length ≤ 20) (h1 : (tU l).2.2 = u) (h2 : (tS 10 2 l).2.2 = s) :
    Calls Try.prog 35 #[.int .i64 u, .int .i64 s, v] w (RetB w true) := by
  have H1 := Lib.hid h1
  have H2 := Lib.hid h2
  have hu : (u == u) = true := by simp
  have hs : (s == s) = true := by simp
  clear h1 h2
  go_enter Try.func35, Try.ntmps35
  go_wp2_with (first
    | (go_at_call 16; refine (TakeU_any _ l _ (by exact h) (by omega)).mono ?_; rintro e w1 ⟨v1, rfl, ⟨b1, rfl, ho1⟩, he1⟩; rw [H1.out])
    | (go_at_call 18; refine (TakeS_any _ l _ (by exact h.ext he1) (by omega)).mono ?_; rintro e w3 ⟨v3, rfl, ⟨b3, rfl, ho3⟩, he3⟩; rw [H2.out]))
  go_ret
  exact ⟨rfl, he1.trans he3⟩
end Go.Proofs.Ytdjfdigaokokbaa
