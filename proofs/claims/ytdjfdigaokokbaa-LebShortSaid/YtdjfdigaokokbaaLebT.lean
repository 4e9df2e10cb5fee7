/- The walks of package leb that take numbers off. -/
import Derived.Test.YtdjfdigaokokbaaLeb
namespace Go.Proofs.Ytdjfdigaokokbaa
open Go.RowKit
set_option linter.unusedVariables false

/-- A number, a row of bytes, an error's number. -/
def RowTake (w : World) (r : Int × List Int × Int) (v : Value) (w' : World) : Prop := ∃ b, v = .tuple #[.int .i64 r.1, b, .int .i64 r.2.2] ∧ Own w.heap.size w' 5 .u8 b r.2.1

set_option maxHeartbeats 1000000 in
theorem takeShort_any (v : Value) (l : List Int) (most : Nat) (wy : Int) (w : World) (h : Row w .u8 v l) (hw : wy = 1 ∧ most = 8 ∨ wy = 2 ∧ most = 10) (hr : l.length ≤ 140737488355328) :
    Calls Try.prog 37 #[v, .int .i64 most, .int .i64 wy] w (Ret w (RowTake w (tS most wy l))) := by
  by_cases hs : (spn most l).2 = 0
  · obtain ⟨hsp, hk1, hk2⟩ := spn_zero hs
    have hrow := h
    obtain ⟨A, c, rfl, h2, h3, h4, h5, h6⟩ := h
    unfold maxLen at h3
    obtain ⟨b, o, rfl, hb, hx⟩ := h6 (by omega)
    have HS := Lib.hid hsp
    obtain ⟨k, hk⟩ : ∃ k, k = fb l := ⟨_, rfl⟩
    rw [← hk] at hk1 hk2 HS
    have Hk := Lib.hid hk
    have hhead := hrow.head (k + 1) (by omega)
    have HT := Lib.hid hs
    have hle : k + 1 ≤ l.length := by omega
    clear hs hsp hx h6 h4 hk
    have hn0 : (k : Int) + 1 ≤ (l.length : Int) := by omega
    have htl : (l.take (k + 1)).length = k + 1 := by simp; omega
    have hwb := wo_bound wy (l.take (k + 1)) (by omega) (h5.take _)
    have hin : InB wy 9 (wo wy (l.take (k + 1))) := by
      refine InB.start hwb.1 hwb.2 ?_
      rcases hw with ⟨rfl, hm⟩ | ⟨rfl, hm⟩
      · exact .inr ⟨rfl, (wo_one _ (by omega)).1⟩
      · exact .inl rfl
    have hwy : wy = 1 ∨ wy = 2 ∨ wy = 3 ∨ wy = 4 := by omega
    have htS : tS most wy l = if l.take (k + 1) = dg wy 10 (wo wy (l.take (k + 1))) then (wo wy (l.take (k + 1)), l.drop (k + 1), 0) else (0, [], 4) := by
      rw [Hk.out]
      unfold tS
      rw [if_pos HT.out]
    by_cases hd : l.take (k + 1) = dg wy 10 (wo wy (l.take (k + 1)))
    · rw [if_pos hd] at htS
      rw [htS]
      have HD := Lib.hid hd
      have HL := Lib.hid htl
      clear hd htS htl HT Hk
      have htail := hrow.tail (k + 1) hle
      by_cases hcc : c = k + 1
      · have hll : l.drop (k + 1) = [] := List.drop_eq_nil_iff.2 (by omega)
        have HLL := Lib.hid hll
        clear hll htail
        have Hcc := Lib.hid hcc
        have hcl : l.length ≤ k + 1 := by omega
        clear hcc
        go_enter Try.func37, Try.ntmps37
        go_wp2_with (first
          | (go_at_call 44; refine (span_any _ l most _ hrow (by omega)).mono ?_; rintro e w1 ⟨rfl, rfl⟩; rw [HS.out])
          | (go_at_call 45; refine (worth_any _ _ wy _ hhead (by have := HL.out; omega) hwy).mono ?_; rintro e w1 ⟨rfl, rfl⟩)
          | (go_at_call 36; refine (digits_any _ wy _ hin hwb.1 hwb.2).mono ?_; rintro e w1 ⟨v1, rfl, ho1, he1⟩)
          | (go_at_call 41; refine (equal_any _ _ _ _ _ (by exact hhead.ext he1) (by exact ho1.row)).mono ?_; rintro e w2 ⟨rfl, rfl⟩; rw [decide_eq_true HD.out])
          | (go_at_call 46; refine (clone_any _ [] _ (by exact Row.none_ _ _ _) (by simp)).mono ?_; rintro e w2 ⟨v2, rfl, ho2, he2⟩))
        go_ret3
        refine Ret.mk ⟨_, rfl, ?_⟩ (he1.trans he2)
        rw [HLL.out]
        exact ho2.base he1.size
      · have hcc' : ¬ c = k + 1 := hcc
        go_enter Try.func37, Try.ntmps37
        go_wp2_with (first
          | (go_at_call 44; refine (span_any _ l most _ hrow (by omega)).mono ?_; rintro e w1 ⟨rfl, rfl⟩; rw [HS.out])
          | (go_at_call 45; refine (worth_any _ _ wy _ hhead (by have := HL.out; omega) hwy).mono ?_; rintro e w1 ⟨rfl, rfl⟩)
          | (go_at_call 36; refine (digits_any _ wy _ hin hwb.1 hwb.2).mono ?_; rintro e w1 ⟨v1, rfl, ho1, he1⟩)
          | (go_at_call 41; refine (equal_any _ _ _ _ _ (by exact hhead.ext he1) (by exact ho1.row)).mono ?_; rintro e w2 ⟨rfl, rfl⟩; rw [decide_eq_true HD.out])
          | (go_at_call 46; go_loud (refine (clone_any _ (l.drop (k + 1)) _ (by exact htail.ext he1) (by simp; omega)).mono ?_); rintro e w2 ⟨v2, rfl, ho2, he2⟩))
        go_ret3
        exact Ret.mk ⟨_, rfl, ho2.base he1.size⟩ (he1.trans he2)
    · rw [if_neg hd] at htS
      rw [htS]
      have HD := Lib.hid hd
      have HL := Lib.hid htl
      clear hd htS htl HT Hk
      go_enter Try.func37, Try.ntmps37
      go_wp2_with (first
        | (go_at_call 44; refine (span_any _ l most _ hrow (by omega)).mono ?_; rintro e w1 ⟨rfl, rfl⟩; rw [HS.out])
        | (go_at_call 45; refine (worth_any _ _ wy _ hhead (by have := HL.out; omega) hwy).mono ?_; rintro e w1 ⟨rfl, rfl⟩)
        | (go_at_call 36; refine (digits_any _ wy _ hin hwb.1 hwb.2).mono ?_; rintro e w1 ⟨v1, rfl, ho1, he1⟩)
        | (go_at_call 41; refine (equal_any _ _ _ _ _ (by exact hhead.ext he1) (by exact ho1.row)).mono ?_; rintro e w2 ⟨rfl, rfl⟩; rw [decide_eq_false HD.out]))
      go_ret3
      exact Ret.mk ⟨_, rfl, Own.nil _ _ _ _⟩ he1
  · rw [tS_bad hs]
    obtain ⟨x, hx⟩ : ∃ x, x = (spn most l).2 := ⟨_, rfl⟩
    have h1 : (spn most l).1 = 0 := by
      unfold spn at *
      split
      · rfl
      · split
        · rfl
        · rename_i h1 h2
          rw [if_neg h1, if_neg h2] at hs
          exact absurd rfl hs
    rw [← hx] at hs ⊢
    have H1 : Hid (spn most l = (0, x)) := by rw [Hid, hx, ← h1]
    have hb : (x != 0) = true := by simp [hs]
    clear hx h1 hs
    go_enter Try.func37, Try.ntmps37
    go_wp2_with (first
      | (go_at_call 44; refine (span_any _ l most _ h (by omega)).mono ?_; rintro e w1 ⟨rfl, rfl⟩; rw [H1.out]))
    go_ret3
    exact Ret.mk ⟨_, rfl, Own.nil _ _ _ _⟩ (Ext.refl _)

theorem takeShort_at (v : Value) (l : List Int) (m : Int) (most : Nat) (wy : Int) (w : World) (h : Row w .u8 v l) (he : m = (most : Int)) (hw : wy = 1 ∧ most = 8 ∨ wy = 2 ∧ most = 10) (hr : l.length ≤ 140737488355328) :
    Calls Try.prog 37 #[v, .int .i64 m, .int .i64 wy] w (Ret w (RowTake w (tS most wy l))) := by
  subst he
  exact takeShort_any v l most wy w h hw hr

theorem tS_rest (most : Nat) (wy : Int) (l : List Int) : (tS most wy l).1 = 0 ∨ (tS most wy l).2.2 = 0 := by
  unfold tS
  split
  · split
    · exact .inr rfl
    · exact .inl rfl
  · exact .inl rfl

theorem TakeS_any (v : Value) (l : List Int) (w : World) (h : Row w .u8 v l) (hr : l.length ≤ 140737488355328) :
    Calls Try.prog 18 #[v] w (Ret w (RowTake w (tS 10 2 l))) := by
  go_enter Try.func18, Try.ntmps18
  go_wp2_with (first
    | (go_at_call 37; refine (takeShort_at _ l 10 10 2 _ h rfl (by omega) hr).mono ?_; rintro e w1 ⟨v1, rfl, ⟨b1, rfl, ho1⟩, he1⟩))
  go_ret3
  exact Ret.mk ⟨_, rfl, ho1⟩ he1

theorem TakeU_any (v : Value) (l : List Int) (w : World) (h : Row w .u8 v l) (hr : l.length ≤ 140737488355328) :
    Calls Try.prog 16 #[v] w (Ret w (RowTake w (tU l))) := by
  by_cases hb : 9007199254740991 < (tS 8 1 l).1
  · have e : tU l = (0, [], 4) := by unfold tU; rw [if_pos hb]
    rw [e]
    clear e
    go_enter Try.func16, Try.ntmps16
    go_wp2_with (first
      | (go_at_call 37; refine (takeShort_at _ l 8 8 1 _ h rfl (by omega) hr).mono ?_; rintro e w1 ⟨v1, rfl, ⟨b1, rfl, ho1⟩, he1⟩))
    go_ret3
    exact Ret.mk ⟨_, rfl, Own.nil _ _ _ _⟩ he1
  · have e : tU l = tS 8 1 l := by unfold tU; rw [if_neg hb]
    rw [e]
    clear e
    go_enter Try.func16, Try.ntmps16
    go_wp2_with (first
      | (go_at_call 37; refine (takeShort_at _ l 8 8 1 _ h rfl (by omega) hr).mono ?_; rintro e w1 ⟨v1, rfl, ⟨b1, rfl, ho1⟩, he1⟩))
    go_ret3
    exact Ret.mk ⟨_, rfl, ho1⟩ he1
end Go.Proofs.Ytdjfdigaokokbaa
