/- Several texts of this proof, one behind the other. -/
import Derived.Test.YtokmeomjdpfknaaGreatDoorZaC
import Derived.Test.YtokmeomjdpfknaaGreatDoorZaA
import Derived.OwnWalk
import Derived.Laws.MakeOwn
import Derived.Test.YtokmeomjdpfknaaGreatDoorZaB
import Derived.LoopN
/- The walks of package leb that take numbers off. -/
namespace Go.Proofs.YtokmeomjdpfknaaGreatDoor
open Go.RowKit
set_option linter.unusedVariables false

def RowTakeP (w : World) (r : Int × List Int × Int) (v : Value) (w' : World) : Prop := ∃ b, v = .tuple #[.int .i64 r.1, b, .int .i64 r.2.2] ∧ Own w.heap.size w' 5 .u8 b r.2.1

set_option maxHeartbeats 1000000 in
theorem takeShort_any (v : Value) (l : List Int) (most : Nat) (wy : Int) (w : World) (h : Row w .u8 v l) (hw : wy = 1 ∧ most = 8 ∨ wy = 2 ∧ most = 10) (hr : l.length ≤ 140737488355328) :
    Calls Tryz.prog 223 #[v, .int .i64 most, .int .i64 wy] w (Ret w (RowTakeP w (tS most wy l))) := by
  by_cases hs : (spn most l).2 = 0
  · obtain ⟨hsp, hk1, hk2⟩ := spn_zero hs
    have hrow := h
    obtain ⟨A, c, rfl, h2, h3, h4, h5, h6⟩ := h
    unfold maxLen at h3
    obtain ⟨b, o, rfl, hb, hx⟩ := h6 (by omega)
    have HS := Lib.hid hsp
    obtain ⟨k, hk⟩ : ∃ k, k = fb l := ⟨_, rfl⟩
    rw [← hk] at hk1 hk2 HS
    have Hk := Lib.hid hk
    have hhead := hrow.head (k + 1) (by omega)
    have HT := Lib.hid hs
    have hle : k + 1 ≤ l.length := by omega
    clear hs hsp hx h6 h4 hk
    have hn0 : (k : Int) + 1 ≤ (l.length : Int) := by omega
    have htl : (l.take (k + 1)).length = k + 1 := by simp; omega
    have hwb := wo_bound wy (l.take (k + 1)) (by omega) (h5.take _)
    have hin : InB wy 9 (wo wy (l.take (k + 1))) := by
      refine InB.start hwb.1 hwb.2 ?_
      rcases hw with ⟨rfl, hm⟩ | ⟨rfl, hm⟩
      · exact .inr ⟨rfl, (wo_one _ (by omega)).1⟩
      · exact .inl rfl
    have hwy : wy = 1 ∨ wy = 2 ∨ wy = 3 ∨ wy = 4 := by omega
    have htS : tS most wy l = if l.take (k + 1) = dg wy 10 (wo wy (l.take (k + 1))) then (wo wy (l.take (k + 1)), l.drop (k + 1), 0) else (0, [], 4) := by
      rw [Hk.out]
      unfold tS
      rw [if_pos HT.out]
    by_cases hd : l.take (k + 1) = dg wy 10 (wo wy (l.take (k + 1)))
    · rw [if_pos hd] at htS
      rw [htS]
      have HD := Lib.hid hd
      have HL := Lib.hid htl
      clear hd htS htl HT Hk
      have htail := hrow.tail (k + 1) hle
      by_cases hcc : c = k + 1
      · have hll : l.drop (k + 1) = [] := List.drop_eq_nil_iff.2 (by omega)
        have HLL := Lib.hid hll
        clear hll htail
        have Hcc := Lib.hid hcc
        have hcl : l.length ≤ k + 1 := by omega
        clear hcc
        go_enter Tryz.func223, Tryz.ntmps223
        go_wp2_with (first
          | (go_at_call 248; refine (span_any _ l most _ hrow (by omega)).mono ?_; rintro e w1 ⟨rfl, rfl⟩; rw [HS.out])
          | (go_at_call 249; refine (worth_any _ _ wy _ hhead (by have := HL.out; omega) hwy).mono ?_; rintro e w1 ⟨rfl, rfl⟩)
          | (go_at_call 163; refine (digits_any _ wy _ hin hwb.1 hwb.2).mono ?_; rintro e w1 ⟨v1, rfl, ho1, he1⟩)
          | (go_at_call 87; refine (equal_any _ _ _ _ _ (by exact hhead.ext he1) (by exact ho1.row)).mono ?_; rintro e w2 ⟨rfl, rfl⟩; rw [decide_eq_true HD.out])
          | (go_at_call 149; refine (clone_any _ [] _ (by exact Row.none_ _ _ _) (by simp)).mono ?_; rintro e w2 ⟨v2, rfl, ho2, he2⟩))
        go_ret3
        refine Ret.mk ⟨_, rfl, ?_⟩ (he1.trans he2)
        rw [HLL.out]
        exact ho2.base he1.size
      · have hcc' : ¬ c = k + 1 := hcc
        go_enter Tryz.func223, Tryz.ntmps223
        go_wp2_with (first
          | (go_at_call 248; refine (span_any _ l most _ hrow (by omega)).mono ?_; rintro e w1 ⟨rfl, rfl⟩; rw [HS.out])
          | (go_at_call 249; refine (worth_any _ _ wy _ hhead (by have := HL.out; omega) hwy).mono ?_; rintro e w1 ⟨rfl, rfl⟩)
          | (go_at_call 163; refine (digits_any _ wy _ hin hwb.1 hwb.2).mono ?_; rintro e w1 ⟨v1, rfl, ho1, he1⟩)
          | (go_at_call 87; refine (equal_any _ _ _ _ _ (by exact hhead.ext he1) (by exact ho1.row)).mono ?_; rintro e w2 ⟨rfl, rfl⟩; rw [decide_eq_true HD.out])
          | (go_at_call 149; go_loud (refine (clone_any _ (l.drop (k + 1)) _ (by exact htail.ext he1) (by simp; omega)).mono ?_); rintro e w2 ⟨v2, rfl, ho2, he2⟩))
        go_ret3
        exact Ret.mk ⟨_, rfl, ho2.base he1.size⟩ (he1.trans he2)
    · rw [if_neg hd] at htS
      rw [htS]
      have HD := Lib.hid hd
      have HL := Lib.hid htl
      clear hd htS htl HT Hk
      go_enter Tryz.func223, Tryz.ntmps223
      go_wp2_with (first
        | (go_at_call 248; refine (span_any _ l most _ hrow (by omega)).mono ?_; rintro e w1 ⟨rfl, rfl⟩; rw [HS.out])
        | (go_at_call 249; refine (worth_any _ _ wy _ hhead (by have := HL.out; omega) hwy).mono ?_; rintro e w1 ⟨rfl, rfl⟩)
        | (go_at_call 163; refine (digits_any _ wy _ hin hwb.1 hwb.2).mono ?_; rintro e w1 ⟨v1, rfl, ho1, he1⟩)
        | (go_at_call 87; refine (equal_any _ _ _ _ _ (by exact hhead.ext he1) (by exact ho1.row)).mono ?_; rintro e w2 ⟨rfl, rfl⟩; rw [decide_eq_false HD.out]))
      go_ret3
      exact Ret.mk ⟨_, rfl, Own.nil _ _ _ _⟩ he1
  · rw [tS_bad hs]
    obtain ⟨x, hx⟩ : ∃ x, x = (spn most l).2 := ⟨_, rfl⟩
    have h1 : (spn most l).1 = 0 := by
      unfold spn at *
      split
      · rfl
      · split
        · rfl
        · rename_i h1 h2
          rw [if_neg h1, if_neg h2] at hs
          exact absurd rfl hs
    rw [← hx] at hs ⊢
    have H1 : Hid (spn most l = (0, x)) := by rw [Hid, hx, ← h1]
    have hb : (x != 0) = true := by simp [hs]
    clear hx h1 hs
    go_enter Tryz.func223, Tryz.ntmps223
    go_wp2_with (first
      | (go_at_call 248; refine (span_any _ l most _ h (by omega)).mono ?_; rintro e w1 ⟨rfl, rfl⟩; rw [H1.out]))
    go_ret3
    exact Ret.mk ⟨_, rfl, Own.nil _ _ _ _⟩ (Ext.refl _)

theorem takeShort_at (v : Value) (l : List Int) (m : Int) (most : Nat) (wy : Int) (w : World) (h : Row w .u8 v l) (he : m = (most : Int)) (hw : wy = 1 ∧ most = 8 ∨ wy = 2 ∧ most = 10) (hr : l.length ≤ 140737488355328) :
    Calls Tryz.prog 223 #[v, .int .i64 m, .int .i64 wy] w (Ret w (RowTakeP w (tS most wy l))) := by
  subst he
  exact takeShort_any v l most wy w h hw hr

theorem TakeS_any (v : Value) (l : List Int) (w : World) (h : Row w .u8 v l) (hr : l.length ≤ 140737488355328) :
    Calls Tryz.prog 245 #[v] w (Ret w (RowTakeP w (tS 10 2 l))) := by
  go_enter Tryz.func245, Tryz.ntmps245
  go_wp2_with (first
    | (go_at_call 223; refine (takeShort_at _ l 10 10 2 _ h rfl (by omega) hr).mono ?_; rintro e w1 ⟨v1, rfl, ⟨b1, rfl, ho1⟩, he1⟩))
  go_ret3
  exact Ret.mk ⟨_, rfl, ho1⟩ he1

theorem TakeU_any (v : Value) (l : List Int) (w : World) (h : Row w .u8 v l) (hr : l.length ≤ 140737488355328) :
    Calls Tryz.prog 183 #[v] w (Ret w (RowTakeP w (tU l))) := by
  by_cases hb : 9007199254740991 < (tS 8 1 l).1
  · have e : tU l = (0, [], 4) := by unfold tU; rw [if_pos hb]
    rw [e]
    clear e
    go_enter Tryz.func183, Tryz.ntmps183
    go_wp2_with (first
      | (go_at_call 223; refine (takeShort_at _ l 8 8 1 _ h rfl (by omega) hr).mono ?_; rintro e w1 ⟨v1, rfl, ⟨b1, rfl, ho1⟩, he1⟩))
    go_ret3
    exact Ret.mk ⟨_, rfl, Own.nil _ _ _ _⟩ he1
  · have e : tU l = tS 8 1 l := by unfold tU; rw [if_neg hb]
    rw [e]
    clear e
    go_enter Tryz.func183, Tryz.ntmps183
    go_wp2_with (first
      | (go_at_call 223; refine (takeShort_at _ l 8 8 1 _ h rfl (by omega) hr).mono ?_; rintro e w1 ⟨v1, rfl, ⟨b1, rfl, ho1⟩, he1⟩))
    go_ret3
    exact Ret.mk ⟨_, rfl, ho1⟩ he1
end Go.Proofs.YtokmeomjdpfknaaGreatDoor
/- Numbers as bytes: what follows from how they are written: plain mathematics, no program. -/
namespace Go.Proofs.YtokmeomjdpfknaaGreatDoor

def lst (l : List Int) : Int := gi l (l.length - 1)
theorem lst_one (x : Int) : lst [x] = x := rfl
theorem lst_cons (x : Int) {l : List Int} (h : 0 < l.length) : lst (x :: l) = lst l := by
  unfold lst
  obtain ⟨n, hn⟩ : ∃ n, l.length = n + 1 := ⟨l.length - 1, by omega⟩
  rw [List.length_cons, hn]
  rfl
theorem dg_pos (wy : Int) (f : Nat) (n : Int) : 0 < (dg wy (f + 1) n).length := by
  unfold dg
  split <;> simp
theorem gi_zero (x : Int) (l : List Int) : gi (x :: l) 0 = x := rfl
theorem dg_more (wy : Int) : ∀ (f : Nat) (n : Int), InB wy f n → fb (dg wy (f + 1) n) + 1 = (dg wy (f + 1) n).length := by
  intro f
  induction f with
  | zero =>
    intro n h
    rw [dg_last 0 h.last]
    have : n % 128 < 128 := by omega
    simp [fb, this]
  | succ f ih =>
    intro n h
    by_cases hc : n / 128 = ab wy (n % 128)
    · rw [dg_last _ hc]
      have : n % 128 < 128 := by omega
      simp [fb, this]
    · rw [dg_step _ hc]
      have := ih (n / 128) h.next
      have h1 : ¬ n % 128 + 128 < 128 := by omega
      simp only [fb, if_neg h1, List.length_cons]
      omega
theorem fb_append {l : List Int} (r : List Int) : fb l + 1 ≤ l.length → fb (l ++ r) = fb l := by
  induction l with
  | nil => intro h; simp at h
  | cons x l ih =>
    intro h
    unfold fb at h ⊢
    rw [List.cons_append]
    by_cases hx : x < 128
    · simp [hx]
    · simp only [hx, if_false, List.length_cons] at h ⊢
      rw [ih (by omega)]
theorem wof_dg (wy : Int) : ∀ (f : Nat) (n : Int), f ≤ 9 → InB wy f n → wof (ab wy (lst (dg wy (f + 1) n))) (dg wy (f + 1) n) = n := by
  intro f
  induction f with
  | zero =>
    intro n _ h
    have hb := h.bound (by omega)
    rw [dg_last 0 h.last, lst_one, ← h.last]
    simp only [wof]
    rw [IntKind.wrap_i64]
    omega
  | succ f ih =>
    intro n hf h
    have hb := h.bound hf
    by_cases hc : n / 128 = ab wy (n % 128)
    · rw [dg_last _ hc, lst_one, ← hc]
      simp only [wof]
      rw [IntKind.wrap_i64]
      omega
    · rw [dg_step _ hc, lst_cons _ (dg_pos wy f _)]
      have := ih (n / 128) (by omega) h.next
      simp only [wof]
      rw [this, IntKind.wrap_i64]
      omega
theorem wo_dg {wy n : Int} (h : InB wy 9 n) : wo wy (dg wy 10 n) = n := wof_dg wy 9 n (by omega) h

theorem tS_dg {most : Nat} {wy n : Int} (h : InB wy 9 n) (hm : (dg wy 10 n).length ≤ most) (r : List Int) : tS most wy (dg wy 10 n ++ r) = (n, r, 0) := by
  have h1 : fb (dg wy 10 n) + 1 = (dg wy 10 n).length := dg_more wy 9 n h
  have h2 : fb (dg wy 10 n ++ r) = fb (dg wy 10 n) := fb_append r (by omega)
  have h3 : fb (dg wy 10 n) + 1 = (dg wy 10 n).length := h1
  have hs : spn most (dg wy 10 n ++ r) = ((fb (dg wy 10 n) : Int) + 1, 0) := by
    unfold spn
    rw [h2, if_neg (by omega), if_neg (by simp; omega)]
  have ht : (dg wy 10 n ++ r).take (fb (dg wy 10 n) + 1) = dg wy 10 n := by rw [h3, List.take_left]
  have hd : (dg wy 10 n ++ r).drop (fb (dg wy 10 n) + 1) = r := by rw [h3, List.drop_left]
  unfold tS
  rw [hs, h2, ht, hd, wo_dg h, if_pos rfl, if_pos rfl]
theorem dg_one_len : ∀ (f : Nat) (g : Nat) (n : Int), 0 ≤ n → n < 128 ^ (g + 1) → (dg 1 f n).length ≤ g + 1 := by
  intro f
  induction f with
  | zero => intro g n _ _; simp [dg]
  | succ f ih =>
    intro g n h0 h1
    by_cases hc : n / 128 = ab 1 (n % 128)
    · rw [dg_last _ hc]
      simp
    · rw [dg_step _ hc]
      rw [ab_one] at hc
      match g with
      | 0 => simp at h1; omega
      | g + 1 =>
        rw [Int.pow_succ] at h1
        have := ih g (n / 128) (by omega) (by omega)
        simp
        omega
theorem dg_one_eight {n : Int} (h0 : 0 ≤ n) (h1 : n ≤ 9007199254740991) : (dg 1 10 n).length ≤ 8 := by
  refine dg_one_len 10 7 n h0 ?_
  show n < (72057594037927936 : Int)
  omega

theorem tS_ok {most : Nat} {wy : Int} {l : List Int} (h : (tS most wy l).2.2 = 0) : dg wy 10 (tS most wy l).1 ++ (tS most wy l).2.1 = l := by
  unfold tS at *
  split at h
  · rename_i hs
    rw [if_pos hs]
    split at h
    · rename_i hd
      rw [if_pos hd]
      simp only
      rw [← hd, List.take_append_drop]
    · simp at h
  · rename_i hs
    simp at h
    exact absurd h hs
theorem tS_err {most : Nat} {wy : Int} {l : List Int} (h : ¬ (tS most wy l).2.2 = 0) : (tS most wy l).1 = 0 ∧ (tS most wy l).2.1 = [] ∧ ((tS most wy l).2.2 = 3 ∨ (tS most wy l).2.2 = 4) := by
  have h2 := spn_two most l
  unfold tS at *
  split
  · rename_i hs
    rw [if_pos hs] at h
    split
    · rename_i hd
      rw [if_pos hd] at h
      simp at h
    · simp
  · simp only
    refine ⟨trivial, trivial, ?_⟩
    rename_i hs
    omega
theorem tS_range {wy : Int} {most : Nat} {l : List Int} (hf : Fit .u8 l) : -9223372036854775808 ≤ (tS most wy l).1 ∧ (tS most wy l).1 ≤ 9223372036854775807 := by
  unfold tS
  split
  · rename_i hs
    have := spn_zero hs
    split
    · exact wo_bound wy _ (by simp; omega) (hf.take _)
    · simp
  · simp
theorem tU_ok {l : List Int} (h : (tU l).2.2 = 0) : uS (tU l).1 = (dg 1 10 (tU l).1, 0) ∧ dg 1 10 (tU l).1 ++ (tU l).2.1 = l := by
  unfold tU at *
  split at h
  · simp at h
  · rename_i hb
    rw [if_neg hb]
    refine ⟨?_, tS_ok h⟩
    have h0 : 0 ≤ (tS 8 1 l).1 := by
      unfold tS
      split
      · rename_i hs
        have := spn_zero hs
        split
        · exact (wo_one _ (by simp; omega)).1
        · simp
      · simp
    unfold uS
    rw [if_neg (by omega)]
theorem tU_err {l : List Int} (h : ¬ (tU l).2.2 = 0) : (tU l).1 = 0 ∧ (tU l).2.1 = [] := by
  unfold tU at *
  split
  · exact ⟨rfl, rfl⟩
  · rename_i hb
    rw [if_neg hb] at h
    have := tS_err h
    exact ⟨this.1, this.2.1⟩
theorem tU_dg {n : Int} (h0 : 0 ≤ n) (h1 : n ≤ 9007199254740991) (r : List Int) : tU (dg 1 10 n ++ r) = (n, r, 0) := by
  have hin : InB 1 9 n := InB.start (by omega) (by omega) (.inr ⟨rfl, h0⟩)
  unfold tU
  rw [tS_dg hin (dg_one_eight h0 h1), if_neg (by simp; omega)]
theorem uS_ok {n : Int} (h0 : 0 ≤ n) (h1 : n ≤ 9007199254740991) : uS n = (dg 1 10 n, 0) := by
  unfold uS
  rw [if_neg (by omega)]

end Go.Proofs.YtokmeomjdpfknaaGreatDoor
/- Rows that a call has made, written in place; rows that it makes of a size. -/
namespace Go.Proofs.YtokmeomjdpfknaaGreatDoor
open Go.RowKit
set_option linter.unusedVariables false

section
variable {w w' : World} {B : Nat} {e : TypeId} {k : IntKind} {v : Value} {l : List Int}
theorem Own.put {g n c : Nat} (h : Own B w e k (.slice (some ⟨g, 0, none⟩) n c) l) {j : Nat} {x : Int} (hj : j < l.length) (hx : (Lit.int k x).wf = true) :
    Own B (w.setCell ⟨g, j, none⟩ (.int k x)) e k (.slice (some ⟨g, 0, none⟩) n c) (l.set j x) := by
  obtain ⟨⟨h1, h2⟩, hf⟩ := h
  have hfit : Fit k (l.set j x) := fun y hy => by
    rcases List.mem_or_eq_of_mem_set hy with hy | rfl
    · exact hf y hy
    · exact hx
  rcases h2 with ⟨h0, _⟩ | ⟨g', cap, cur, hv, hb, hg, hn, hm, hs, ht⟩
  · cases h0
  · injection hv with e1 e2 e3
    injection e1 with e1
    injection e1 with e1
    subst e1 e2 e3
    refine ⟨⟨by simp, .inr ⟨g, c, cur.setIfInBounds j (.int k x), by simp, hb, ?_, by simpa using hn, hm, by simpa using hs, ?_⟩⟩, hfit⟩
    · exact heap_setCell_same w g j cur e (.int k x) hg
    · rw [Array.toList_setIfInBounds, List.take_set, List.length_set, ht, List.map_set]
end

theorem only_set {a w : World} {g : Nat} (h : a.grownBy w (some g)) (j : Nat) (u : Value) : a.grownBy (w.setCell ⟨g, j, none⟩ u) (some g) := by
  refine ⟨h.os, h.tape, h.output, by simpa [World.setCell] using h.size, fun i hi hne => ?_⟩
  rw [Below.heap_setCell w ⟨g, j, none⟩ u i (fun e => hne (by rw [e]))]
  exact h.block i hi hne
theorem Own.kept {w w' : World} {B : Nat} {e : TypeId} {k : IntKind} {v : Value} {l : List Int} (h : Own B w e k v l) {row : Option Nat} (hg : w.grownBy w' row) (hne : ∀ g, v.ownBlock = some g → row ≠ some g) : Own B w' e k v l := by
  obtain ⟨⟨h1, h2⟩, hf⟩ := h
  refine ⟨⟨h1, ?_⟩, hf⟩
  rcases h2 with h2 | ⟨g, cap, cur, hv, hb, hg', hr⟩
  · exact .inl h2
  · refine .inr ⟨g, cap, cur, hv, hb, (hg.block g (lt_of_get hg') ?_).trans hg', hr⟩
    exact fun e => hne g (by rw [hv]; rfl) e.symm
theorem Row.kept {w w' : World} {k : IntKind} {v : Value} {l : List Int} (h : Row w k v l) {row : Option Nat} (hg : w.grownBy w' row) (hne : ∀ g, v.ownBlock = some g → row ≠ some g) : Row w' k v l := by
  obtain ⟨A, c, h1, h2, h3, h4, h5, h6⟩ := h
  refine ⟨A, c, h1, h2, h3, h4, h5, fun hl => ?_⟩
  obtain ⟨b, o, ha, hb, hc⟩ := h6 hl
  refine ⟨b, o, ha, Nat.lt_of_lt_of_le hb hg.size, fun j hj => ?_⟩
  have e := hg.block b hb (fun e => hne b (by rw [h1, ha]; rfl) e.symm)
  exact (World.cell?_of_block (w := w) (a := ⟨b, o + j, none⟩) e).trans (hc j hj)

end Go.Proofs.YtokmeomjdpfknaaGreatDoor
/- Package text, the leaves: a byte behind the first one, a character's bytes, how many they are. -/
namespace Go.Proofs.YtokmeomjdpfknaaGreatDoor
open Go.RowKit
set_option linter.unusedVariables false

theorem nextByte_any (r : Int) (w : World) (h0 : 0 ≤ r) (h1 : r ≤ 1114111) :
    Calls Tryz.prog 196 #[.int .i32 r] w fun e w' => e = .returned (.int .u8 (128 + r % 64)) ∧ w = w' := by
  have b1 := b32_and63 r h0 (by omega)
  have b2 := b8_or128 (r % 64) (by omega) (by omega)
  have b3 : r % 64 % 256 = r % 64 := by omega
  go_enter Tryz.func196, Tryz.ntmps196
  go_wp2
  go_ret
  exact ⟨rfl, rfl⟩

theorem sizeOf_6 (r : Int) (w : World) (h0 : 65536 ≤ r) (h1 : r ≤ 1114111) :
    Calls Tryz.prog 194 #[.int .i32 r] w fun e w' => e = .returned (.int .i64 6) ∧ w = w' := by
  go_enter Tryz.func194, Tryz.ntmps194
  go_wp2
  go_ret
  exact ⟨rfl, rfl⟩

theorem sizeOf_3 (r : Int) (w : World) (h0 : 2048 ≤ r) (h1 : r ≤ 65535) :
    Calls Tryz.prog 194 #[.int .i32 r] w fun e w' => e = .returned (.int .i64 3) ∧ w = w' := by
  go_enter Tryz.func194, Tryz.ntmps194
  go_wp2
  go_ret
  exact ⟨rfl, rfl⟩

theorem sizeOf_2 (r : Int) (w : World) (h0 : 128 ≤ r) (h1 : r ≤ 2047) :
    Calls Tryz.prog 194 #[.int .i32 r] w fun e w' => e = .returned (.int .i64 2) ∧ w = w' := by
  go_enter Tryz.func194, Tryz.ntmps194
  go_wp2
  go_ret
  exact ⟨rfl, rfl⟩

theorem sizeOf_1 (r : Int) (w : World) (h0 : 1 ≤ r) (h1 : r ≤ 127) :
    Calls Tryz.prog 194 #[.int .i32 r] w fun e w' => e = .returned (.int .i64 1) ∧ w = w' := by
  have hb : (r == 0) = false := by simp; omega
  go_enter Tryz.func194, Tryz.ntmps194
  go_wp2
  go_ret
  exact ⟨rfl, rfl⟩

theorem sizeOf_0 (w : World) : Calls Tryz.prog 194 #[.int .i32 0] w fun e w' => e = .returned (.int .i64 2) ∧ w = w' := by
  go_enter Tryz.func194, Tryz.ntmps194
  go_wp2
  go_ret
  exact ⟨rfl, rfl⟩
theorem sizeOf_any (r : Int) (w : World) (h0 : 0 ≤ r) (h1 : r ≤ 1114111) :
    Calls Tryz.prog 194 #[.int .i32 r] w fun e w' => e = .returned (.int .i64 (ch r).length) ∧ w = w' := by
  refine ch_cases (P := fun r l => Calls Tryz.prog 194 #[.int .i32 r] w fun e w' => e = .returned (.int .i64 l.length) ∧ w = w') r h0 h1 ?_ ?_ ?_ ?_
  · intro a b; exact sizeOf_1 r w a b
  · intro a b
    by_cases h : r = 0
    · subst h; exact sizeOf_0 w
    · exact sizeOf_2 r w (by omega) b
  · intro a b; exact sizeOf_3 r w a b
  · intro a; exact sizeOf_6 r w a h1

theorem grown_alloc {w w' : World} {o : Obj} {row : Option Nat} (h : (w.alloc o).grownBy w' row) : w.grownBy w' row :=
  ⟨h.os, h.tape, h.output, by have := h.size; simp at this; omega, fun k hk hne => (h.block k (by simp; omega) hne).trans (heap_alloc_old w o hk)⟩
theorem grown_transP {a b c : World} {r r1 : Option Nat} (h : a.grownBy b r) (k : b.grownBy c r1) (hr : r1 = r ∨ ∃ g, a.heap.size ≤ g ∧ r1 = some g) : a.grownBy c r :=
  ⟨k.os.trans h.os, k.tape.trans h.tape, k.output.trans h.output, Nat.le_trans h.size k.size, fun i hi hne => by
    rw [k.block i (Nat.lt_of_lt_of_le hi h.size) (by
      rcases hr with rfl | ⟨g, hg, rfl⟩
      · exact hne
      · intro e; injection e with e; omega)]
    exact h.block i hi hne⟩
def RoomAt (T : TypeId) (B : Nat) (w : World) (v : Value) (l : List Int) (n : Nat) : Prop :=
  ∃ g cap cur, v = .slice (some ⟨g, 0, none⟩) l.length cap ∧ B ≤ g ∧ w.heap[g]? = some (.cells cur T (0, 0)) ∧ l.length + n ≤ cap ∧ cap ≤ maxLen ∧ cur.size = cap ∧ cur.toList.take l.length = l.map (Value.int .u8) ∧ Fit .u8 l
def Has (T : Option TypeId) (B : Nat) (w : World) (v : Value) (l : List Int) (n : Nat) : Prop :=
  match T with
  | none => Own B w 5 .u8 v l ∧ l.length + n ≤ 140737488355328
  | some T => RoomAt T B w v l n
theorem RoomAt.lt {T : TypeId} {B : Nat} {w : World} {v : Value} {l : List Int} {n : Nat} (h : RoomAt T B w v l n) : ∃ g, v.ownBlock = some g ∧ g < w.heap.size ∧ B ≤ g := by
  obtain ⟨g, cap, cur, rfl, hb, hg, _⟩ := h
  exact ⟨g, rfl, lt_of_get hg, hb⟩
theorem RoomAt.row {T : TypeId} {B : Nat} {w : World} {v : Value} {l : List Int} {n : Nat} (h : RoomAt T B w v l n) : Row w .u8 v l := by
  obtain ⟨g, cap, cur, rfl, hb, hg, hn, hm, hs, ht, hf⟩ := h
  refine ⟨_, _, rfl, by omega, hm, (fun h => by cases h), hf, fun _ => ⟨g, 0, rfl, lt_of_get hg, fun j hj => ?_⟩⟩
  have hj' : j < cur.size := by omega
  have e1 : (cur.toList.take l.length)[j]? = (l.map (Value.int .u8))[j]? := by rw [ht]
  rw [List.getElem?_take_of_lt (by omega)] at e1
  simp [hj, hj'] at e1
  rw [cell_of_row w g (0 + j) cur T (0, 0) hg]
  simp [gi, hj, hj', e1]
theorem Has.row {T : Option TypeId} {B : Nat} {w : World} {v : Value} {l : List Int} {n : Nat} (h : Has T B w v l n) : Row w .u8 v l := by
  cases T with
  | none => exact h.1.row
  | some T => exact RoomAt.row h
theorem Has.kept {T : Option TypeId} {B : Nat} {w w' : World} {v : Value} {l : List Int} {n : Nat} (h : Has T B w v l n) {row : Option Nat} (hg : w.grownBy w' row) (hne : ∀ g, v.ownBlock = some g → row ≠ some g) : Has T B w' v l n := by
  cases T with
  | none =>
    refine ⟨⟨h.1.1.kept hg ?_, h.1.2⟩, h.2⟩
    cases hv : v.ownBlock with
    | none => exact .inl rfl
    | some g => exact .inr (fun e => hne g hv e.symm)
  | some T =>
    obtain ⟨g, cap, cur, rfl, hb, hgg, hr⟩ := h
    exact ⟨g, cap, cur, rfl, hb, (hg.block g (lt_of_get hgg) (fun e => hne g rfl e.symm)).trans hgg, hr⟩
theorem Has.alloc {T : Option TypeId} {B : Nat} {w : World} {v : Value} {l : List Int} {n : Nat} (h : Has T B w v l n) (o : Obj) : Has T B (w.alloc o) v l n :=
  h.kept (World.grownBy_alloc w o none) (fun _ _ => by simp)
theorem run_has {P : Program} (w : World) (B : Nat) (T : Option TypeId) (t ty : TypeId) (ht : P.underlying t = some (.slice 5))
    (hi : (P.info? 5).map (fun i => (i.zero, i.size, i.bytes)) = some (some (.int .u8 0), 1, 1)) (v : Value) (l : List Int) (n : Nat) (x : Value) (m : List Int) (ho : Has T B w v l (m.length + n)) (hr : Row w .u8 x m) (hm : 0 < m.length) (hB : B ≤ w.heap.size) :
    ∃ v' w', (Builtin.append_ #[t, t] ty #[v, x]).run P w = .ok v' w' ∧ Has T B w' v' (l ++ m) n ∧ w.grownBy w' v.ownBlock ∧ (v'.ownBlock = v.ownBlock ∨ v'.ownBlock = some w.heap.size) := by
  cases T with
  | none =>
    obtain ⟨ho, hl⟩ := ho
    obtain ⟨v', w', h1, h2, h3, h4⟩ := run_app (P := P) w B t ty 5 (.int .u8 0) 1 .u8 ht hi rfl v l ho x m hr (by omega) (by omega) hB
    exact ⟨v', w', h1, ⟨h2, by rw [List.length_append]; omega⟩, h3, h4⟩
  | some T =>
    obtain ⟨i, hi1, hi2, hi3, hi4⟩ := info_parts hi
    obtain ⟨g, cap, cur, rfl, hb, hg, hn, hcm, hs, htk, hf⟩ := ho
    obtain ⟨A, c, rfl, h2, h3, h4, h5, h6⟩ := hr
    obtain ⟨b, o, rfl, _, hc⟩ := h6 hm
    have hcells : ∀ j u, (m.map (Value.int .u8))[j]? = some u → w.cell? ((⟨b, o, none⟩ : Addr).add j) = some u := by
      intro j u hu
      have hj : j < m.length := by
        have := (List.getElem?_eq_some_iff.1 hu).1
        simpa using this
      rw [Addr.add_lit, hc j hj]
      simp [hj] at hu
      simp [gi, hj, ← hu]
    have hf1 := run_firstCells_some (P := P) w i.size m.length ⟨b, o, none⟩ m.length c (m.map (Value.int .u8)) (by simp [hi3]) hcells
    have hst := run_storeCells_at P g l.length T (m.map (Value.int .u8)) 0 cur w hg (by simp; omega) (ints_one .u8 m)
    simp only [Nat.add_zero] at hst
    have hroom : l.length + m.length ≤ cap := by omega
    obtain ⟨C, hC⟩ : ∃ C, C = (List.take l.length cur.toList ++ List.map (Value.int .u8) m ++ List.drop (l.length + (List.map (Value.int .u8) m).length) cur.toList).toArray := ⟨_, rfl⟩
    rw [← hC] at hst
    have hrun : (Builtin.append_ #[t, t] ty #[.slice (some ⟨g, 0, none⟩) l.length cap, .slice (some ⟨b, o, none⟩) m.length c]).run P w = .ok (.slice (some ⟨g, 0, none⟩) (l ++ m).length cap) (w.setRow g C) := by
      rw [hi3] at hf1
      simp [Builtin.append_, run_underlying ht, sizeOf, typeInfo, hi1, hi3, Builtin.lenOf, hroom, hf1, Addr.add_lit, hst]
    have hCs : C.size = cap := by
      rw [hC]
      simp
      omega
    have hCt : C.toList.take (l ++ m).length = (l ++ m).map (Value.int .u8) := by
      rw [hC, List.toList_toArray, htk, List.length_append, List.map_append]
      have e : l.length + m.length = (l.map (Value.int .u8) ++ m.map (Value.int .u8)).length := by simp
      rw [e, List.take_left]
    refine ⟨_, _, hrun, ⟨g, cap, C, rfl, hb, setRow_heap w g cur C T (0, 0) hg, by rw [List.length_append]; omega, hcm, hCs, hCt, hf.app h5⟩, ⟨rfl, rfl, rfl, by simp, fun k _ hk => setRow_other w g k C (fun e => hk (by simp [Value.ownBlock, e]))⟩, .inl rfl⟩
theorem wpList_has {P : Program} (w : World) {ops : Array Oper} {rest : List Oper} {o : Oper} {a : Act} {Q : Exit → Act → World → Prop} (hgd : Region.wanted o (yielded ops a.tmps) = true) (s y : Operand) (B : Nat) (T : Option TypeId) (t : TypeId)
    (hop : o.op = .call { callee := .builtin .append, args := #[s, y], argTypes := #[t, t] }) (ht : P.underlying t = some (.slice 5))
    (hi : (P.info? 5).map (fun i => (i.zero, i.size, i.bytes)) = some (some (.int .u8 0), 1, 1))
    (v : Value) (l : List Int) (n : Nat) (hs : a.eval s = v) (x : Value) (m : List Int) (ho : Has T B w v l (m.length + n)) (hx : a.eval y = x) (hr : Row w .u8 x m) (hm : 0 < m.length) (hB : B ≤ w.heap.size)
    (h : ∀ v' w', Has T B w' v' (l ++ m) n → w.grownBy w' v.ownBlock → (v'.ownBlock = v.ownBlock ∨ v'.ownBlock = some w.heap.size) → wpList P ops Q rest (a.put o.dst v') w') :
    wpList P ops Q (o :: rest) a w := by
  refine wpList_step fun K hK => ?_
  rw [if_pos hgd]
  obtain ⟨v', w', hrun, h2, h3, h4⟩ := run_has (P := P) w B T t o.type ht hi v l n x m ho hr hm hB
  unfold Oper.wp execOp
  simp only [hop, resolve, invoke, builtin, Sem.run_bind, Sem.run_pure, Result.andThen_ok, List.map_toArray, List.map_cons, List.map_nil, hs, hx, hrun]
  exact hK _ _ (h v' w' h2 h3 h4)

def Put (T : Option TypeId) (B : Nat) (w : World) (v : Value) (l : List Int) (n : Nat) (e : Ending) (w' : World) : Prop :=
  ∃ v', e = .returned v' ∧ Has T B w' v' l n ∧ w.grownBy w' v.ownBlock ∧ (v'.ownBlock = v.ownBlock ∨ ∃ g, w.heap.size ≤ g ∧ v'.ownBlock = some g)

theorem put_1 (T : Option TypeId) (v : Value) (l : List Int) (n : Nat) (r : Int) (B : Nat) (w : World) (ho : Has T B w v l (1 + n)) (hB : B ≤ w.heap.size) (h0 : 1 ≤ r) (h1 : r ≤ 127) :
    Calls Tryz.prog 164 #[v, .int .i32 r] w (Put T B w v (l ++ [r]) n) := by
  have hb : (r == 0) = false := by simp; omega
  have b3 : r % 256 = r := by omega
  go_enter Tryz.func164, Tryz.ntmps164
  go_wp2_with (first | (go_at_call 196; refine (nextByte_any _ _ (by omega) (by omega)).mono ?_; rintro e w1 ⟨rfl, rfl⟩) | (at_builtin; go_loud (refine wpList_has _ rfl _ _ B T 29 rfl Tryz.underlying29 info8 v _ n rfl _ [r] (Has.alloc ho _) rfl (Row.built _ _ _ [r] (by intro x hx; simp only [List.mem_cons, List.not_mem_nil, or_false] at hx; exact wf_u8 (by omega) (by omega)) (by simp)) (by simp) (by simp; omega) ?_)))
  intro v' w2 ho2 hg2 hb2
  go_wp2
  go_ret
  refine ⟨_, rfl, ho2, grown_alloc hg2, ?_⟩
  rcases hb2 with h | h
  · exact .inl h
  · exact .inr ⟨_, by simp, h⟩
theorem put_2 (T : Option TypeId) (v : Value) (l : List Int) (n : Nat) (r : Int) (B : Nat) (w : World) (ho : Has T B w v l (2 + n)) (hB : B ≤ w.heap.size) (h0 : 128 ≤ r) (h1 : r ≤ 2047) :
    Calls Tryz.prog 164 #[v, .int .i32 r] w (Put T B w v (l ++ [192 + r / 64, 128 + r % 64]) n) := by
  have b1 := b8_or192 (r / 64) (by omega) (by omega)
  have b3 : r / 64 % 256 = r / 64 := by omega
  go_enter Tryz.func164, Tryz.ntmps164
  go_wp2_with (first | (go_at_call 196; refine (nextByte_any _ _ (by omega) (by omega)).mono ?_; rintro e w1 ⟨rfl, rfl⟩) | (at_builtin; go_loud (refine wpList_has _ rfl _ _ B T 29 rfl Tryz.underlying29 info8 v _ n rfl _ [192 + r / 64, 128 + r % 64] (Has.alloc ho _) rfl (Row.built _ _ _ [192 + r / 64, 128 + r % 64] (by intro x hx; simp only [List.mem_cons, List.not_mem_nil, or_false] at hx; exact wf_u8 (by omega) (by omega)) (by simp)) (by simp) (by simp; omega) ?_)))
  intro v' w2 ho2 hg2 hb2
  go_wp2
  go_ret
  refine ⟨_, rfl, ho2, grown_alloc hg2, ?_⟩
  rcases hb2 with h | h
  · exact .inl h
  · exact .inr ⟨_, by simp, h⟩
theorem put_3 (T : Option TypeId) (v : Value) (l : List Int) (n : Nat) (r : Int) (B : Nat) (w : World) (ho : Has T B w v l (3 + n)) (hB : B ≤ w.heap.size) (h0 : 2048 ≤ r) (h1 : r ≤ 65535) :
    Calls Tryz.prog 164 #[v, .int .i32 r] w (Put T B w v (l ++ [224 + r / 4096, 128 + r / 64 % 64, 128 + r % 64]) n) := by
  have b1 := b8_or224 (r / 4096) (by omega) (by omega)
  have b3 : r / 4096 % 256 = r / 4096 := by omega
  go_enter Tryz.func164, Tryz.ntmps164
  go_wp2_with (first | (go_at_call 196; refine (nextByte_any _ _ (by omega) (by omega)).mono ?_; rintro e w1 ⟨rfl, rfl⟩) | (at_builtin; go_loud (refine wpList_has _ rfl _ _ B T 29 rfl Tryz.underlying29 info8 v _ n rfl _ [224 + r / 4096, 128 + r / 64 % 64, 128 + r % 64] (Has.alloc ho _) rfl (Row.built _ _ _ [224 + r / 4096, 128 + r / 64 % 64, 128 + r % 64] (by intro x hx; simp only [List.mem_cons, List.not_mem_nil, or_false] at hx; exact wf_u8 (by omega) (by omega)) (by simp)) (by simp) (by simp; omega) ?_)))
  intro v' w2 ho2 hg2 hb2
  go_wp2
  go_ret
  refine ⟨_, rfl, ho2, grown_alloc hg2, ?_⟩
  rcases hb2 with h | h
  · exact .inl h
  · exact .inr ⟨_, by simp, h⟩
theorem put_0 (T : Option TypeId) (v : Value) (l : List Int) (n : Nat) (B : Nat) (w : World) (ho : Has T B w v l (2 + n)) (hB : B ≤ w.heap.size) :
    Calls Tryz.prog 164 #[v, .int .i32 0] w (Put T B w v (l ++ [192, 128]) n) := by
  have b1 := b8_or192 0 (by omega) (by omega)
  go_enter Tryz.func164, Tryz.ntmps164
  go_wp2_with (first | (go_at_call 196; refine (nextByte_any _ _ (by omega) (by omega)).mono ?_; rintro e w1 ⟨rfl, rfl⟩) | (at_builtin; go_loud (refine wpList_has _ rfl _ _ B T 29 rfl Tryz.underlying29 info8 v _ n rfl _ [192, 128] (Has.alloc ho _) rfl (Row.built _ _ _ [192, 128] (by intro x hx; simp only [List.mem_cons, List.not_mem_nil, or_false] at hx; exact wf_u8 (by omega) (by omega)) (by simp)) (by simp) (by simp; omega) ?_)))
  intro v' w2 ho2 hg2 hb2
  go_wp2
  go_ret
  refine ⟨_, rfl, ho2, grown_alloc hg2, ?_⟩
  rcases hb2 with h | h
  · exact .inl h
  · exact .inr ⟨_, by simp, h⟩

theorem put_6 (T : Option TypeId) (v : Value) (l : List Int) (n : Nat) (r : Int) (B : Nat) (w : World) (ho : Has T B w v l (6 + n)) (hB : B ≤ w.heap.size) (h0 : 65536 ≤ r) (h1 : r ≤ 1114111) :
    Calls Tryz.prog 164 #[v, .int .i32 r] w (Put T B w v (l ++ ch r) n) := by
  have ho6 : Has T B w v l (3 + (3 + n)) := by rw [show 3 + (3 + n) = 6 + n by omega]; exact ho
  obtain ⟨s, hs⟩ : ∃ s, s = 56320 + (r - 65536) % 1024 := ⟨_, rfl⟩
  have hs0 : 56320 ≤ s := by omega
  have hs1 : s ≤ 57343 := by omega
  have b0 := b32_and1023 (r - 65536) (by omega) (by omega)
  have b4 : 56320 + (r - 65536) % 1024 = s := hs.symm
  have b1 := b8_or224 (s / 4096) (by omega) (by omega)
  have b3 : s / 4096 % 256 = s / 4096 := by omega
  have HS := Lib.hid hs
  clear hs
  go_enter Tryz.func164, Tryz.ntmps164
  go_wp2_with (go_at_call 164; refine (put_3 T v l (3 + n) (55296 + (r - 65536) / 1024) B _ (by exact ho6) hB (by omega) (by omega)).mono ?_; rintro e w1 ⟨v1, rfl, ho1, hg1, hb1⟩)
  have hB1 := Nat.le_trans hB hg1.size
  go_wp2_with (first | (go_at_call 196; refine (nextByte_any _ _ (by omega) (by omega)).mono ?_; rintro e w1 ⟨rfl, rfl⟩) | (at_builtin; go_loud (refine wpList_has _ rfl _ _ B T 29 rfl Tryz.underlying29 info8 v1 _ n rfl _ [224 + s / 4096, 128 + s / 64 % 64, 128 + s % 64] (Has.alloc ho1 _) rfl (Row.built _ _ _ [224 + s / 4096, 128 + s / 64 % 64, 128 + s % 64] (by intro x hx; simp only [List.mem_cons, List.not_mem_nil, or_false] at hx; exact wf_u8 (by omega) (by omega)) (by simp)) (by simp) (by simp; omega) ?_)))
  intro v' w2 ho2 hg2 hb2
  go_wp2
  go_ret
  refine ⟨_, rfl, ?_, grown_transP hg1 (grown_alloc hg2) hb1, ?_⟩
  · have e : l ++ ch r = l ++ [224 + (55296 + (r - 65536) / 1024) / 4096, 128 + (55296 + (r - 65536) / 1024) / 64 % 64, 128 + (55296 + (r - 65536) / 1024) % 64, 224 + s / 4096, 128 + s / 64 % 64, 128 + s % 64] := by
      rw [ch6 (by omega), ← HS.out]
      simp [th]
    rw [e]
    exact ho2
  · show v'.ownBlock = v.ownBlock ∨ ∃ g, w.heap.size ≤ g ∧ v'.ownBlock = some g
    rcases hb2 with h | h
    · rw [h]; exact hb1
    · exact .inr ⟨_, by have := hg1.size; simp; omega, h⟩
theorem put_anyP (T : Option TypeId) (v : Value) (l : List Int) (n : Nat) (r : Int) (B : Nat) (w : World) (ho : Has T B w v l ((ch r).length + n)) (hB : B ≤ w.heap.size) (h0 : 0 ≤ r) (h1 : r ≤ 1114111) :
    Calls Tryz.prog 164 #[v, .int .i32 r] w (Put T B w v (l ++ ch r) n) := by
  by_cases a1 : 1 ≤ r ∧ r ≤ 127
  · rw [ch1 a1] at ho ⊢; exact put_1 T v l n r B w ho hB a1.1 a1.2
  · by_cases a2 : r ≤ 2047
    · rw [ch2 a1 a2] at ho ⊢
      by_cases a0 : r = 0
      · subst a0; exact put_0 T v l n B w ho hB
      · exact put_2 T v l n r B w ho hB (by omega) a2
    · by_cases a3 : r ≤ 65535
      · rw [ch3 (by omega) a3] at ho ⊢; exact put_3 T v l n r B w ho hB (by omega) a3
      · exact put_6 T v l n r B w (by rw [ch6 (by omega)] at ho; exact ho) hB (by omega) h1
end Go.Proofs.YtokmeomjdpfknaaGreatDoor
/- The document's answer for texts: what is written in one to three bytes from a place on, and the character there. -/
namespace Go.Proofs.YtokmeomjdpfknaaGreatDoor
open Go.RowKit
set_option linter.unusedVariables false

def UnitAns (w : World) (u : Int × Nat) (e : Ending) (w' : World) : Prop := e = .returned (.tuple #[.int .i64 u.1, .int .i64 u.2]) ∧ Ext w w'

end Go.Proofs.YtokmeomjdpfknaaGreatDoor
/- The document's answer for texts: the character that is written from a place on. -/
namespace Go.Proofs.YtokmeomjdpfknaaGreatDoor
open Go.RowKit
set_option linter.unusedVariables false

theorem UnitAns.val {u v : Int × Nat} (h : v = u) {w : World} {e : Ending} {w' : World} (k : UnitAns w u e w') : UnitAns w v e w' := by rw [h]; exact k
end Go.Proofs.YtokmeomjdpfknaaGreatDoor
/- A constant's cells at the head of a block. -/
namespace Go.Proofs.YtokmeomjdpfknaaGreatDoor
open Go.RowKit
set_option linter.unusedVariables false

def At0 (w : World) (g : Nat) (y : Cst) : Prop :=
  w.cell? ⟨g, 0, none⟩ = some (.int .i64 y.k) ∧ w.cell? ⟨g, 1, none⟩ = some (.string y.t) ∧ w.cell? ⟨g, 2, none⟩ = some (.int .i64 y.n) ∧ w.cell? ⟨g, 3, none⟩ = some (.int .i64 y.a) ∧ w.cell? ⟨g, 4, none⟩ = some (.int .i64 y.b) ∧ w.cell? ⟨g, 5, none⟩ = some (.int .i64 y.c)
theorem At0.of {w : World} {g : Nat} {y : Cst} {T : TypeId} (h : w.heap[g]? = some (.cells y.vals T (0, 0))) : At0 w g y := by
  refine ⟨?_, ?_, ?_, ?_, ?_, ?_⟩
  all_goals
    rw [cell_of_row w g _ _ T (0, 0) h]
    rfl
theorem At0.ext {w w' : World} {g : Nat} {y : Cst} (h : At0 w g y) (he : Ext w w') (hg : g < w.heap.size) : At0 w' g y := by
  obtain ⟨h0, h1, h2, h3, h4, h5⟩ := h
  exact ⟨(he.cell (p := ⟨g, 0, none⟩) hg).trans h0, (he.cell (p := ⟨g, 1, none⟩) hg).trans h1, (he.cell (p := ⟨g, 2, none⟩) hg).trans h2, (he.cell (p := ⟨g, 3, none⟩) hg).trans h3, (he.cell (p := ⟨g, 4, none⟩) hg).trans h4, (he.cell (p := ⟨g, 5, none⟩) hg).trans h5⟩
theorem At0.grown {w w' : World} {g : Nat} {y : Cst} {r : Option Nat} (h : At0 w g y) (hg : w.grownBy w' r) (hlt : g < w.heap.size) (hne : r ≠ some g) : At0 w' g y := by
  have e := hg.block g hlt (fun e => hne e.symm)
  obtain ⟨h0, h1, h2, h3, h4, h5⟩ := h
  exact ⟨(World.cell?_of_block (w := w) (a := ⟨g, 0, none⟩) e).trans h0, (World.cell?_of_block (w := w) (a := ⟨g, 1, none⟩) e).trans h1, (World.cell?_of_block (w := w) (a := ⟨g, 2, none⟩) e).trans h2, (World.cell?_of_block (w := w) (a := ⟨g, 3, none⟩) e).trans h3, (World.cell?_of_block (w := w) (a := ⟨g, 4, none⟩) e).trans h4, (World.cell?_of_block (w := w) (a := ⟨g, 5, none⟩) e).trans h5⟩
end Go.Proofs.YtokmeomjdpfknaaGreatDoor
