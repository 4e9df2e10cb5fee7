/- The document's answer of layer 1, walked: Big; and bytes that are spoilt. -/
import Derived.Test.YtdjfdigaokokbaaLebX
import Derived.Test.YtdjfdigaokokbaaLebMath
import Derived.Test.YtdjfdigaokokbaaOwn
namespace Go.Proofs.Ytdjfdigaokokbaa
open Go.RowKit
set_option linter.unusedVariables false

set_option maxHeartbeats 4000000 in
theorem refBig_1 (n : Int) (w : World) (hl : -9223372036854775808 ≤ n) (hh : n ≤ 9223372036854775807) :
    Calls Try.prog 25 #[.int .i64 n, .int .i64 1] w (Ret w (RowErr w (bS n 1).1 (bS n 1).2)) := by
  by_cases hf : ftB n 1 = true
  · have e : bS n 1 = (bg 1 n, 0) := by
      unfold bS
      rw [if_neg (by omega), if_pos hf]
      rfl
    rw [e]
    clear e
    have hr : -128 ≤ n ∧ n < 256 := by simpa [ftB] using hf
    obtain ⟨hr1, hr2⟩ := hr
    clear hf
    go_enter Try.func25, Try.ntmps25
    go_wp2_with (at_make; refine wpList_mk _ rfl _ _ w.heap.size 22 5 1 .u8 rfl Try.underlying22 info8 (by decide) _ _ _ _ 1 rfl rfl rfl rfl (by decide) (by decide) (Nat.le_refl _) ?_; intro w1 ho1 hg1)
    go_loopw [7] (fun i wr => ∃ k : Nat, i = .int .i64 k ∧ k ≤ 1 ∧ Ext w wr ∧ Own w.heap.size wr 5 .u8 (.slice (some ⟨w.heap.size, 0, none⟩) 1 1) (List.replicate (1 - k) 0 ++ bg k n)) (fun i _ => 1 - (intOf i).toNat)
    case atStart => exact ⟨0, rfl, by omega, (Ext.refl _).grown hg1 (fun g hg => by cases hg), by simpa [bg] using ho1⟩
    case round =>
      obtain ⟨k, rfl, hk, he, ho⟩ := hrel
      by_cases hk1 : k < 1
      · have hkk : k = 0 := by omega
        rcases hkk with rfl
        · obtain ⟨g, c, hv, _, _, _, _, hcell, hfr⟩ := ho.parts (by simp [bg])
          have hv1 : g = w.heap.size := by
            injection hv with a _ _
            injection a with a
            injection a with a
            exact a.symm
          clear hv
          subst hv1
          obtain ⟨z, hc⟩ : ∃ z, wr.cell? ⟨w.heap.size, 0, none⟩ = some z := ⟨_, hcell 0 (by simp [bg])⟩
          have hz := hfr 0
          have HO := Lib.hid ho
          clear hcell hfr ho
          go_wp2
          go_roundw
          case rel =>
            refine ⟨1, rfl, by omega, he.set_ (Nat.le_refl _) _, ?_⟩
            have hL : (List.replicate (1 - 0) 0 ++ bg 0 n).set 0 (n % 256) = List.replicate (1 - 1) 0 ++ bg 1 n := by simp [bg]
            rw [← hL]
            exact HO.out.put (j := 0) (x := n % 256) (by simp [bg]) (wf_u8 (by omega) (by omega))
          case measure => simp [intOf]
      · have hks : k = 1 := by omega
        subst hks
        go_wp2
        go_ret2
        exact Ret.mk ⟨_, rfl, by simpa using ho⟩ he
  · have e : bS n 1 = ([], 9) := by unfold bS; rw [if_neg (by omega), if_neg hf]
    rw [e]
    clear e
    have hr : n < -128 ∨ 256 ≤ n := by
      have : ¬ (-128 ≤ n ∧ n < 256) := fun h => hf (by simpa [ftB] using h)
      omega
    clear hf
    rcases hr with hr | hr
    all_goals
      go_enter Try.func25, Try.ntmps25
      go_wp2
      go_ret2
      exact Ret.mk ⟨_, rfl, Own.nil _ _ _ _⟩ (Ext.refl _)

set_option maxHeartbeats 4000000 in
theorem refBig_2 (n : Int) (w : World) (hl : -9223372036854775808 ≤ n) (hh : n ≤ 9223372036854775807) :
    Calls Try.prog 25 #[.int .i64 n, .int .i64 2] w (Ret w (RowErr w (bS n 2).1 (bS n 2).2)) := by
  by_cases hf : ftB n 2 = true
  · have e : bS n 2 = (bg 2 n, 0) := by
      unfold bS
      rw [if_neg (by omega), if_pos hf]
      rfl
    rw [e]
    clear e
    have hr : -32768 ≤ n ∧ n < 65536 := by simpa [ftB] using hf
    obtain ⟨hr1, hr2⟩ := hr
    clear hf
    go_enter Try.func25, Try.ntmps25
    go_wp2_with (at_make; refine wpList_mk _ rfl _ _ w.heap.size 22 5 1 .u8 rfl Try.underlying22 info8 (by decide) _ _ _ _ 2 rfl rfl rfl rfl (by decide) (by decide) (Nat.le_refl _) ?_; intro w1 ho1 hg1)
    go_loopw [7] (fun i wr => ∃ k : Nat, i = .int .i64 k ∧ k ≤ 2 ∧ Ext w wr ∧ Own w.heap.size wr 5 .u8 (.slice (some ⟨w.heap.size, 0, none⟩) 2 2) (List.replicate (2 - k) 0 ++ bg k n)) (fun i _ => 2 - (intOf i).toNat)
    case atStart => exact ⟨0, rfl, by omega, (Ext.refl _).grown hg1 (fun g hg => by cases hg), by simpa [bg] using ho1⟩
    case round =>
      obtain ⟨k, rfl, hk, he, ho⟩ := hrel
      by_cases hk1 : k < 2
      · have hkk : k = 0 ∨ k = 1 := by omega
        rcases hkk with rfl | rfl
        · obtain ⟨g, c, hv, _, _, _, _, hcell, hfr⟩ := ho.parts (by simp [bg])
          have hv1 : g = w.heap.size := by
            injection hv with a _ _
            injection a with a
            injection a with a
            exact a.symm
          clear hv
          subst hv1
          obtain ⟨z, hc⟩ : ∃ z, wr.cell? ⟨w.heap.size, 1, none⟩ = some z := ⟨_, hcell 1 (by simp [bg])⟩
          have hz := hfr 1
          have HO := Lib.hid ho
          clear hcell hfr ho
          go_wp2
          go_roundw
          case rel =>
            refine ⟨1, rfl, by omega, he.set_ (Nat.le_refl _) _, ?_⟩
            have hL : (List.replicate (2 - 0) 0 ++ bg 0 n).set 1 (n % 256) = List.replicate (2 - 1) 0 ++ bg 1 n := by simp [bg]
            rw [← hL]
            exact HO.out.put (j := 1) (x := n % 256) (by simp [bg]) (wf_u8 (by omega) (by omega))
          case measure => simp [intOf]
        · obtain ⟨g, c, hv, _, _, _, _, hcell, hfr⟩ := ho.parts (by simp [bg])
          have hv1 : g = w.heap.size := by
            injection hv with a _ _
            injection a with a
            injection a with a
            exact a.symm
          clear hv
          subst hv1
          obtain ⟨z, hc⟩ : ∃ z, wr.cell? ⟨w.heap.size, 0, none⟩ = some z := ⟨_, hcell 0 (by simp [bg])⟩
          have hz := hfr 0
          have HO := Lib.hid ho
          clear hcell hfr ho
          go_wp2
          go_roundw
          case rel =>
            refine ⟨2, rfl, by omega, he.set_ (Nat.le_refl _) _, ?_⟩
            have hL : (List.replicate (2 - 1) 0 ++ bg 1 n).set 0 (n / 256 % 256) = List.replicate (2 - 2) 0 ++ bg 2 n := by simp [bg]
            rw [← hL]
            exact HO.out.put (j := 0) (x := n / 256 % 256) (by simp [bg]) (wf_u8 (by omega) (by omega))
          case measure => simp [intOf]
      · have hks : k = 2 := by omega
        subst hks
        go_wp2
        go_ret2
        exact Ret.mk ⟨_, rfl, by simpa using ho⟩ he
  · have e : bS n 2 = ([], 9) := by unfold bS; rw [if_neg (by omega), if_neg hf]
    rw [e]
    clear e
    have hr : n < -32768 ∨ 65536 ≤ n := by
      have : ¬ (-32768 ≤ n ∧ n < 65536) := fun h => hf (by simpa [ftB] using h)
      omega
    clear hf
    rcases hr with hr | hr
    all_goals
      go_enter Try.func25, Try.ntmps25
      go_wp2
      go_ret2
      exact Ret.mk ⟨_, rfl, Own.nil _ _ _ _⟩ (Ext.refl _)

set_option maxHeartbeats 4000000 in
theorem refBig_3 (n : Int) (w : World) (hl : -9223372036854775808 ≤ n) (hh : n ≤ 9223372036854775807) :
    Calls Try.prog 25 #[.int .i64 n, .int .i64 3] w (Ret w (RowErr w (bS n 3).1 (bS n 3).2)) := by
  by_cases hf : ftB n 3 = true
  · have e : bS n 3 = (bg 3 n, 0) := by
      unfold bS
      rw [if_neg (by omega), if_pos hf]
      rfl
    rw [e]
    clear e
    have hr : -8388608 ≤ n ∧ n < 16777216 := by simpa [ftB] using hf
    obtain ⟨hr1, hr2⟩ := hr
    clear hf
    go_enter Try.func25, Try.ntmps25
    go_wp2_with (at_make; refine wpList_mk _ rfl _ _ w.heap.size 22 5 1 .u8 rfl Try.underlying22 info8 (by decide) _ _ _ _ 3 rfl rfl rfl rfl (by decide) (by decide) (Nat.le_refl _) ?_; intro w1 ho1 hg1)
    go_loopw [7] (fun i wr => ∃ k : Nat, i = .int .i64 k ∧ k ≤ 3 ∧ Ext w wr ∧ Own w.heap.size wr 5 .u8 (.slice (some ⟨w.heap.size, 0, none⟩) 3 3) (List.replicate (3 - k) 0 ++ bg k n)) (fun i _ => 3 - (intOf i).toNat)
    case atStart => exact ⟨0, rfl, by omega, (Ext.refl _).grown hg1 (fun g hg => by cases hg), by simpa [bg] using ho1⟩
    case round =>
      obtain ⟨k, rfl, hk, he, ho⟩ := hrel
      by_cases hk1 : k < 3
      · have hkk : k = 0 ∨ k = 1 ∨ k = 2 := by omega
        rcases hkk with rfl | rfl | rfl
        · obtain ⟨g, c, hv, _, _, _, _, hcell, hfr⟩ := ho.parts (by simp [bg])
          have hv1 : g = w.heap.size := by
            injection hv with a _ _
            injection a with a
            injection a with a
            exact a.symm
          clear hv
          subst hv1
          obtain ⟨z, hc⟩ : ∃ z, wr.cell? ⟨w.heap.size, 2, none⟩ = some z := ⟨_, hcell 2 (by simp [bg])⟩
          have hz := hfr 2
          have HO := Lib.hid ho
          clear hcell hfr ho
          go_wp2
          go_roundw
          case rel =>
            refine ⟨1, rfl, by omega, he.set_ (Nat.le_refl _) _, ?_⟩
            have hL : (List.replicate (3 - 0) 0 ++ bg 0 n).set 2 (n % 256) = List.replicate (3 - 1) 0 ++ bg 1 n := by simp [bg]
            rw [← hL]
            exact HO.out.put (j := 2) (x := n % 256) (by simp [bg]) (wf_u8 (by omega) (by omega))
          case measure => simp [intOf]
        · obtain ⟨g, c, hv, _, _, _, _, hcell, hfr⟩ := ho.parts (by simp [bg])
          have hv1 : g = w.heap.size := by
            injection hv with a _ _
            injection a with a
            injection a with a
            exact a.symm
          clear hv
          subst hv1
          obtain ⟨z, hc⟩ : ∃ z, wr.cell? ⟨w.heap.size, 1, none⟩ = some z := ⟨_, hcell 1 (by simp [bg])⟩
          have hz := hfr 1
          have HO := Lib.hid ho
          clear hcell hfr ho
          go_wp2
          go_roundw
          case rel =>
            refine ⟨2, rfl, by omega, he.set_ (Nat.le_refl _) _, ?_⟩
            have hL : (List.replicate (3 - 1) 0 ++ bg 1 n).set 1 (n / 256 % 256) = List.replicate (3 - 2) 0 ++ bg 2 n := by simp [bg]
            rw [← hL]
            exact HO.out.put (j := 1) (x := n / 256 % 256) (by simp [bg]) (wf_u8 (by omega) (by omega))
          case measure => simp [intOf]
        · obtain ⟨g, c, hv, _, _, _, _, hcell, hfr⟩ := ho.parts (by simp [bg])
          have hv1 : g = w.heap.size := by
            injection hv with a _ _
            injection a with a
            injection a with a
            exact a.symm
          clear hv
          subst hv1
          obtain ⟨z, hc⟩ : ∃ z, wr.cell? ⟨w.heap.size, 0, none⟩ = some z := ⟨_, hcell 0 (by simp [bg])⟩
          have hz := hfr 0
          have HO := Lib.hid ho
          clear hcell hfr ho
          go_wp2
          go_roundw
          case rel =>
            refine ⟨3, rfl, by omega, he.set_ (Nat.le_refl _) _, ?_⟩
            have hL : (List.replicate (3 - 2) 0 ++ bg 2 n).set 0 (n / 65536 % 256) = List.replicate (3 - 3) 0 ++ bg 3 n := by simp [bg]
            rw [← hL]
            exact HO.out.put (j := 0) (x := n / 65536 % 256) (by simp [bg]) (wf_u8 (by omega) (by omega))
          case measure => simp [intOf]
      · have hks : k = 3 := by omega
        subst hks
        go_wp2
        go_ret2
        exact Ret.mk ⟨_, rfl, by simpa using ho⟩ he
  · have e : bS n 3 = ([], 9) := by unfold bS; rw [if_neg (by omega), if_neg hf]
    rw [e]
    clear e
    have hr : n < -8388608 ∨ 16777216 ≤ n := by
      have : ¬ (-8388608 ≤ n ∧ n < 16777216) := fun h => hf (by simpa [ftB] using h)
      omega
    clear hf
    rcases hr with hr | hr
    all_goals
      go_enter Try.func25, Try.ntmps25
      go_wp2
      go_ret2
      exact Ret.mk ⟨_, rfl, Own.nil _ _ _ _⟩ (Ext.refl _)

set_option maxHeartbeats 4000000 in
theorem refBig_4 (n : Int) (w : World) (hl : -9223372036854775808 ≤ n) (hh : n ≤ 9223372036854775807) :
    Calls Try.prog 25 #[.int .i64 n, .int .i64 4] w (Ret w (RowErr w (bS n 4).1 (bS n 4).2)) := by
  by_cases hf : ftB n 4 = true
  · have e : bS n 4 = (bg 4 n, 0) := by
      unfold bS
      rw [if_neg (by omega), if_pos hf]
      rfl
    rw [e]
    clear e
    have hr : -2147483648 ≤ n ∧ n < 4294967296 := by simpa [ftB] using hf
    obtain ⟨hr1, hr2⟩ := hr
    clear hf
    go_enter Try.func25, Try.ntmps25
    go_wp2_with (at_make; refine wpList_mk _ rfl _ _ w.heap.size 22 5 1 .u8 rfl Try.underlying22 info8 (by decide) _ _ _ _ 4 rfl rfl rfl rfl (by decide) (by decide) (Nat.le_refl _) ?_; intro w1 ho1 hg1)
    go_loopw [7] (fun i wr => ∃ k : Nat, i = .int .i64 k ∧ k ≤ 4 ∧ Ext w wr ∧ Own w.heap.size wr 5 .u8 (.slice (some ⟨w.heap.size, 0, none⟩) 4 4) (List.replicate (4 - k) 0 ++ bg k n)) (fun i _ => 4 - (intOf i).toNat)
    case atStart => exact ⟨0, rfl, by omega, (Ext.refl _).grown hg1 (fun g hg => by cases hg), by simpa [bg] using ho1⟩
    case round =>
      obtain ⟨k, rfl, hk, he, ho⟩ := hrel
      by_cases hk1 : k < 4
      · have hkk : k = 0 ∨ k = 1 ∨ k = 2 ∨ k = 3 := by omega
        rcases hkk with rfl | rfl | rfl | rfl
        · obtain ⟨g, c, hv, _, _, _, _, hcell, hfr⟩ := ho.parts (by simp [bg])
          have hv1 : g = w.heap.size := by
            injection hv with a _ _
            injection a with a
            injection a with a
            exact a.symm
          clear hv
          subst hv1
          obtain ⟨z, hc⟩ : ∃ z, wr.cell? ⟨w.heap.size, 3, none⟩ = some z := ⟨_, hcell 3 (by simp [bg])⟩
          have hz := hfr 3
          have HO := Lib.hid ho
          clear hcell hfr ho
          go_wp2
          go_roundw
          case rel =>
            refine ⟨1, rfl, by omega, he.set_ (Nat.le_refl _) _, ?_⟩
            have hL : (List.replicate (4 - 0) 0 ++ bg 0 n).set 3 (n % 256) = List.replicate (4 - 1) 0 ++ bg 1 n := by simp [bg]
            rw [← hL]
            exact HO.out.put (j := 3) (x := n % 256) (by simp [bg]) (wf_u8 (by omega) (by omega))
          case measure => simp [intOf]
        · obtain ⟨g, c, hv, _, _, _, _, hcell, hfr⟩ := ho.parts (by simp [bg])
          have hv1 : g = w.heap.size := by
            injection hv with a _ _
            injection a with a
            injection a with a
            exact a.symm
          clear hv
          subst hv1
          obtain ⟨z, hc⟩ : ∃ z, wr.cell? ⟨w.heap.size, 2, none⟩ = some z := ⟨_, hcell 2 (by simp [bg])⟩
          have hz := hfr 2
          have HO := Lib.hid ho
          clear hcell hfr ho
          go_wp2
          go_roundw
          case rel =>
            refine ⟨2, rfl, by omega, he.set_ (Nat.le_refl _) _, ?_⟩
            have hL : (List.replicate (4 - 1) 0 ++ bg 1 n).set 2 (n / 256 % 256) = List.replicate (4 - 2) 0 ++ bg 2 n := by simp [bg]
            rw [← hL]
            exact HO.out.put (j := 2) (x := n / 256 % 256) (by simp [bg]) (wf_u8 (by omega) (by omega))
          case measure => simp [intOf]
        · obtain ⟨g, c, hv, _, _, _, _, hcell, hfr⟩ := ho.parts (by simp [bg])
          have hv1 : g = w.heap.size := by
            injection hv with a _ _
            injection a with a
            injection a with a
            exact a.symm
          clear hv
          subst hv1
          obtain ⟨z, hc⟩ : ∃ z, wr.cell? ⟨w.heap.size, 1, none⟩ = some z := ⟨_, hcell 1 (by simp [bg])⟩
          have hz := hfr 1
          have HO := Lib.hid ho
          clear hcell hfr ho
          go_wp2
          go_roundw
          case rel =>
            refine ⟨3, rfl, by omega, he.set_ (Nat.le_refl _) _, ?_⟩
            have hL : (List.replicate (4 - 2) 0 ++ bg 2 n).set 1 (n / 65536 % 256) = List.replicate (4 - 3) 0 ++ bg 3 n := by simp [bg]
            rw [← hL]
            exact HO.out.put (j := 1) (x := n / 65536 % 256) (by simp [bg]) (wf_u8 (by omega) (by omega))
          case measure => simp [intOf]
        · obtain ⟨g, c, hv, _, _, _, _, hcell, hfr⟩ := ho.parts (by simp [bg])
          have hv1 : g = w.heap.size := by
            injection hv with a _ _
            injection a with a
            injection a with a
            exact a.symm
          clear hv
          subst hv1
          obtain ⟨z, hc⟩ : ∃ z, wr.cell? ⟨w.heap.size, 0, none⟩ = some z := ⟨_, hcell 0 (by simp [bg])⟩
          have hz := hfr 0
          have HO := Lib.hid ho
          clear hcell hfr ho
          go_wp2
          go_roundw
          case rel =>
            refine ⟨4, rfl, by omega, he.set_ (Nat.le_refl _) _, ?_⟩
            have hL : (List.replicate (4 - 3) 0 ++ bg 3 n).set 0 (n / 16777216 % 256) = List.replicate (4 - 4) 0 ++ bg 4 n := by simp [bg]
            rw [← hL]
            exact HO.out.put (j := 0) (x := n / 16777216 % 256) (by simp [bg]) (wf_u8 (by omega) (by omega))
          case measure => simp [intOf]
      · have hks : k = 4 := by omega
        subst hks
        go_wp2
        go_ret2
        exact Ret.mk ⟨_, rfl, by simpa using ho⟩ he
  · have e : bS n 4 = ([], 9) := by unfold bS; rw [if_neg (by omega), if_neg hf]
    rw [e]
    clear e
    have hr : n < -2147483648 ∨ 4294967296 ≤ n := by
      have : ¬ (-2147483648 ≤ n ∧ n < 4294967296) := fun h => hf (by simpa [ftB] using h)
      omega
    clear hf
    rcases hr with hr | hr
    all_goals
      go_enter Try.func25, Try.ntmps25
      go_wp2
      go_ret2
      exact Ret.mk ⟨_, rfl, Own.nil _ _ _ _⟩ (Ext.refl _)

set_option maxHeartbeats 4000000 in
theorem refBig_5 (n : Int) (w : World) (hl : -9223372036854775808 ≤ n) (hh : n ≤ 9223372036854775807) :
    Calls Try.prog 25 #[.int .i64 n, .int .i64 5] w (Ret w (RowErr w (bS n 5).1 (bS n 5).2)) := by
  by_cases hf : ftB n 5 = true
  · have e : bS n 5 = (bg 5 n, 0) := by
      unfold bS
      rw [if_neg (by omega), if_pos hf]
      rfl
    rw [e]
    clear e
    have hr : -549755813888 ≤ n ∧ n < 1099511627776 := by simpa [ftB] using hf
    obtain ⟨hr1, hr2⟩ := hr
    clear hf
    go_enter Try.func25, Try.ntmps25
    go_wp2_with (at_make; refine wpList_mk _ rfl _ _ w.heap.size 22 5 1 .u8 rfl Try.underlying22 info8 (by decide) _ _ _ _ 5 rfl rfl rfl rfl (by decide) (by decide) (Nat.le_refl _) ?_; intro w1 ho1 hg1)
    go_loopw [7] (fun i wr => ∃ k : Nat, i = .int .i64 k ∧ k ≤ 5 ∧ Ext w wr ∧ Own w.heap.size wr 5 .u8 (.slice (some ⟨w.heap.size, 0, none⟩) 5 5) (List.replicate (5 - k) 0 ++ bg k n)) (fun i _ => 5 - (intOf i).toNat)
    case atStart => exact ⟨0, rfl, by omega, (Ext.refl _).grown hg1 (fun g hg => by cases hg), by simpa [bg] using ho1⟩
    case round =>
      obtain ⟨k, rfl, hk, he, ho⟩ := hrel
      by_cases hk1 : k < 5
      · have hkk : k = 0 ∨ k = 1 ∨ k = 2 ∨ k = 3 ∨ k = 4 := by omega
        rcases hkk with rfl | rfl | rfl | rfl | rfl
        · obtain ⟨g, c, hv, _, _, _, _, hcell, hfr⟩ := ho.parts (by simp [bg])
          have hv1 : g = w.heap.size := by
            injection hv with a _ _
            injection a with a
            injection a with a
            exact a.symm
          clear hv
          subst hv1
          obtain ⟨z, hc⟩ : ∃ z, wr.cell? ⟨w.heap.size, 4, none⟩ = some z := ⟨_, hcell 4 (by simp [bg])⟩
          have hz := hfr 4
          have HO := Lib.hid ho
          clear hcell hfr ho
          go_wp2
          go_roundw
          case rel =>
            refine ⟨1, rfl, by omega, he.set_ (Nat.le_refl _) _, ?_⟩
            have hL : (List.replicate (5 - 0) 0 ++ bg 0 n).set 4 (n % 256) = List.replicate (5 - 1) 0 ++ bg 1 n := by simp [bg]
            rw [← hL]
            exact HO.out.put (j := 4) (x := n % 256) (by simp [bg]) (wf_u8 (by omega) (by omega))
          case measure => simp [intOf]
        · obtain ⟨g, c, hv, _, _, _, _, hcell, hfr⟩ := ho.parts (by simp [bg])
          have hv1 : g = w.heap.size := by
            injection hv with a _ _
            injection a with a
            injection a with a
            exact a.symm
          clear hv
          subst hv1
          obtain ⟨z, hc⟩ : ∃ z, wr.cell? ⟨w.heap.size, 3, none⟩ = some z := ⟨_, hcell 3 (by simp [bg])⟩
          have hz := hfr 3
          have HO := Lib.hid ho
          clear hcell hfr ho
          go_wp2
          go_roundw
          case rel =>
            refine ⟨2, rfl, by omega, he.set_ (Nat.le_refl _) _, ?_⟩
            have hL : (List.replicate (5 - 1) 0 ++ bg 1 n).set 3 (n / 256 % 256) = List.replicate (5 - 2) 0 ++ bg 2 n := by simp [bg]
            rw [← hL]
            exact HO.out.put (j := 3) (x := n / 256 % 256) (by simp [bg]) (wf_u8 (by omega) (by omega))
          case measure => simp [intOf]
        · obtain ⟨g, c, hv, _, _, _, _, hcell, hfr⟩ := ho.parts (by simp [bg])
          have hv1 : g = w.heap.size := by
            injection hv with a _ _
            injection a with a
            injection a with a
            exact a.symm
          clear hv
          subst hv1
          obtain ⟨z, hc⟩ : ∃ z, wr.cell? ⟨w.heap.size, 2, none⟩ = some z := ⟨_, hcell 2 (by simp [bg])⟩
          have hz := hfr 2
          have HO := Lib.hid ho
          clear hcell hfr ho
          go_wp2
          go_roundw
          case rel =>
            refine ⟨3, rfl, by omega, he.set_ (Nat.le_refl _) _, ?_⟩
            have hL : (List.replicate (5 - 2) 0 ++ bg 2 n).set 2 (n / 65536 % 256) = List.replicate (5 - 3) 0 ++ bg 3 n := by simp [bg]
            rw [← hL]
            exact HO.out.put (j := 2) (x := n / 65536 % 256) (by simp [bg]) (wf_u8 (by omega) (by omega))
          case measure => simp [intOf]
        · obtain ⟨g, c, hv, _, _, _, _, hcell, hfr⟩ := ho.parts (by simp [bg])
          have hv1 : g = w.heap.size := by
            injection hv with a _ _
            injection a with a
            injection a with a
            exact a.symm
          clear hv
          subst hv1
          obtain ⟨z, hc⟩ : ∃ z, wr.cell? ⟨w.heap.size, 1, none⟩ = some z := ⟨_, hcell 1 (by simp [bg])⟩
          have hz := hfr 1
          have HO := Lib.hid ho
          clear hcell hfr ho
          go_wp2
          go_roundw
          case rel =>
            refine ⟨4, rfl, by omega, he.set_ (Nat.le_refl _) _, ?_⟩
            have hL : (List.replicate (5 - 3) 0 ++ bg 3 n).set 1 (n / 16777216 % 256) = List.replicate (5 - 4) 0 ++ bg 4 n := by simp [bg]
            rw [← hL]
            exact HO.out.put (j := 1) (x := n / 16777216 % 256) (by simp [bg]) (wf_u8 (by omega) (by omega))
          case measure => simp [intOf]
        · obtain ⟨g, c, hv, _, _, _, _, hcell, hfr⟩ := ho.parts (by simp [bg])
          have hv1 : g = w.heap.size := by
            injection hv with a _ _
            injection a with a
            injection a with a
            exact a.symm
          clear hv
          subst hv1
          obtain ⟨z, hc⟩ : ∃ z, wr.cell? ⟨w.heap.size, 0, none⟩ = some z := ⟨_, hcell 0 (by simp [bg])⟩
          have hz := hfr 0
          have HO := Lib.hid ho
          clear hcell hfr ho
          go_wp2
          go_roundw
          case rel =>
            refine ⟨5, rfl, by omega, he.set_ (Nat.le_refl _) _, ?_⟩
            have hL : (List.replicate (5 - 4) 0 ++ bg 4 n).set 0 (n / 4294967296 % 256) = List.replicate (5 - 5) 0 ++ bg 5 n := by simp [bg]
            rw [← hL]
            exact HO.out.put (j := 0) (x := n / 4294967296 % 256) (by simp [bg]) (wf_u8 (by omega) (by omega))
          case measure => simp [intOf]
      · have hks : k = 5 := by omega
        subst hks
        go_wp2
        go_ret2
        exact Ret.mk ⟨_, rfl, by simpa using ho⟩ he
  · have e : bS n 5 = ([], 9) := by unfold bS; rw [if_neg (by omega), if_neg hf]
    rw [e]
    clear e
    have hr : n < -549755813888 ∨ 1099511627776 ≤ n := by
      have : ¬ (-549755813888 ≤ n ∧ n < 1099511627776) := fun h => hf (by simpa [ftB] using h)
      omega
    clear hf
    rcases hr with hr | hr
    all_goals
      go_enter Try.func25, Try.ntmps25
      go_wp2
      go_ret2
      exact Ret.mk ⟨_, rfl, Own.nil _ _ _ _⟩ (Ext.refl _)

set_option maxHeartbeats 4000000 in
theorem refBig_6 (n : Int) (w : World) (hl : -9223372036854775808 ≤ n) (hh : n ≤ 9223372036854775807) :
    Calls Try.prog 25 #[.int .i64 n, .int .i64 6] w (Ret w (RowErr w (bS n 6).1 (bS n 6).2)) := by
  by_cases hf : ftB n 6 = true
  · have e : bS n 6 = (bg 6 n, 0) := by
      unfold bS
      rw [if_neg (by omega), if_pos hf]
      rfl
    rw [e]
    clear e
    have hr : -140737488355328 ≤ n ∧ n < 281474976710656 := by simpa [ftB] using hf
    obtain ⟨hr1, hr2⟩ := hr
    clear hf
    go_enter Try.func25, Try.ntmps25
    go_wp2_with (at_make; refine wpList_mk _ rfl _ _ w.heap.size 22 5 1 .u8 rfl Try.underlying22 info8 (by decide) _ _ _ _ 6 rfl rfl rfl rfl (by decide) (by decide) (Nat.le_refl _) ?_; intro w1 ho1 hg1)
    go_loopw [7] (fun i wr => ∃ k : Nat, i = .int .i64 k ∧ k ≤ 6 ∧ Ext w wr ∧ Own w.heap.size wr 5 .u8 (.slice (some ⟨w.heap.size, 0, none⟩) 6 6) (List.replicate (6 - k) 0 ++ bg k n)) (fun i _ => 6 - (intOf i).toNat)
    case atStart => exact ⟨0, rfl, by omega, (Ext.refl _).grown hg1 (fun g hg => by cases hg), by simpa [bg] using ho1⟩
    case round =>
      obtain ⟨k, rfl, hk, he, ho⟩ := hrel
      by_cases hk1 : k < 6
      · have hkk : k = 0 ∨ k = 1 ∨ k = 2 ∨ k = 3 ∨ k = 4 ∨ k = 5 := by omega
        rcases hkk with rfl | rfl | rfl | rfl | rfl | rfl
        · obtain ⟨g, c, hv, _, _, _, _, hcell, hfr⟩ := ho.parts (by simp [bg])
          have hv1 : g = w.heap.size := by
            injection hv with a _ _
            injection a with a
            injection a with a
            exact a.symm
          clear hv
          subst hv1
          obtain ⟨z, hc⟩ : ∃ z, wr.cell? ⟨w.heap.size, 5, none⟩ = some z := ⟨_, hcell 5 (by simp [bg])⟩
          have hz := hfr 5
          have HO := Lib.hid ho
          clear hcell hfr ho
          go_wp2
          go_roundw
          case rel =>
            refine ⟨1, rfl, by omega, he.set_ (Nat.le_refl _) _, ?_⟩
            have hL : (List.replicate (6 - 0) 0 ++ bg 0 n).set 5 (n % 256) = List.replicate (6 - 1) 0 ++ bg 1 n := by simp [bg]
            rw [← hL]
            exact HO.out.put (j := 5) (x := n % 256) (by simp [bg]) (wf_u8 (by omega) (by omega))
          case measure => simp [intOf]
        · obtain ⟨g, c, hv, _, _, _, _, hcell, hfr⟩ := ho.parts (by simp [bg])
          have hv1 : g = w.heap.size := by
            injection hv with a _ _
            injection a with a
            injection a with a
            exact a.symm
          clear hv
          subst hv1
          obtain ⟨z, hc⟩ : ∃ z, wr.cell? ⟨w.heap.size, 4, none⟩ = some z := ⟨_, hcell 4 (by simp [bg])⟩
          have hz := hfr 4
          have HO := Lib.hid ho
          clear hcell hfr ho
          go_wp2
          go_roundw
          case rel =>
            refine ⟨2, rfl, by omega, he.set_ (Nat.le_refl _) _, ?_⟩
            have hL : (List.replicate (6 - 1) 0 ++ bg 1 n).set 4 (n / 256 % 256) = List.replicate (6 - 2) 0 ++ bg 2 n := by simp [bg]
            rw [← hL]
            exact HO.out.put (j := 4) (x := n / 256 % 256) (by simp [bg]) (wf_u8 (by omega) (by omega))
          case measure => simp [intOf]
        · obtain ⟨g, c, hv, _, _, _, _, hcell, hfr⟩ := ho.parts (by simp [bg])
          have hv1 : g = w.heap.size := by
            injection hv with a _ _
            injection a with a
            injection a with a
            exact a.symm
          clear hv
          subst hv1
          obtain ⟨z, hc⟩ : ∃ z, wr.cell? ⟨w.heap.size, 3, none⟩ = some z := ⟨_, hcell 3 (by simp [bg])⟩
          have hz := hfr 3
          have HO := Lib.hid ho
          clear hcell hfr ho
          go_wp2
          go_roundw
          case rel =>
            refine ⟨3, rfl, by omega, he.set_ (Nat.le_refl _) _, ?_⟩
            have hL : (List.replicate (6 - 2) 0 ++ bg 2 n).set 3 (n / 65536 % 256) = List.replicate (6 - 3) 0 ++ bg 3 n := by simp [bg]
            rw [← hL]
            exact HO.out.put (j := 3) (x := n / 65536 % 256) (by simp [bg]) (wf_u8 (by omega) (by omega))
          case measure => simp [intOf]
        · obtain ⟨g, c, hv, _, _, _, _, hcell, hfr⟩ := ho.parts (by simp [bg])
          have hv1 : g = w.heap.size := by
            injection hv with a _ _
            injection a with a
            injection a with a
            exact a.symm
          clear hv
          subst hv1
          obtain ⟨z, hc⟩ : ∃ z, wr.cell? ⟨w.heap.size, 2, none⟩ = some z := ⟨_, hcell 2 (by simp [bg])⟩
          have hz := hfr 2
          have HO := Lib.hid ho
          clear hcell hfr ho
          go_wp2
          go_roundw
          case rel =>
            refine ⟨4, rfl, by omega, he.set_ (Nat.le_refl _) _, ?_⟩
            have hL : (List.replicate (6 - 3) 0 ++ bg 3 n).set 2 (n / 16777216 % 256) = List.replicate (6 - 4) 0 ++ bg 4 n := by simp [bg]
            rw [← hL]
            exact HO.out.put (j := 2) (x := n / 16777216 % 256) (by simp [bg]) (wf_u8 (by omega) (by omega))
          case measure => simp [intOf]
        · obtain ⟨g, c, hv, _, _, _, _, hcell, hfr⟩ := ho.parts (by simp [bg])
          have hv1 : g = w.heap.size := by
            injection hv with a _ _
            injection a with a
            injection a with a
            exact a.symm
          clear hv
          subst hv1
          obtain ⟨z, hc⟩ : ∃ z, wr.cell? ⟨w.heap.size, 1, none⟩ = some z := ⟨_, hcell 1 (by simp [bg])⟩
          have hz := hfr 1
          have HO := Lib.hid ho
          clear hcell hfr ho
          go_wp2
          go_roundw
          case rel =>
            refine ⟨5, rfl, by omega, he.set_ (Nat.le_refl _) _, ?_⟩
            have hL : (List.replicate (6 - 4) 0 ++ bg 4 n).set 1 (n / 4294967296 % 256) = List.replicate (6 - 5) 0 ++ bg 5 n := by simp [bg]
            rw [← hL]
            exact HO.out.put (j := 1) (x := n / 4294967296 % 256) (by simp [bg]) (wf_u8 (by omega) (by omega))
          case measure => simp [intOf]
        · obtain ⟨g, c, hv, _, _, _, _, hcell, hfr⟩ := ho.parts (by simp [bg])
          have hv1 : g = w.heap.size := by
            injection hv with a _ _
            injection a with a
            injection a with a
            exact a.symm
          clear hv
          subst hv1
          obtain ⟨z, hc⟩ : ∃ z, wr.cell? ⟨w.heap.size, 0, none⟩ = some z := ⟨_, hcell 0 (by simp [bg])⟩
          have hz := hfr 0
          have HO := Lib.hid ho
          clear hcell hfr ho
          go_wp2
          go_roundw
          case rel =>
            refine ⟨6, rfl, by omega, he.set_ (Nat.le_refl _) _, ?_⟩
            have hL : (List.replicate (6 - 5) 0 ++ bg 5 n).set 0 (n / 1099511627776 % 256) = List.replicate (6 - 6) 0 ++ bg 6 n := by simp [bg]
            rw [← hL]
            exact HO.out.put (j := 0) (x := n / 1099511627776 % 256) (by simp [bg]) (wf_u8 (by omega) (by omega))
          case measure => simp [intOf]
      · have hks : k = 6 := by omega
        subst hks
        go_wp2
        go_ret2
        exact Ret.mk ⟨_, rfl, by simpa using ho⟩ he
  · have e : bS n 6 = ([], 9) := by unfold bS; rw [if_neg (by omega), if_neg hf]
    rw [e]
    clear e
    have hr : n < -140737488355328 ∨ 281474976710656 ≤ n := by
      have : ¬ (-140737488355328 ≤ n ∧ n < 281474976710656) := fun h => hf (by simpa [ftB] using h)
      omega
    clear hf
    rcases hr with hr | hr
    all_goals
      go_enter Try.func25, Try.ntmps25
      go_wp2
      go_ret2
      exact Ret.mk ⟨_, rfl, Own.nil _ _ _ _⟩ (Ext.refl _)

set_option maxHeartbeats 4000000 in
theorem refBig_7 (n : Int) (w : World) (hl : -9223372036854775808 ≤ n) (hh : n ≤ 9223372036854775807) :
    Calls Try.prog 25 #[.int .i64 n, .int .i64 7] w (Ret w (RowErr w (bS n 7).1 (bS n 7).2)) := by
  by_cases hf : ftB n 7 = true
  · have e : bS n 7 = (bg 7 n, 0) := by
      unfold bS
      rw [if_neg (by omega), if_pos hf]
      rfl
    rw [e]
    clear e
    have hr : -36028797018963968 ≤ n ∧ n < 72057594037927936 := by simpa [ftB] using hf
    obtain ⟨hr1, hr2⟩ := hr
    clear hf
    go_enter Try.func25, Try.ntmps25
    go_wp2_with (at_make; refine wpList_mk _ rfl _ _ w.heap.size 22 5 1 .u8 rfl Try.underlying22 info8 (by decide) _ _ _ _ 7 rfl rfl rfl rfl (by decide) (by decide) (Nat.le_refl _) ?_; intro w1 ho1 hg1)
    go_loopw [7] (fun i wr => ∃ k : Nat, i = .int .i64 k ∧ k ≤ 7 ∧ Ext w wr ∧ Own w.heap.size wr 5 .u8 (.slice (some ⟨w.heap.size, 0, none⟩) 7 7) (List.replicate (7 - k) 0 ++ bg k n)) (fun i _ => 7 - (intOf i).toNat)
    case atStart => exact ⟨0, rfl, by omega, (Ext.refl _).grown hg1 (fun g hg => by cases hg), by simpa [bg] using ho1⟩
    case round =>
      obtain ⟨k, rfl, hk, he, ho⟩ := hrel
      by_cases hk1 : k < 7
      · have hkk : k = 0 ∨ k = 1 ∨ k = 2 ∨ k = 3 ∨ k = 4 ∨ k = 5 ∨ k = 6 := by omega
        rcases hkk with rfl | rfl | rfl | rfl | rfl | rfl | rfl
        · obtain ⟨g, c, hv, _, _, _, _, hcell, hfr⟩ := ho.parts (by simp [bg])
          have hv1 : g = w.heap.size := by
            injection hv with a _ _
            injection a with a
            injection a with a
            exact a.symm
          clear hv
          subst hv1
          obtain ⟨z, hc⟩ : ∃ z, wr.cell? ⟨w.heap.size, 6, none⟩ = some z := ⟨_, hcell 6 (by simp [bg])⟩
          have hz := hfr 6
          have HO := Lib.hid ho
          clear hcell hfr ho
          go_wp2
          go_roundw
          case rel =>
            refine ⟨1, rfl, by omega, he.set_ (Nat.le_refl _) _, ?_⟩
            have hL : (List.replicate (7 - 0) 0 ++ bg 0 n).set 6 (n % 256) = List.replicate (7 - 1) 0 ++ bg 1 n := by simp [bg]
            rw [← hL]
            exact HO.out.put (j := 6) (x := n % 256) (by simp [bg]) (wf_u8 (by omega) (by omega))
          case measure => simp [intOf]
        · obtain ⟨g, c, hv, _, _, _, _, hcell, hfr⟩ := ho.parts (by simp [bg])
          have hv1 : g = w.heap.size := by
            injection hv with a _ _
            injection a with a
            injection a with a
            exact a.symm
          clear hv
          subst hv1
          obtain ⟨z, hc⟩ : ∃ z, wr.cell? ⟨w.heap.size, 5, none⟩ = some z := ⟨_, hcell 5 (by simp [bg])⟩
          have hz := hfr 5
          have HO := Lib.hid ho
          clear hcell hfr ho
          go_wp2
          go_roundw
          case rel =>
            refine ⟨2, rfl, by omega, he.set_ (Nat.le_refl _) _, ?_⟩
            have hL : (List.replicate (7 - 1) 0 ++ bg 1 n).set 5 (n / 256 % 256) = List.replicate (7 - 2) 0 ++ bg 2 n := by simp [bg]
            rw [← hL]
            exact HO.out.put (j := 5) (x := n / 256 % 256) (by simp [bg]) (wf_u8 (by omega) (by omega))
          case measure => simp [intOf]
        · obtain ⟨g, c, hv, _, _, _, _, hcell, hfr⟩ := ho.parts (by simp [bg])
          have hv1 : g = w.heap.size := by
            injection hv with a _ _
            injection a with a
            injection a with a
            exact a.symm
          clear hv
          subst hv1
          obtain ⟨z, hc⟩ : ∃ z, wr.cell? ⟨w.heap.size, 4, none⟩ = some z := ⟨_, hcell 4 (by simp [bg])⟩
          have hz := hfr 4
          have HO := Lib.hid ho
          clear hcell hfr ho
          go_wp2
          go_roundw
          case rel =>
            refine ⟨3, rfl, by omega, he.set_ (Nat.le_refl _) _, ?_⟩
            have hL : (List.replicate (7 - 2) 0 ++ bg 2 n).set 4 (n / 65536 % 256) = List.replicate (7 - 3) 0 ++ bg 3 n := by simp [bg]
            rw [← hL]
            exact HO.out.put (j := 4) (x := n / 65536 % 256) (by simp [bg]) (wf_u8 (by omega) (by omega))
          case measure => simp [intOf]
        · obtain ⟨g, c, hv, _, _, _, _, hcell, hfr⟩ := ho.parts (by simp [bg])
          have hv1 : g = w.heap.size := by
            injection hv with a _ _
            injection a with a
            injection a with a
            exact a.symm
          clear hv
          subst hv1
          obtain ⟨z, hc⟩ : ∃ z, wr.cell? ⟨w.heap.size, 3, none⟩ = some z := ⟨_, hcell 3 (by simp [bg])⟩
          have hz := hfr 3
          have HO := Lib.hid ho
          clear hcell hfr ho
          go_wp2
          go_roundw
          case rel =>
            refine ⟨4, rfl, by omega, he.set_ (Nat.le_refl _) _, ?_⟩
            have hL : (List.replicate (7 - 3) 0 ++ bg 3 n).set 3 (n / 16777216 % 256) = List.replicate (7 - 4) 0 ++ bg 4 n := by simp [bg]
            rw [← hL]
            exact HO.out.put (j := 3) (x := n / 16777216 % 256) (by simp [bg]) (wf_u8 (by omega) (by omega))
          case measure => simp [intOf]
        · obtain ⟨g, c, hv, _, _, _, _, hcell, hfr⟩ := ho.parts (by simp [bg])
          have hv1 : g = w.heap.size := by
            injection hv with a _ _
            injection a with a
            injection a with a
            exact a.symm
          clear hv
          subst hv1
          obtain ⟨z, hc⟩ : ∃ z, wr.cell? ⟨w.heap.size, 2, none⟩ = some z := ⟨_, hcell 2 (by simp [bg])⟩
          have hz := hfr 2
          have HO := Lib.hid ho
          clear hcell hfr ho
          go_wp2
          go_roundw
          case rel =>
            refine ⟨5, rfl, by omega, he.set_ (Nat.le_refl _) _, ?_⟩
            have hL : (List.replicate (7 - 4) 0 ++ bg 4 n).set 2 (n / 4294967296 % 256) = List.replicate (7 - 5) 0 ++ bg 5 n := by simp [bg]
            rw [← hL]
            exact HO.out.put (j := 2) (x := n / 4294967296 % 256) (by simp [bg]) (wf_u8 (by omega) (by omega))
          case measure => simp [intOf]
        · obtain ⟨g, c, hv, _, _, _, _, hcell, hfr⟩ := ho.parts (by simp [bg])
          have hv1 : g = w.heap.size := by
            injection hv with a _ _
            injection a with a
            injection a with a
            exact a.symm
          clear hv
          subst hv1
          obtain ⟨z, hc⟩ : ∃ z, wr.cell? ⟨w.heap.size, 1, none⟩ = some z := ⟨_, hcell 1 (by simp [bg])⟩
          have hz := hfr 1
          have HO := Lib.hid ho
          clear hcell hfr ho
          go_wp2
          go_roundw
          case rel =>
            refine ⟨6, rfl, by omega, he.set_ (Nat.le_refl _) _, ?_⟩
            have hL : (List.replicate (7 - 5) 0 ++ bg 5 n).set 1 (n / 1099511627776 % 256) = List.replicate (7 - 6) 0 ++ bg 6 n := by simp [bg]
            rw [← hL]
            exact HO.out.put (j := 1) (x := n / 1099511627776 % 256) (by simp [bg]) (wf_u8 (by omega) (by omega))
          case measure => simp [intOf]
        · obtain ⟨g, c, hv, _, _, _, _, hcell, hfr⟩ := ho.parts (by simp [bg])
          have hv1 : g = w.heap.size := by
            injection hv with a _ _
            injection a with a
            injection a with a
            exact a.symm
          clear hv
          subst hv1
          obtain ⟨z, hc⟩ : ∃ z, wr.cell? ⟨w.heap.size, 0, none⟩ = some z := ⟨_, hcell 0 (by simp [bg])⟩
          have hz := hfr 0
          have HO := Lib.hid ho
          clear hcell hfr ho
          go_wp2
          go_roundw
          case rel =>
            refine ⟨7, rfl, by omega, he.set_ (Nat.le_refl _) _, ?_⟩
            have hL : (List.replicate (7 - 6) 0 ++ bg 6 n).set 0 (n / 281474976710656 % 256) = List.replicate (7 - 7) 0 ++ bg 7 n := by simp [bg]
            rw [← hL]
            exact HO.out.put (j := 0) (x := n / 281474976710656 % 256) (by simp [bg]) (wf_u8 (by omega) (by omega))
          case measure => simp [intOf]
      · have hks : k = 7 := by omega
        subst hks
        go_wp2
        go_ret2
        exact Ret.mk ⟨_, rfl, by simpa using ho⟩ he
  · have e : bS n 7 = ([], 9) := by unfold bS; rw [if_neg (by omega), if_neg hf]
    rw [e]
    clear e
    have hr : n < -36028797018963968 ∨ 72057594037927936 ≤ n := by
      have : ¬ (-36028797018963968 ≤ n ∧ n < 72057594037927936) := fun h => hf (by simpa [ftB] using h)
      omega
    clear hf
    rcases hr with hr | hr
    all_goals
      go_enter Try.func25, Try.ntmps25
      go_wp2
      go_ret2
      exact Ret.mk ⟨_, rfl, Own.nil _ _ _ _⟩ (Ext.refl _)

set_option maxHeartbeats 4000000 in
theorem refBig_8 (n : Int) (w : World) (hl : -9223372036854775808 ≤ n) (hh : n ≤ 9223372036854775807) :
    Calls Try.prog 25 #[.int .i64 n, .int .i64 8] w (Ret w (RowErr w (bS n 8).1 (bS n 8).2)) := by
  by_cases hf : ftB n 8 = true
  · have e : bS n 8 = (bg 8 n, 0) := by
      unfold bS
      rw [if_neg (by omega), if_pos hf]
      rfl
    rw [e]
    clear e
    clear hf
    go_enter Try.func25, Try.ntmps25
    go_wp2_with (at_make; refine wpList_mk _ rfl _ _ w.heap.size 22 5 1 .u8 rfl Try.underlying22 info8 (by decide) _ _ _ _ 8 rfl rfl rfl rfl (by decide) (by decide) (Nat.le_refl _) ?_; intro w1 ho1 hg1)
    go_loopw [7] (fun i wr => ∃ k : Nat, i = .int .i64 k ∧ k ≤ 8 ∧ Ext w wr ∧ Own w.heap.size wr 5 .u8 (.slice (some ⟨w.heap.size, 0, none⟩) 8 8) (List.replicate (8 - k) 0 ++ bg k n)) (fun i _ => 8 - (intOf i).toNat)
    case atStart => exact ⟨0, rfl, by omega, (Ext.refl _).grown hg1 (fun g hg => by cases hg), by simpa [bg] using ho1⟩
    case round =>
      obtain ⟨k, rfl, hk, he, ho⟩ := hrel
      by_cases hk1 : k < 8
      · have hkk : k = 0 ∨ k = 1 ∨ k = 2 ∨ k = 3 ∨ k = 4 ∨ k = 5 ∨ k = 6 ∨ k = 7 := by omega
        rcases hkk with rfl | rfl | rfl | rfl | rfl | rfl | rfl | rfl
        · obtain ⟨g, c, hv, _, _, _, _, hcell, hfr⟩ := ho.parts (by simp [bg])
          have hv1 : g = w.heap.size := by
            injection hv with a _ _
            injection a with a
            injection a with a
            exact a.symm
          clear hv
          subst hv1
          obtain ⟨z, hc⟩ : ∃ z, wr.cell? ⟨w.heap.size, 7, none⟩ = some z := ⟨_, hcell 7 (by simp [bg])⟩
          have hz := hfr 7
          have HO := Lib.hid ho
          clear hcell hfr ho
          go_wp2
          go_roundw
          case rel =>
            refine ⟨1, rfl, by omega, he.set_ (Nat.le_refl _) _, ?_⟩
            have hL : (List.replicate (8 - 0) 0 ++ bg 0 n).set 7 (n % 256) = List.replicate (8 - 1) 0 ++ bg 1 n := by simp [bg]
            rw [← hL]
            exact HO.out.put (j := 7) (x := n % 256) (by simp [bg]) (wf_u8 (by omega) (by omega))
          case measure => simp [intOf]
        · obtain ⟨g, c, hv, _, _, _, _, hcell, hfr⟩ := ho.parts (by simp [bg])
          have hv1 : g = w.heap.size := by
            injection hv with a _ _
            injection a with a
            injection a with a
            exact a.symm
          clear hv
          subst hv1
          obtain ⟨z, hc⟩ : ∃ z, wr.cell? ⟨w.heap.size, 6, none⟩ = some z := ⟨_, hcell 6 (by simp [bg])⟩
          have hz := hfr 6
          have HO := Lib.hid ho
          clear hcell hfr ho
          go_wp2
          go_roundw
          case rel =>
            refine ⟨2, rfl, by omega, he.set_ (Nat.le_refl _) _, ?_⟩
            have hL : (List.replicate (8 - 1) 0 ++ bg 1 n).set 6 (n / 256 % 256) = List.replicate (8 - 2) 0 ++ bg 2 n := by simp [bg]
            rw [← hL]
            exact HO.out.put (j := 6) (x := n / 256 % 256) (by simp [bg]) (wf_u8 (by omega) (by omega))
          case measure => simp [intOf]
        · obtain ⟨g, c, hv, _, _, _, _, hcell, hfr⟩ := ho.parts (by simp [bg])
          have hv1 : g = w.heap.size := by
            injection hv with a _ _
            injection a with a
            injection a with a
            exact a.symm
          clear hv
          subst hv1
          obtain ⟨z, hc⟩ : ∃ z, wr.cell? ⟨w.heap.size, 5, none⟩ = some z := ⟨_, hcell 5 (by simp [bg])⟩
          have hz := hfr 5
          have HO := Lib.hid ho
          clear hcell hfr ho
          go_wp2
          go_roundw
          case rel =>
            refine ⟨3, rfl, by omega, he.set_ (Nat.le_refl _) _, ?_⟩
            have hL : (List.replicate (8 - 2) 0 ++ bg 2 n).set 5 (n / 65536 % 256) = List.replicate (8 - 3) 0 ++ bg 3 n := by simp [bg]
            rw [← hL]
            exact HO.out.put (j := 5) (x := n / 65536 % 256) (by simp [bg]) (wf_u8 (by omega) (by omega))
          case measure => simp [intOf]
        · obtain ⟨g, c, hv, _, _, _, _, hcell, hfr⟩ := ho.parts (by simp [bg])
          have hv1 : g = w.heap.size := by
            injection hv with a _ _
            injection a with a
            injection a with a
            exact a.symm
          clear hv
          subst hv1
          obtain ⟨z, hc⟩ : ∃ z, wr.cell? ⟨w.heap.size, 4, none⟩ = some z := ⟨_, hcell 4 (by simp [bg])⟩
          have hz := hfr 4
          have HO := Lib.hid ho
          clear hcell hfr ho
          go_wp2
          go_roundw
          case rel =>
            refine ⟨4, rfl, by omega, he.set_ (Nat.le_refl _) _, ?_⟩
            have hL : (List.replicate (8 - 3) 0 ++ bg 3 n).set 4 (n / 16777216 % 256) = List.replicate (8 - 4) 0 ++ bg 4 n := by simp [bg]
            rw [← hL]
            exact HO.out.put (j := 4) (x := n / 16777216 % 256) (by simp [bg]) (wf_u8 (by omega) (by omega))
          case measure => simp [intOf]
        · obtain ⟨g, c, hv, _, _, _, _, hcell, hfr⟩ := ho.parts (by simp [bg])
          have hv1 : g = w.heap.size := by
            injection hv with a _ _
            injection a with a
            injection a with a
            exact a.symm
          clear hv
          subst hv1
          obtain ⟨z, hc⟩ : ∃ z, wr.cell? ⟨w.heap.size, 3, none⟩ = some z := ⟨_, hcell 3 (by simp [bg])⟩
          have hz := hfr 3
          have HO := Lib.hid ho
          clear hcell hfr ho
          go_wp2
          go_roundw
          case rel =>
            refine ⟨5, rfl, by omega, he.set_ (Nat.le_refl _) _, ?_⟩
            have hL : (List.replicate (8 - 4) 0 ++ bg 4 n).set 3 (n / 4294967296 % 256) = List.replicate (8 - 5) 0 ++ bg 5 n := by simp [bg]
            rw [← hL]
            exact HO.out.put (j := 3) (x := n / 4294967296 % 256) (by simp [bg]) (wf_u8 (by omega) (by omega))
          case measure => simp [intOf]
        · obtain ⟨g, c, hv, _, _, _, _, hcell, hfr⟩ := ho.parts (by simp [bg])
          have hv1 : g = w.heap.size := by
            injection hv with a _ _
            injection a with a
            injection a with a
            exact a.symm
          clear hv
          subst hv1
          obtain ⟨z, hc⟩ : ∃ z, wr.cell? ⟨w.heap.size, 2, none⟩ = some z := ⟨_, hcell 2 (by simp [bg])⟩
          have hz := hfr 2
          have HO := Lib.hid ho
          clear hcell hfr ho
          go_wp2
          go_roundw
          case rel =>
            refine ⟨6, rfl, by omega, he.set_ (Nat.le_refl _) _, ?_⟩
            have hL : (List.replicate (8 - 5) 0 ++ bg 5 n).set 2 (n / 1099511627776 % 256) = List.replicate (8 - 6) 0 ++ bg 6 n := by simp [bg]
            rw [← hL]
            exact HO.out.put (j := 2) (x := n / 1099511627776 % 256) (by simp [bg]) (wf_u8 (by omega) (by omega))
          case measure => simp [intOf]
        · obtain ⟨g, c, hv, _, _, _, _, hcell, hfr⟩ := ho.parts (by simp [bg])
          have hv1 : g = w.heap.size := by
            injection hv with a _ _
            injection a with a
            injection a with a
            exact a.symm
          clear hv
          subst hv1
          obtain ⟨z, hc⟩ : ∃ z, wr.cell? ⟨w.heap.size, 1, none⟩ = some z := ⟨_, hcell 1 (by simp [bg])⟩
          have hz := hfr 1
          have HO := Lib.hid ho
          clear hcell hfr ho
          go_wp2
          go_roundw
          case rel =>
            refine ⟨7, rfl, by omega, he.set_ (Nat.le_refl _) _, ?_⟩
            have hL : (List.replicate (8 - 6) 0 ++ bg 6 n).set 1 (n / 281474976710656 % 256) = List.replicate (8 - 7) 0 ++ bg 7 n := by simp [bg]
            rw [← hL]
            exact HO.out.put (j := 1) (x := n / 281474976710656 % 256) (by simp [bg]) (wf_u8 (by omega) (by omega))
          case measure => simp [intOf]
        · obtain ⟨g, c, hv, _, _, _, _, hcell, hfr⟩ := ho.parts (by simp [bg])
          have hv1 : g = w.heap.size := by
            injection hv with a _ _
            injection a with a
            injection a with a
            exact a.symm
          clear hv
          subst hv1
          obtain ⟨z, hc⟩ : ∃ z, wr.cell? ⟨w.heap.size, 0, none⟩ = some z := ⟨_, hcell 0 (by simp [bg])⟩
          have hz := hfr 0
          have HO := Lib.hid ho
          clear hcell hfr ho
          go_wp2
          go_roundw
          case rel =>
            refine ⟨8, rfl, by omega, he.set_ (Nat.le_refl _) _, ?_⟩
            have hL : (List.replicate (8 - 7) 0 ++ bg 7 n).set 0 (n / 72057594037927936 % 256) = List.replicate (8 - 8) 0 ++ bg 8 n := by simp [bg]
            rw [← hL]
            exact HO.out.put (j := 0) (x := n / 72057594037927936 % 256) (by simp [bg]) (wf_u8 (by omega) (by omega))
          case measure => simp [intOf]
      · have hks : k = 8 := by omega
        subst hks
        go_wp2
        go_ret2
        exact Ret.mk ⟨_, rfl, by simpa using ho⟩ he
  · have e : bS n 8 = ([], 9) := by unfold bS; rw [if_neg (by omega), if_neg hf]
    rw [e]
    clear e
    exact absurd (by simp [ftB]) hf

theorem refBig_any (n size : Int) (w : World) (hl : -9223372036854775808 ≤ n) (hh : n ≤ 9223372036854775807) (hsl : -9223372036854775808 ≤ size) (hsh : size ≤ 9223372036854775807) :
    Calls Try.prog 25 #[.int .i64 n, .int .i64 size] w (Ret w (RowErr w (bS n size).1 (bS n size).2)) := by
  by_cases h : size < 1 ∨ 8 < size
  · have e : bS n size = ([], 2) := by unfold bS; rw [if_pos h]
    rw [e]
    clear e
    by_cases h1 : size < 1
    · go_enter Try.func25, Try.ntmps25
      go_wp2
      go_ret2
      exact Ret.mk ⟨_, rfl, Own.nil _ _ _ _⟩ (Ext.refl _)
    · have h2 : 8 < size := by omega
      clear h
      go_enter Try.func25, Try.ntmps25
      go_wp2
      go_ret2
      exact Ret.mk ⟨_, rfl, Own.nil _ _ _ _⟩ (Ext.refl _)
  · have hs : size = 1 ∨ size = 2 ∨ size = 3 ∨ size = 4 ∨ size = 5 ∨ size = 6 ∨ size = 7 ∨ size = 8 := by omega
    rcases hs with rfl | rfl | rfl | rfl | rfl | rfl | rfl | rfl
    · exact refBig_1 n w hl hh
    · exact refBig_2 n w hl hh
    · exact refBig_3 n w hl hh
    · exact refBig_4 n w hl hh
    · exact refBig_5 n w hl hh
    · exact refBig_6 n w hl hh
    · exact refBig_7 n w hl hh
    · exact refBig_8 n w hl hh

theorem add_u8 (x : Int) (h0 : 0 ≤ x) (h1 : x < 256) : (Lit.int .u8 ((x + 1) % 256)).wf = true := wf_u8 (by omega) (by omega)
theorem spoil_any (v : Value) (l : List Int) (B : Nat) (w : World) (ho : Own B w 5 .u8 v l) :
    Calls Try.prog 22 #[v] w fun e w' => e = .returned (.tuple #[]) ∧ w.grownBy w' v.ownBlock := by
  by_cases hl : 0 < l.length
  · obtain ⟨g, c, hv, hB, hg, hc, hm, _, _⟩ := ho.parts hl
    subst hv
    unfold maxLen at hm
    obtain ⟨n, hn⟩ : ∃ n, n = l.length := ⟨_, rfl⟩
    rw [← hn] at ho hc hl
    rw [← hn]
    have Hn := Lib.hid hn
    clear hn
    go_enter Try.func22, Try.ntmps22
    go_wp2
    go_loopw [2] (fun i wr => ∃ (k : Nat) (m : List Int), i = .int .i64 k ∧ k ≤ n ∧ Hid (m.length = n) ∧ Own B wr 5 .u8 (.slice (some ⟨g, 0, none⟩) n c) m ∧ w.grownBy wr (some g)) (fun i _ => n - (intOf i).toNat)
    case atStart => exact ⟨0, l, rfl, by omega, Hn.out.symm, ho, World.grownBy.refl _ _⟩
    case round =>
      obtain ⟨k, m, rfl, hk, HM, hom, hgr⟩ := hrel
      by_cases hlt : k < n
      · obtain ⟨g', c', hv, _, _, _, _, hcell, hfr⟩ := hom.parts (by have := HM.out; omega)
        have hg1 : g' = g := by
          injection hv with a _ _
          injection a with a
          injection a with a
          exact a.symm
        clear hv
        subst hg1
        have hy := hcell k (by have := HM.out; omega)
        have hz := hfr k
        have hf := hom.2.u8 (gi_mem (l := m) (j := k) (by have := HM.out; omega))
        have HO := Lib.hid hom
        have HG := Lib.hid hgr
        clear hcell hfr hom hgr ho
        go_wp2
        go_roundw
        case rel =>
          refine ⟨k + 1, m.set k ((gi m k + 1) % 256), by go_num, by omega, by rw [Hid, List.length_set]; exact HM.out, ?_, only_set HG.out _ _⟩
          exact HO.out.put (j := k) (x := (gi m k + 1) % 256) (by have := HM.out; omega) (add_u8 _ hf.1 hf.2)
        case measure => simp [intOf]; omega
      · have HG := Lib.hid hgr
        clear hgr hom ho
        go_wp2
        go_end0
        exact ⟨rfl, HG.out⟩
  · obtain ⟨A, c, rfl, h2, h3, _⟩ := ho.row
    have hl0 : l = [] := List.eq_nil_of_length_eq_zero (by omega)
    subst hl0
    unfold maxLen at h3
    clear ho hl
    go_enter Try.func22, Try.ntmps22
    go_wp2
    go_loop [2] (fun i => i = .int .i64 0) (fun _ => 0)
    case atStart => exact rfl
    case round =>
      obtain rfl := hrel
      go_wp2
      go_end0
      exact ⟨rfl, World.grownBy.refl _ _⟩
end Go.Proofs.Ytdjfdigaokokbaa
