/- The document's own answers of instructions: two lists of ints, two instructions, a number's bytes. -/
import Derived.Test.YtcgajgileehbbaaOpsA
import Derived.Test.YtcgajgileehbbaaEq0
import Derived.LoopN
import Derived.BigQuiet
import Derived.Deep.QuietTactic
namespace Go.Proofs.Ytcgajgileehbbaa
open Go.RowKit
set_option linter.unusedVariables false

theorem take_one {l : List Int} {k : Nat} (h : k < l.length) : l.take (k + 1) = l.take k ++ [gi l k] := by
  rw [List.take_succ_eq_append_getElem h]
  simp [gi, h]
theorem ret_bb {b c : Bool} (h : b = c) : Ending.returned (.bool b) = .returned (.bool c) := by rw [h]
set_option maxHeartbeats 2000000 in
theorem refints_any (v1 v2 : Value) (l1 l2 : List Int) (w : World) (h1 : Row w .i64 v1 l1) (h2 : Row w .i64 v2 l2) :
    Calls Try.prog 61 #[v1, v2] w fun e w' => e = .returned (.bool (decide (l1 = l2))) ∧ ∃ m, w' = w.drewN m := by
  obtain ⟨A1, c1, rfl, hc1, hm1, ha1, hf1, hg1⟩ := h1
  obtain ⟨A2, c2, rfl, hc2, hm2, ha2, hf2, hg2⟩ := h2
  unfold maxLen at hm1 hm2
  by_cases hl : l1.length = l2.length
  · obtain ⟨n, hn⟩ : ∃ n, n = l1.length := ⟨_, rfl⟩
    rw [← hn] at hc1 hg1 ⊢
    rw [← hl, ← hn] at hc2 hg2 ⊢
    have Hn := Lib.hid hn
    have Hl := Lib.hid hl
    clear hn hl ha1 ha2 hf1 hf2
    go_enter Try.func61, Try.ntmps61
    go_wp2
    go_loopw [5] (fun i wr => ∃ k m : Nat, k ≤ n ∧ i = .int .i64 k ∧ wr = w.drewN m ∧ Hid (l1.take k = l2.take k)) (fun i _ => n - (intOf i).toNat)
    case atStart => exact ⟨0, 0, by omega, rfl, rfl, Lib.hid rfl⟩
    case round =>
      obtain ⟨k, m, hk, rfl, rfl, Ht⟩ := hrel
      by_cases hlt : k < n
      · obtain ⟨b1, o1, rfl, hb1, hx1⟩ := hg1 (by omega)
        obtain ⟨b2, o2, rfl, hb2, hx2⟩ := hg2 (by omega)
        have y0 := hx1 k hlt
        have u0 := hx2 k hlt
        clear hx1 hx2
        by_cases he : gi l1 k = gi l2 k
        · have HE := Lib.hid he
          rw [he] at y0
          clear he
          go_wp2
          go_quiet (fail)
          go_wp2
          refine ⟨⟨k + 1, m + nq, by omega, by go_num, rfl, Lib.hid ?_⟩, by simp [intOf]; omega⟩
          rw [take_one (by have := Hn.out; omega), take_one (by have := Hn.out; have := Hl.out; omega), Ht.out, HE.out]
        · have hne : (gi l1 k != gi l2 k) = true := by simpa using he
          have HE := Lib.hid (show decide (l1 = l2) = false by simp only [decide_eq_false_iff_not]; exact fun e => he (by rw [e]))
          clear he
          go_wp2
          go_quiet (fail)
          go_wp2
          go_ret
          exact ⟨ret_bb HE.out.symm, _, World.drewN_drewN _ _ _⟩
      · obtain rfl : k = n := by omega
        go_wp2
        go_ret
        refine ⟨ret_bb ?_, _, rfl⟩
        have := Ht.out
        rw [Hn.out] at this
        rw [List.take_length, Hl.out, List.take_length] at this
        exact (decide_eq_true this).symm
  · have hb : ((l1.length : Int) != (l2.length : Int)) = true := by simp; omega
    rw [show decide (l1 = l2) = false by simp only [decide_eq_false_iff_not]; exact fun e => hl (by rw [e])]
    clear hg1 hg2 hl ha1 ha2 hf1 hf2
    go_enter Try.func61, Try.ntmps61
    go_wp2
    go_ret
    exact ⟨rfl, 0, rfl⟩
/-- A number's bytes, written behind a row of the call's own. -/
def Wrote (B : Nat) (w : World) (l : List Int) (e : Ending) (w' : World) : Prop := ∃ v, e = .returned v ∧ Own B w' 5 .u8 v l ∧ Below B w w'
theorem below_grown {B : Nat} {w w' : World} {v : Value} {l : List Int} (h : w.grownBy w' v.ownBlock) (ho : Own B w 5 .u8 v l) (hB : B ≤ w.heap.size) : Below B w w' := (Below.refl B w).grown h hB ho.low
set_option maxHeartbeats 1000000 in
theorem refnumber1_any (B : Nat) (v : Value) (l : List Int) (n : Int) (w : World) (h : Own B w 5 .u8 v l) (hB : B ≤ w.heap.size) (hl : l.length ≤ 100000) :
    Calls Try.prog 62 #[v, .int .i64 n, .int .i64 1] w (Wrote B w (l ++ be1 n)) := by
  unfold Wrote
  have hw0 : (Lit.int .u8 (n % 256)).wf = true := wf_u8 (by omega) (by omega)
  have HO0 := Lib.hid h
  have X0 := Lib.hid (Below.refl B w)
  have hs0 : B ≤ w.heap.size := hB
  clear h
  go_enter Try.func62, Try.ntmps62
  go_wp2
  refine wp_loop_rounds 2 ?_
  rw [rounds_succ]
  go_wp2_with (at_builtin; go_loud (refine wpList_app _ rfl _ _ B 22 5 _ 1 .u8 rfl Try.underlying22 info8 rfl (by omega) v (l) rfl (HO0.out.ext ((Ext.refl _).alloc _)) _ [n % 256] rfl (Row.built1 _ .u8 _ _ hw0) (by simp only [List.length_cons, List.length_nil]; omega) (by simp; omega) ?_); intro v1 w1 ho1 hg1 hb1)
  have X1 := Lib.hid (X0.out.trans (((Below.refl B _).alloc hs0 _).grown hg1 (by simp; omega) (HO0.out.low)))
  have hs1 : B ≤ w1.heap.size := by have := X1.out.size; omega
  have HO1 := Lib.hid ho1
  clear ho1 hg1 hb1
  rw [rounds_succ]
  go_wp2
  go_ret
  exact ⟨v1, rfl, by simpa [be1] using HO1.out, X1.out⟩
set_option maxHeartbeats 1000000 in
theorem refnumber2_any (B : Nat) (v : Value) (l : List Int) (n : Int) (w : World) (h : Own B w 5 .u8 v l) (hB : B ≤ w.heap.size) (hl : l.length ≤ 100000) :
    Calls Try.prog 62 #[v, .int .i64 n, .int .i64 2] w (Wrote B w (l ++ be2 n)) := by
  unfold Wrote
  have hw0 : (Lit.int .u8 (n % 256)).wf = true := wf_u8 (by omega) (by omega)
  have hw1 : (Lit.int .u8 (n / 256 % 256)).wf = true := wf_u8 (by omega) (by omega)
  have HO0 := Lib.hid h
  have X0 := Lib.hid (Below.refl B w)
  have hs0 : B ≤ w.heap.size := hB
  clear h
  go_enter Try.func62, Try.ntmps62
  go_wp2
  refine wp_loop_rounds 3 ?_
  rw [rounds_succ]
  go_wp2_with (at_builtin; go_loud (refine wpList_app _ rfl _ _ B 22 5 _ 1 .u8 rfl Try.underlying22 info8 rfl (by omega) v (l) rfl (HO0.out.ext ((Ext.refl _).alloc _)) _ [n / 256 % 256] rfl (Row.built1 _ .u8 _ _ hw1) (by simp only [List.length_cons, List.length_nil]; omega) (by simp; omega) ?_); intro v1 w1 ho1 hg1 hb1)
  have X1 := Lib.hid (X0.out.trans (((Below.refl B _).alloc hs0 _).grown hg1 (by simp; omega) (HO0.out.low)))
  have hs1 : B ≤ w1.heap.size := by have := X1.out.size; omega
  have HO1 := Lib.hid ho1
  clear ho1 hg1 hb1
  rw [rounds_succ]
  go_wp2_with (at_builtin; go_loud (refine wpList_app _ rfl _ _ B 22 5 _ 1 .u8 rfl Try.underlying22 info8 rfl (by omega) v1 (l ++ [n / 256 % 256]) rfl (HO1.out.ext ((Ext.refl _).alloc _)) _ [n % 256] rfl (Row.built1 _ .u8 _ _ hw0) (by simp only [List.length_append, List.length_cons, List.length_nil]; omega) (by simp; omega) ?_); intro v2 w2 ho2 hg2 hb2)
  have X2 := Lib.hid (X1.out.trans (((Below.refl B _).alloc hs1 _).grown hg2 (by simp; omega) (HO1.out.low)))
  have hs2 : B ≤ w2.heap.size := by have := X2.out.size; omega
  have HO2 := Lib.hid ho2
  clear ho2 hg2 hb2
  rw [rounds_succ]
  go_wp2
  go_ret
  exact ⟨v2, rfl, by simpa [be2] using HO2.out, X2.out⟩
set_option maxHeartbeats 1000000 in
theorem refnumber4_any (B : Nat) (v : Value) (l : List Int) (n : Int) (w : World) (h : Own B w 5 .u8 v l) (hB : B ≤ w.heap.size) (hl : l.length ≤ 100000) :
    Calls Try.prog 62 #[v, .int .i64 n, .int .i64 4] w (Wrote B w (l ++ be4 n)) := by
  unfold Wrote
  have hw0 : (Lit.int .u8 (n % 256)).wf = true := wf_u8 (by omega) (by omega)
  have hw1 : (Lit.int .u8 (n / 256 % 256)).wf = true := wf_u8 (by omega) (by omega)
  have hw2 : (Lit.int .u8 (n / 65536 % 256)).wf = true := wf_u8 (by omega) (by omega)
  have hw3 : (Lit.int .u8 (n / 16777216 % 256)).wf = true := wf_u8 (by omega) (by omega)
  have HO0 := Lib.hid h
  have X0 := Lib.hid (Below.refl B w)
  have hs0 : B ≤ w.heap.size := hB
  clear h
  go_enter Try.func62, Try.ntmps62
  go_wp2
  refine wp_loop_rounds 5 ?_
  rw [rounds_succ]
  go_wp2_with (at_builtin; go_loud (refine wpList_app _ rfl _ _ B 22 5 _ 1 .u8 rfl Try.underlying22 info8 rfl (by omega) v (l) rfl (HO0.out.ext ((Ext.refl _).alloc _)) _ [n / 16777216 % 256] rfl (Row.built1 _ .u8 _ _ hw3) (by simp only [List.length_cons, List.length_nil]; omega) (by simp; omega) ?_); intro v1 w1 ho1 hg1 hb1)
  have X1 := Lib.hid (X0.out.trans (((Below.refl B _).alloc hs0 _).grown hg1 (by simp; omega) (HO0.out.low)))
  have hs1 : B ≤ w1.heap.size := by have := X1.out.size; omega
  have HO1 := Lib.hid ho1
  clear ho1 hg1 hb1
  rw [rounds_succ]
  go_wp2_with (at_builtin; go_loud (refine wpList_app _ rfl _ _ B 22 5 _ 1 .u8 rfl Try.underlying22 info8 rfl (by omega) v1 (l ++ [n / 16777216 % 256]) rfl (HO1.out.ext ((Ext.refl _).alloc _)) _ [n / 65536 % 256] rfl (Row.built1 _ .u8 _ _ hw2) (by simp only [List.length_append, List.length_cons, List.length_nil]; omega) (by simp; omega) ?_); intro v2 w2 ho2 hg2 hb2)
  have X2 := Lib.hid (X1.out.trans (((Below.refl B _).alloc hs1 _).grown hg2 (by simp; omega) (HO1.out.low)))
  have hs2 : B ≤ w2.heap.size := by have := X2.out.size; omega
  have HO2 := Lib.hid ho2
  clear ho2 hg2 hb2
  rw [rounds_succ]
  go_wp2_with (at_builtin; go_loud (refine wpList_app _ rfl _ _ B 22 5 _ 1 .u8 rfl Try.underlying22 info8 rfl (by omega) v2 (l ++ [n / 16777216 % 256] ++ [n / 65536 % 256]) rfl (HO2.out.ext ((Ext.refl _).alloc _)) _ [n / 256 % 256] rfl (Row.built1 _ .u8 _ _ hw1) (by simp only [List.length_append, List.length_cons, List.length_nil]; omega) (by simp; omega) ?_); intro v3 w3 ho3 hg3 hb3)
  have X3 := Lib.hid (X2.out.trans (((Below.refl B _).alloc hs2 _).grown hg3 (by simp; omega) (HO2.out.low)))
  have hs3 : B ≤ w3.heap.size := by have := X3.out.size; omega
  have HO3 := Lib.hid ho3
  clear ho3 hg3 hb3
  rw [rounds_succ]
  go_wp2_with (at_builtin; go_loud (refine wpList_app _ rfl _ _ B 22 5 _ 1 .u8 rfl Try.underlying22 info8 rfl (by omega) v3 (l ++ [n / 16777216 % 256] ++ [n / 65536 % 256] ++ [n / 256 % 256]) rfl (HO3.out.ext ((Ext.refl _).alloc _)) _ [n % 256] rfl (Row.built1 _ .u8 _ _ hw0) (by simp only [List.length_append, List.length_cons, List.length_nil]; omega) (by simp; omega) ?_); intro v4 w4 ho4 hg4 hb4)
  have X4 := Lib.hid (X3.out.trans (((Below.refl B _).alloc hs3 _).grown hg4 (by simp; omega) (HO3.out.low)))
  have hs4 : B ≤ w4.heap.size := by have := X4.out.size; omega
  have HO4 := Lib.hid ho4
  clear ho4 hg4 hb4
  rw [rounds_succ]
  go_wp2
  go_ret
  exact ⟨v4, rfl, by simpa [be4] using HO4.out, X4.out⟩
end Go.Proofs.Ytcgajgileehbbaa
