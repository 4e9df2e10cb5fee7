/- The document's own answers of instructions: two lists of ints, two instructions, a number's bytes. -/
import Derived.Test.YthobicnhophdlaaOpsA
import Derived.Test.YthobicnhophdlaaEq0
import Derived.LoopN
import Derived.BigQuiet
import Derived.Deep.QuietTactic
namespace Go.Proofs.Ythobicnhophdlaa
open Go.RowKit
set_option linter.unusedVariables false

theorem take_one {l : List Int} {k : Nat} (h : k < l.length) : l.take (k + 1) = l.take k ++ [gi l k] := by
  rw [List.take_succ_eq_append_getElem h]
  simp [gi, h]
theorem ret_bb {b c : Bool} (h : b = c) : Ending.returned (.bool b) = .returned (.bool c) := by rw [h]
set_option maxHeartbeats 2000000 in
theorem refints_any (v1 v2 : Value) (l1 l2 : List Int) (w : World) (h1 : Row w .i64 v1 l1) (h2 : Row w .i64 v2 l2) :
    Calls Try.prog 24 #[v1, v2] w fun e w' => e = .returned (.bool (decide (l1 = l2))) ∧ ∃ m, w' = w.drewN m := by
  obtain ⟨A1, c1, rfl, hc1, hm1, ha1, hf1, hg1⟩ := h1
  obtain ⟨A2, c2, rfl, hc2, hm2, ha2, hf2, hg2⟩ := h2
  unfold maxLen at hm1 hm2
  by_cases hl : l1.length = l2.length
  · obtain ⟨n, hn⟩ : ∃ n, n = l1.length := ⟨_, rfl⟩
    rw [← hn] at hc1 hg1 ⊢
    rw [← hl, ← hn] at hc2 hg2 ⊢
    have Hn := Lib.hid hn
    have Hl := Lib.hid hl
    clear hn hl ha1 ha2 hf1 hf2
    go_enter Try.func24, Try.ntmps24
    go_wp2
    go_loopw [5] (fun i wr => ∃ k m : Nat, k ≤ n ∧ i = .int .i64 k ∧ wr = w.drewN m ∧ Hid (l1.take k = l2.take k)) (fun i _ => n - (intOf i).toNat)
    case atStart => exact ⟨0, 0, by omega, rfl, rfl, Lib.hid rfl⟩
    case round =>
      obtain ⟨k, m, hk, rfl, rfl, Ht⟩ := hrel
      by_cases hlt : k < n
      · obtain ⟨b1, o1, rfl, hb1, hx1⟩ := hg1 (by omega)
        obtain ⟨b2, o2, rfl, hb2, hx2⟩ := hg2 (by omega)
        have y0 := hx1 k hlt
        have u0 := hx2 k hlt
        clear hx1 hx2
        by_cases he : gi l1 k = gi l2 k
        · have HE := Lib.hid he
          rw [he] at y0
          clear he
          go_wp2
          go_quiet (fail)
          go_wp2
          refine ⟨⟨k + 1, m + nq, by omega, by go_num, rfl, Lib.hid ?_⟩, by simp [intOf]; omega⟩
          rw [take_one (by have := Hn.out; omega), take_one (by have := Hn.out; have := Hl.out; omega), Ht.out, HE.out]
        · have hne : (gi l1 k != gi l2 k) = true := by simpa using he
          have HE := Lib.hid (show decide (l1 = l2) = false by simp only [decide_eq_false_iff_not]; exact fun e => he (by rw [e]))
          clear he
          go_wp2
          go_quiet (fail)
          go_wp2
          go_ret
          exact ⟨ret_bb HE.out.symm, _, World.drewN_drewN _ _ _⟩
      · obtain rfl : k = n := by omega
        go_wp2
        go_ret
        refine ⟨ret_bb ?_, _, rfl⟩
        have := Ht.out
        rw [Hn.out] at this
        rw [List.take_length, Hl.out, List.take_length] at this
        exact (decide_eq_true this).symm
  · have hb : ((l1.length : Int) != (l2.length : Int)) = true := by simp; omega
    rw [show decide (l1 = l2) = false by simp only [decide_eq_false_iff_not]; exact fun e => hl (by rw [e])]
    clear hg1 hg2 hl ha1 ha2 hf1 hf2
    go_enter Try.func24, Try.ntmps24
    go_wp2
    go_ret
    exact ⟨rfl, 0, rfl⟩
/-- A number's bytes, written behind a row of the call's own. -/
def Wrote (B : Nat) (w : World) (l : List Int) (e : Ending) (w' : World) : Prop := ∃ v, e = .returned v ∧ Own B w' 5 .u8 v l ∧ Below B w w'
theorem below_grown {B : Nat} {w w' : World} {v : Value} {l : List Int} (h : w.grownBy w' v.ownBlock) (ho : Own B w 5 .u8 v l) (hB : B ≤ w.heap.size) : Below B w w' := (Below.refl B w).grown h hB ho.low
end Go.Proofs.Ythobicnhophdlaa
