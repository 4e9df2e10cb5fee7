/- Zeros made, bytes laid behind them: for the laws that move an instruction's bytes. -/
import Derived.Test.YtcgajgileehbbaaOpsEn
import Derived.Test.YtcgajgileehbbaaOpsDe
namespace Go.Proofs.Ytcgajgileehbbaa
open Go.RowKit
set_option linter.unusedVariables false

/-- So many zeros, as cells. -/
def ZC (n : Nat) : Array Value := madeCells (Value.int .u8 0).cells (n * 1)
theorem run_zeros (n : Nat) (h : n ≤ 1000000) (W : World) : (Instr.makeSlice 22 (.int .i64 n) (.int .i64 n)).run Try.prog W = .ok (.slice (some ⟨W.heap.size, 0, none⟩) n n) (W.alloc (.cells (ZC n) 5)) := by
  obtain ⟨i, hi1, hi2, hi3, hi4⟩ := info_parts info8
  have hr := run_make (P := Try.prog) W 22 5 i (.int .u8 0) Try.underlying22 hi1 hi2 .i64 .i64 n n (by omega) (Int.le_refl _) (by rw [hi4]; omega) (by omega)
  rw [hi3, Int.toNat_natCast] at hr
  exact hr
theorem own_zeros (B : Nat) (W : World) (n : Nat) (h : n ≤ 1000000) (hB : B ≤ W.heap.size) : Own B (W.alloc (.cells (ZC n) 5)) 5 .u8 (.slice (some ⟨W.heap.size, 0, none⟩) n n) (List.replicate n 0) := by
  have e1 : (ZC n).toList = (List.replicate n 0).map (Value.int .u8) := by
    rw [List.map_replicate]
    apply List.ext_getElem
    · simp [ZC, madeCells]
    · intro j h1 h2
      simp [ZC, madeCells, Value.cells, Nat.mod_one]
  have hs : (ZC n).size = n := by simp [ZC, size_madeCells]
  refine ⟨⟨by simp, .inr ⟨W.heap.size, n, ZC n, by simp, hB, heap_alloc_new W _, by simp, by simp only [maxLen]; omega, by omega, ?_⟩⟩, fun x hx => ?_⟩
  · rw [List.length_replicate, Nat.mul_one, ← e1, List.take_of_length_le]
    simp [hs]
  · rw [List.eq_of_mem_replicate hx]
    decide
theorem own_zeros2 (B : Nat) (W : World) (A : Obj) (n : Nat) (h : n ≤ 1000000) (hB : B ≤ W.heap.size) : Own B ((W.alloc A).alloc (.cells (ZC n) 5)) 5 .u8 (.slice (some ⟨W.heap.size + 1, 0, none⟩) n n) (List.replicate n 0) := by
  have h := own_zeros B (W.alloc A) n h (by simp; omega)
  rwa [show (W.alloc A).heap.size = W.heap.size + 1 by simp] at h
/-- Decoded where it stands behind zeros. -/
theorem dec_zeros {x : In} (h : mayI x = true) {n : Nat} (hn : x.a = n) (r : List Int) : opsDec (List.replicate n 0 ++ encB x ++ r) x.a = (x, x.a + (encB x).length, 0) := by
  rw [List.append_assoc]
  exact dec_enc h _ _ (by simp [hn])
/-- Cut behind zeros: too short. -/
theorem dec_short {x : In} (h : mayI x = true) {n : Nat} (hn : x.a = n) {k : Nat} (h1 : 1 ≤ k) (h2 : k < (encB x).length) : opsDec (List.replicate n 0 ++ (encB x).take k) x.a = (i0, 0, 3) := by
  have ha := (may_parts h).1
  have hd : (List.replicate n (0 : Int) ++ (encB x).take k).drop x.a.toNat = (encB x).take k := by rw [hn]; simp
  unfold opsDec
  rw [if_neg (by simp; omega), hd]
  unfold encB at h2 ⊢
  obtain ⟨j, rfl⟩ : ∃ j, k = j + 1 := ⟨k - 1, by omega⟩
  rw [List.take_succ_cons]
  simp only
  rw [if_neg (by omega), body_cut h (List.take_append_drop j (tailB x)) (fun e => by
    have := congrArg List.length e
    simp at this h2
    omega)]
theorem encB_len {x : In} (h : mayI x = true) : 1 ≤ (encB x).length ∧ (encB x).length ≤ 10000 := by
  obtain ⟨-, -, hf, -⟩ := may_parts h
  have hz : shapeZ x.o = 0 ∨ shapeZ x.o = 1 ∨ shapeZ x.o = 2 ∨ shapeZ x.o = 3 ∨ shapeZ x.o = 4 ∨ shapeZ x.o = 5 ∨ shapeZ x.o = 6 ∨ shapeZ x.o = 7 := by
    have := shapeZ_le x.o
    omega
  unfold encB tailB
  rcases hz with hz | hz | hz | hz | hz | hz | hz | hz
  · simp [hz]
  · simp [hz, be1]
  · simp [hz, be2]
  · simp [hz, be2]
  · simp [hz, be2]
  · simp [hz, be1]
  · have := f_6 hf hz
    simp [hz, be2, be4, tos_len]
    omega
  · have := f_7 hf hz
    have hk := kts_len (a := x.a) x.ks x.to.tail (by simp; omega)
    simp [hz, be2, hk]
    omega
end Go.Proofs.Ytcgajgileehbbaa
