/- The document's own answers of instructions, the leaves: shapes, which end, ints, places. -/
import Derived.Test.YtcgajgileehbbaaOpsSpec
import Derived.Test.YtcgajgileehbbaaProg
import Derived.Laws.StructEq
import Derived.RegionTactic
namespace Go.Proofs.Ytcgajgileehbbaa
open Go.RowKit
set_option linter.unusedVariables false

/-- An instruction's cells: its four numbers, and the slices that read as its lists. -/
def In.vals (x : In) (v1 v2 : Value) : Array Value := #[.int .i64 x.a, .int .i64 x.o, .int .i64 x.n, .int .i64 x.m, v1, v2]
theorem refShape_any (o : Int) (w : World) : Calls Try.prog 57 #[.int .i64 o] w fun e w' => e = .returned (.int .i64 (shapeZ o)) ∧ w' = w := by
  have H : (o ≤ 0) ∨ (o = 1) ∨ (o = 2) ∨ (o = 3) ∨ (o = 4) ∨ (5 ≤ o ∧ o ≤ 10) ∨ (o = 11) ∨ (12 ≤ o ∧ o ≤ 41) ∨ (42 ≤ o ∧ o ≤ 58) ∨ (o = 59) ∨ (o = 60) ∨ (61 ≤ o ∧ o ≤ 65) ∨ (66 ≤ o ∧ o ≤ 67) ∨ (o = 68) ∨ (69 ≤ o ∧ o ≤ 75) ∨ (o = 76) ∨ (o = 77) ∨ (o = 78) ∨ (79 ≤ o ∧ o ≤ 82) ∨ (83 ≤ o) := by omega
  rcases H with h | rfl | rfl | rfl | rfl | ⟨h, h'⟩ | rfl | ⟨h, h'⟩ | ⟨h, h'⟩ | rfl | rfl | ⟨h, h'⟩ | ⟨h, h'⟩ | rfl | ⟨h, h'⟩ | rfl | rfl | rfl | ⟨h, h'⟩ | h
  · have hv : shapeZ o = 0 := by
      unfold shapeZ
      repeat' split
      all_goals omega
    rw [hv]
    have g0 : o < 5 := by omega
    have g1 : o < 61 := by omega
    have g2 : o < 79 := by omega
    have g3 : o < 42 := by omega
    have l0 : o ≤ 10 := by omega
    have l1 : o ≤ 65 := by omega
    have l2 : o ≤ 82 := by omega
    have l3 : o ≤ 58 := by omega
    have q0 : (o == 1) = false := by rw [beq_eq_false_iff_ne]; omega
    have q1 : (o == 2) = false := by rw [beq_eq_false_iff_ne]; omega
    have q2 : (o == 3) = false := by rw [beq_eq_false_iff_ne]; omega
    have q3 : (o == 68) = false := by rw [beq_eq_false_iff_ne]; omega
    have q4 : (o == 76) = false := by rw [beq_eq_false_iff_ne]; omega
    have q5 : (o == 77) = false := by rw [beq_eq_false_iff_ne]; omega
    have q6 : (o == 11) = false := by rw [beq_eq_false_iff_ne]; omega
    have q7 : (o == 59) = false := by rw [beq_eq_false_iff_ne]; omega
    have q8 : (o == 60) = false := by rw [beq_eq_false_iff_ne]; omega
    clear hv h
    go_enter Try.func57, Try.ntmps57
    go_wp2
    go_ret
    exact ⟨rfl, rfl⟩
  · go_enter Try.func57, Try.ntmps57
    go_wp2
    go_ret
    exact ⟨rfl, rfl⟩
  · go_enter Try.func57, Try.ntmps57
    go_wp2
    go_ret
    exact ⟨rfl, rfl⟩
  · go_enter Try.func57, Try.ntmps57
    go_wp2
    go_ret
    exact ⟨rfl, rfl⟩
  · go_enter Try.func57, Try.ntmps57
    go_wp2
    go_ret
    exact ⟨rfl, rfl⟩
  · have hv : shapeZ o = 1 := by
      unfold shapeZ
      repeat' split
      all_goals omega
    rw [hv]
    have g0 : (5 : Int) ≤ o := by omega
    have g1 : o < 61 := by omega
    have g2 : o < 79 := by omega
    have g3 : o < 42 := by omega
    have l0 : o ≤ 10 := by omega
    have l1 : o ≤ 65 := by omega
    have l2 : o ≤ 82 := by omega
    have l3 : o ≤ 58 := by omega
    have q0 : (o == 1) = false := by rw [beq_eq_false_iff_ne]; omega
    have q1 : (o == 2) = false := by rw [beq_eq_false_iff_ne]; omega
    have q2 : (o == 3) = false := by rw [beq_eq_false_iff_ne]; omega
    have q3 : (o == 68) = false := by rw [beq_eq_false_iff_ne]; omega
    have q4 : (o == 76) = false := by rw [beq_eq_false_iff_ne]; omega
    have q5 : (o == 77) = false := by rw [beq_eq_false_iff_ne]; omega
    have q6 : (o == 11) = false := by rw [beq_eq_false_iff_ne]; omega
    have q7 : (o == 59) = false := by rw [beq_eq_false_iff_ne]; omega
    have q8 : (o == 60) = false := by rw [beq_eq_false_iff_ne]; omega
    clear hv h h'
    go_enter Try.func57, Try.ntmps57
    go_wp2
    go_ret
    exact ⟨rfl, rfl⟩
  · go_enter Try.func57, Try.ntmps57
    go_wp2
    go_ret
    exact ⟨rfl, rfl⟩
  · have hv : shapeZ o = 0 := by
      unfold shapeZ
      repeat' split
      all_goals omega
    rw [hv]
    have g0 : (5 : Int) ≤ o := by omega
    have g1 : o < 61 := by omega
    have g2 : o < 79 := by omega
    have g3 : o < 42 := by omega
    have l0 : ¬ o ≤ 10 := by omega
    have l1 : o ≤ 65 := by omega
    have l2 : o ≤ 82 := by omega
    have l3 : o ≤ 58 := by omega
    have q0 : (o == 1) = false := by rw [beq_eq_false_iff_ne]; omega
    have q1 : (o == 2) = false := by rw [beq_eq_false_iff_ne]; omega
    have q2 : (o == 3) = false := by rw [beq_eq_false_iff_ne]; omega
    have q3 : (o == 68) = false := by rw [beq_eq_false_iff_ne]; omega
    have q4 : (o == 76) = false := by rw [beq_eq_false_iff_ne]; omega
    have q5 : (o == 77) = false := by rw [beq_eq_false_iff_ne]; omega
    have q6 : (o == 11) = false := by rw [beq_eq_false_iff_ne]; omega
    have q7 : (o == 59) = false := by rw [beq_eq_false_iff_ne]; omega
    have q8 : (o == 60) = false := by rw [beq_eq_false_iff_ne]; omega
    clear hv h h'
    go_enter Try.func57, Try.ntmps57
    go_wp2
    go_ret
    exact ⟨rfl, rfl⟩
  · have hv : shapeZ o = 4 := by
      unfold shapeZ
      repeat' split
      all_goals omega
    rw [hv]
    have g0 : (5 : Int) ≤ o := by omega
    have g1 : o < 61 := by omega
    have g2 : o < 79 := by omega
    have g3 : (42 : Int) ≤ o := by omega
    have l0 : ¬ o ≤ 10 := by omega
    have l1 : o ≤ 65 := by omega
    have l2 : o ≤ 82 := by omega
    have l3 : o ≤ 58 := by omega
    have q0 : (o == 1) = false := by rw [beq_eq_false_iff_ne]; omega
    have q1 : (o == 2) = false := by rw [beq_eq_false_iff_ne]; omega
    have q2 : (o == 3) = false := by rw [beq_eq_false_iff_ne]; omega
    have q3 : (o == 68) = false := by rw [beq_eq_false_iff_ne]; omega
    have q4 : (o == 76) = false := by rw [beq_eq_false_iff_ne]; omega
    have q5 : (o == 77) = false := by rw [beq_eq_false_iff_ne]; omega
    have q6 : (o == 11) = false := by rw [beq_eq_false_iff_ne]; omega
    have q7 : (o == 59) = false := by rw [beq_eq_false_iff_ne]; omega
    have q8 : (o == 60) = false := by rw [beq_eq_false_iff_ne]; omega
    clear hv h h'
    go_enter Try.func57, Try.ntmps57
    go_wp2
    go_ret
    exact ⟨rfl, rfl⟩
  · go_enter Try.func57, Try.ntmps57
    go_wp2
    go_ret
    exact ⟨rfl, rfl⟩
  · go_enter Try.func57, Try.ntmps57
    go_wp2
    go_ret
    exact ⟨rfl, rfl⟩
  · have hv : shapeZ o = 3 := by
      unfold shapeZ
      repeat' split
      all_goals omega
    rw [hv]
    have g0 : (5 : Int) ≤ o := by omega
    have g1 : (61 : Int) ≤ o := by omega
    have g2 : o < 79 := by omega
    have g3 : (42 : Int) ≤ o := by omega
    have l0 : ¬ o ≤ 10 := by omega
    have l1 : o ≤ 65 := by omega
    have l2 : o ≤ 82 := by omega
    have l3 : ¬ o ≤ 58 := by omega
    have q0 : (o == 1) = false := by rw [beq_eq_false_iff_ne]; omega
    have q1 : (o == 2) = false := by rw [beq_eq_false_iff_ne]; omega
    have q2 : (o == 3) = false := by rw [beq_eq_false_iff_ne]; omega
    have q3 : (o == 68) = false := by rw [beq_eq_false_iff_ne]; omega
    have q4 : (o == 76) = false := by rw [beq_eq_false_iff_ne]; omega
    have q5 : (o == 77) = false := by rw [beq_eq_false_iff_ne]; omega
    have q6 : (o == 11) = false := by rw [beq_eq_false_iff_ne]; omega
    have q7 : (o == 59) = false := by rw [beq_eq_false_iff_ne]; omega
    have q8 : (o == 60) = false := by rw [beq_eq_false_iff_ne]; omega
    clear hv h h'
    go_enter Try.func57, Try.ntmps57
    go_wp2
    go_ret
    exact ⟨rfl, rfl⟩
  · have hv : shapeZ o = 0 := by
      unfold shapeZ
      repeat' split
      all_goals omega
    rw [hv]
    have g0 : (5 : Int) ≤ o := by omega
    have g1 : (61 : Int) ≤ o := by omega
    have g2 : o < 79 := by omega
    have g3 : (42 : Int) ≤ o := by omega
    have l0 : ¬ o ≤ 10 := by omega
    have l1 : ¬ o ≤ 65 := by omega
    have l2 : o ≤ 82 := by omega
    have l3 : ¬ o ≤ 58 := by omega
    have q0 : (o == 1) = false := by rw [beq_eq_false_iff_ne]; omega
    have q1 : (o == 2) = false := by rw [beq_eq_false_iff_ne]; omega
    have q2 : (o == 3) = false := by rw [beq_eq_false_iff_ne]; omega
    have q3 : (o == 68) = false := by rw [beq_eq_false_iff_ne]; omega
    have q4 : (o == 76) = false := by rw [beq_eq_false_iff_ne]; omega
    have q5 : (o == 77) = false := by rw [beq_eq_false_iff_ne]; omega
    have q6 : (o == 11) = false := by rw [beq_eq_false_iff_ne]; omega
    have q7 : (o == 59) = false := by rw [beq_eq_false_iff_ne]; omega
    have q8 : (o == 60) = false := by rw [beq_eq_false_iff_ne]; omega
    clear hv h h'
    go_enter Try.func57, Try.ntmps57
    go_wp2
    go_ret
    exact ⟨rfl, rfl⟩
  · go_enter Try.func57, Try.ntmps57
    go_wp2
    go_ret
    exact ⟨rfl, rfl⟩
  · have hv : shapeZ o = 0 := by
      unfold shapeZ
      repeat' split
      all_goals omega
    rw [hv]
    have g0 : (5 : Int) ≤ o := by omega
    have g1 : (61 : Int) ≤ o := by omega
    have g2 : o < 79 := by omega
    have g3 : (42 : Int) ≤ o := by omega
    have l0 : ¬ o ≤ 10 := by omega
    have l1 : ¬ o ≤ 65 := by omega
    have l2 : o ≤ 82 := by omega
    have l3 : ¬ o ≤ 58 := by omega
    have q0 : (o == 1) = false := by rw [beq_eq_false_iff_ne]; omega
    have q1 : (o == 2) = false := by rw [beq_eq_false_iff_ne]; omega
    have q2 : (o == 3) = false := by rw [beq_eq_false_iff_ne]; omega
    have q3 : (o == 68) = false := by rw [beq_eq_false_iff_ne]; omega
    have q4 : (o == 76) = false := by rw [beq_eq_false_iff_ne]; omega
    have q5 : (o == 77) = false := by rw [beq_eq_false_iff_ne]; omega
    have q6 : (o == 11) = false := by rw [beq_eq_false_iff_ne]; omega
    have q7 : (o == 59) = false := by rw [beq_eq_false_iff_ne]; omega
    have q8 : (o == 60) = false := by rw [beq_eq_false_iff_ne]; omega
    clear hv h h'
    go_enter Try.func57, Try.ntmps57
    go_wp2
    go_ret
    exact ⟨rfl, rfl⟩
  · go_enter Try.func57, Try.ntmps57
    go_wp2
    go_ret
    exact ⟨rfl, rfl⟩
  · go_enter Try.func57, Try.ntmps57
    go_wp2
    go_ret
    exact ⟨rfl, rfl⟩
  · go_enter Try.func57, Try.ntmps57
    go_wp2
    go_ret
    exact ⟨rfl, rfl⟩
  · have hv : shapeZ o = 3 := by
      unfold shapeZ
      repeat' split
      all_goals omega
    rw [hv]
    have g0 : (5 : Int) ≤ o := by omega
    have g1 : (61 : Int) ≤ o := by omega
    have g2 : (79 : Int) ≤ o := by omega
    have g3 : (42 : Int) ≤ o := by omega
    have l0 : ¬ o ≤ 10 := by omega
    have l1 : ¬ o ≤ 65 := by omega
    have l2 : o ≤ 82 := by omega
    have l3 : ¬ o ≤ 58 := by omega
    have q0 : (o == 1) = false := by rw [beq_eq_false_iff_ne]; omega
    have q1 : (o == 2) = false := by rw [beq_eq_false_iff_ne]; omega
    have q2 : (o == 3) = false := by rw [beq_eq_false_iff_ne]; omega
    have q3 : (o == 68) = false := by rw [beq_eq_false_iff_ne]; omega
    have q4 : (o == 76) = false := by rw [beq_eq_false_iff_ne]; omega
    have q5 : (o == 77) = false := by rw [beq_eq_false_iff_ne]; omega
    have q6 : (o == 11) = false := by rw [beq_eq_false_iff_ne]; omega
    have q7 : (o == 59) = false := by rw [beq_eq_false_iff_ne]; omega
    have q8 : (o == 60) = false := by rw [beq_eq_false_iff_ne]; omega
    clear hv h h'
    go_enter Try.func57, Try.ntmps57
    go_wp2
    go_ret
    exact ⟨rfl, rfl⟩
  · have hv : shapeZ o = 0 := by
      unfold shapeZ
      repeat' split
      all_goals omega
    rw [hv]
    have g0 : (5 : Int) ≤ o := by omega
    have g1 : (61 : Int) ≤ o := by omega
    have g2 : (79 : Int) ≤ o := by omega
    have g3 : (42 : Int) ≤ o := by omega
    have l0 : ¬ o ≤ 10 := by omega
    have l1 : ¬ o ≤ 65 := by omega
    have l2 : ¬ o ≤ 82 := by omega
    have l3 : ¬ o ≤ 58 := by omega
    have q0 : (o == 1) = false := by rw [beq_eq_false_iff_ne]; omega
    have q1 : (o == 2) = false := by rw [beq_eq_false_iff_ne]; omega
    have q2 : (o == 3) = false := by rw [beq_eq_false_iff_ne]; omega
    have q3 : (o == 68) = false := by rw [beq_eq_false_iff_ne]; omega
    have q4 : (o == 76) = false := by rw [beq_eq_false_iff_ne]; omega
    have q5 : (o == 77) = false := by rw [beq_eq_false_iff_ne]; omega
    have q6 : (o == 11) = false := by rw [beq_eq_false_iff_ne]; omega
    have q7 : (o == 59) = false := by rw [beq_eq_false_iff_ne]; omega
    have q8 : (o == 60) = false := by rw [beq_eq_false_iff_ne]; omega
    clear hv h
    go_enter Try.func57, Try.ntmps57
    go_wp2
    go_ret
    exact ⟨rfl, rfl⟩
theorem refEnds_any (o : Int) (w : World) : Calls Try.prog 37 #[.int .i64 o] w fun e w' => e = .returned (.bool (endsZ o)) ∧ w' = w := by
  have H : (o ≤ 57) ∨ (58 ≤ o ∧ o ≤ 60) ∨ (61 ≤ o ∧ o ≤ 77) ∨ (o = 78) ∨ (79 ≤ o ∧ o ≤ 82) ∨ (83 ≤ o ∧ o ≤ 86) ∨ (87 ≤ o) := by omega
  rcases H with h | ⟨h, h'⟩ | ⟨h, h'⟩ | rfl | ⟨h, h'⟩ | ⟨h, h'⟩ | h
  · have hv : endsZ o = false := by
      unfold endsZ
      simp
      omega
    rw [hv]
    have g0 : o < 58 := by omega
    have g1 : o < 83 := by omega
    have l0 : o ≤ 60 := by omega
    have l1 : o ≤ 86 := by omega
    have q0 : (o == 78) = false := by rw [beq_eq_false_iff_ne]; omega
    clear hv h
    go_enter Try.func37, Try.ntmps37
    go_wp2
    go_ret
    exact ⟨rfl, rfl⟩
  · have hv : endsZ o = true := by
      unfold endsZ
      simp
      omega
    rw [hv]
    have g0 : (58 : Int) ≤ o := by omega
    have g1 : o < 83 := by omega
    have l0 : o ≤ 60 := by omega
    have l1 : o ≤ 86 := by omega
    have q0 : (o == 78) = false := by rw [beq_eq_false_iff_ne]; omega
    clear hv h h'
    go_enter Try.func37, Try.ntmps37
    go_wp2
    go_ret
    exact ⟨rfl, rfl⟩
  · have hv : endsZ o = false := by
      unfold endsZ
      simp
      omega
    rw [hv]
    have g0 : (58 : Int) ≤ o := by omega
    have g1 : o < 83 := by omega
    have l0 : ¬ o ≤ 60 := by omega
    have l1 : o ≤ 86 := by omega
    have q0 : (o == 78) = false := by rw [beq_eq_false_iff_ne]; omega
    clear hv h h'
    go_enter Try.func37, Try.ntmps37
    go_wp2
    go_ret
    exact ⟨rfl, rfl⟩
  · go_enter Try.func37, Try.ntmps37
    go_wp2
    go_ret
    exact ⟨rfl, rfl⟩
  · have hv : endsZ o = false := by
      unfold endsZ
      simp
      omega
    rw [hv]
    have g0 : (58 : Int) ≤ o := by omega
    have g1 : o < 83 := by omega
    have l0 : ¬ o ≤ 60 := by omega
    have l1 : o ≤ 86 := by omega
    have q0 : (o == 78) = false := by rw [beq_eq_false_iff_ne]; omega
    clear hv h h'
    go_enter Try.func37, Try.ntmps37
    go_wp2
    go_ret
    exact ⟨rfl, rfl⟩
  · have hv : endsZ o = true := by
      unfold endsZ
      simp
      omega
    rw [hv]
    have g0 : (58 : Int) ≤ o := by omega
    have g1 : (83 : Int) ≤ o := by omega
    have l0 : ¬ o ≤ 60 := by omega
    have l1 : o ≤ 86 := by omega
    have q0 : (o == 78) = false := by rw [beq_eq_false_iff_ne]; omega
    clear hv h h'
    go_enter Try.func37, Try.ntmps37
    go_wp2
    go_ret
    exact ⟨rfl, rfl⟩
  · have hv : endsZ o = false := by
      unfold endsZ
      simp
      omega
    rw [hv]
    have g0 : (58 : Int) ≤ o := by omega
    have g1 : (83 : Int) ≤ o := by omega
    have l0 : ¬ o ≤ 60 := by omega
    have l1 : ¬ o ≤ 86 := by omega
    have q0 : (o == 78) = false := by rw [beq_eq_false_iff_ne]; omega
    clear hv h
    go_enter Try.func37, Try.ntmps37
    go_wp2
    go_ret
    exact ⟨rfl, rfl⟩
theorem refisInt_any (n : Int) (w : World) : Calls Try.prog 90 #[.int .i64 n] w fun e w' => e = .returned (.bool (isInt n)) ∧ w' = w := by
  have H : (-2147483648 ≤ n ∧ n < 2147483648) ∨ n < -2147483648 ∨ (-2147483648 ≤ n ∧ ¬ n < 2147483648) := by omega
  rcases H with ⟨h, h'⟩ | h | ⟨h, h'⟩
  · rw [show isInt n = true by unfold isInt; simp; omega]
    go_enter Try.func90, Try.ntmps90
    go_wp2
    go_ret
    exact ⟨rfl, rfl⟩
  · rw [show isInt n = false by unfold isInt; simp; omega]
    go_enter Try.func90, Try.ntmps90
    go_wp2
    go_ret
    exact ⟨rfl, rfl⟩
  · rw [show isInt n = false by unfold isInt; simp; omega]
    go_enter Try.func90, Try.ntmps90
    go_wp2
    go_ret
    exact ⟨rfl, rfl⟩
/-- Where an instruction may stand, one may go to each place there is. -/
theorem refmayTo_any (x : In) (A1 A2 : Option Addr) (n1 c1 n2 c2 : Nat) (t : Int) (w : World) (ha : 0 ≤ x.a ∧ x.a < 8192) :
    Calls Try.prog 89 #[.agg (x.vals (.slice A1 n1 c1) (.slice A2 n2 c2)), .int .i64 t] w fun e w' => e = .returned (.bool (mayTo x.a t)) ∧ Ext w w' := by
  unfold In.vals
  have H : (0 ≤ t ∧ t < 8192) ∨ t < 0 ∨ (0 ≤ t ∧ ¬ t < 8192) := by omega
  rcases H with ⟨h, h'⟩ | h | ⟨h, h'⟩
  · rw [show mayTo x.a t = true by unfold mayTo; simp; omega]
    have h1 : -32768 ≤ t - x.a := by omega
    have h2 : t - x.a ≤ 32767 := by omega
    go_enter Try.func89, Try.ntmps89
    go_wp2
    go_ret
    exact ⟨rfl, (Ext.refl w).alloc _⟩
  · rw [show mayTo x.a t = false by unfold mayTo; simp; omega]
    go_enter Try.func89, Try.ntmps89
    go_wp2
    go_ret
    exact ⟨rfl, (Ext.refl w).alloc _⟩
  · rw [show mayTo x.a t = false by unfold mayTo; simp; omega]
    go_enter Try.func89, Try.ntmps89
    go_wp2
    go_ret
    exact ⟨rfl, (Ext.refl w).alloc _⟩
end Go.Proofs.Ytcgajgileehbbaa
