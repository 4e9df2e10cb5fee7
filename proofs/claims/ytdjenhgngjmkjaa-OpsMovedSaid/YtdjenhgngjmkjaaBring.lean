/- The statements' own helper: a number brought into a range. -/
import Derived.Test.YtdjenhgngjmkjaaEq0
import Derived.Test.YtdjenhgngjmkjaaBringM
namespace Go.Proofs.Ytdjenhgngjmkjaa
open Go.RowKit
set_option linter.unusedVariables false

theorem bring_any (i n : Int) (w : World) (hl : -9223372036854775808 ≤ i) (hh : i ≤ 9223372036854775807) (hl' : -9223372036854775808 ≤ n) (hh' : n ≤ 9223372036854775807) :
    Calls Try.prog 29 #[.int .i64 i, .int .i64 n] w fun e w' => e = .returned (.int .i64 (bring i n)) ∧ w = w' := by
  by_cases hn : n ≤ 0
  · have e : bring i n = 0 := by unfold bring; rw [if_pos hn]
    rw [e]
    clear e
    go_enter Try.func29, Try.ntmps29
    go_wp2
    go_ret
    exact ⟨rfl, rfl⟩
  · have hn1 : 0 < n := by omega
    rw [bring_pos i hn1]
    by_cases h0 : 0 ≤ i
    · have hm : 0 ≤ i % n := Int.emod_nonneg i (by omega)
      go_enter Try.func29, Try.ntmps29
      go_wp2
      go_ret
      exact ⟨rfl, rfl⟩
    · obtain ⟨ht, hb1, hb2⟩ := tmod_neg (i := i) (by omega) hn1
      have hm := Int.emod_nonneg i (show n ≠ 0 by omega)
      have hm2 := Int.emod_lt_of_pos i hn1
      by_cases hz : i.tmod n < 0
      · have e : i % n = i.tmod n + n := by omega
        rw [e]
        clear e ht
        go_enter Try.func29, Try.ntmps29
        go_wp2
        go_ret
        exact ⟨rfl, rfl⟩
      · have e : i % n = i.tmod n := by omega
        rw [e]
        clear e ht
        go_enter Try.func29, Try.ntmps29
        go_wp2
        go_ret
        exact ⟨rfl, rfl⟩

/-- A bool comes back, and all that was there is as it was. -/
def RetB (w : World) (b : Bool) (e : Ending) (w' : World) : Prop := e = .returned (.bool b) ∧ Ext w w'
end Go.Proofs.Ytdjenhgngjmkjaa
