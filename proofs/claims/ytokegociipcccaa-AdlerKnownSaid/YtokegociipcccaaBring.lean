/- The statements' own helper: a number brought into a range. -/
import Derived.Test.YtokegociipcccaaEq0
namespace Go.Proofs.Ytokegociipcccaa
open Go.RowKit
set_option linter.unusedVariables false

/-- Brought to one from 0 on, below a number. -/
def bring (i n : Int) : Int := if n ≤ 0 then 0 else i % n
theorem bring_pos (i : Int) {n : Int} (h : 0 < n) : bring i n = i % n := by
  unfold bring
  rw [if_neg (by omega)]
theorem tmod_neg {i n : Int} (h : i < 0) (hn : 0 < n) : (i.tmod n = i % n - n ∨ i.tmod n = i % n) ∧ -n < i.tmod n ∧ i.tmod n ≤ 0 := by
  have e := Int.tmod_eq_emod (a := i) (b := n)
  have h1 := Int.emod_nonneg i (show n ≠ 0 by omega)
  have h2 := Int.emod_lt_of_pos i hn
  split at e
  · rename_i hc
    have hd : n ∣ i := by rcases hc with hc | hc; omega; exact hc
    have hz : i % n = 0 := Int.emod_eq_zero_of_dvd hd
    omega
  · have : (n.natAbs : Int) = n := by omega
    omega
theorem bring_nat (i : Int) {n : Nat} (h : 0 < n) : ∃ k : Nat, bring i n = k ∧ k < n := by
  rw [bring_pos i (by omega)]
  have h1 := Int.emod_nonneg i (show (n : Int) ≠ 0 by omega)
  have h2 := Int.emod_lt_of_pos i (show (0 : Int) < n by omega)
  exact ⟨(i % n).toNat, by omega, by omega⟩
theorem bring_any (i n : Int) (w : World) (hl : -9223372036854775808 ≤ i) (hh : i ≤ 9223372036854775807) (hl' : -9223372036854775808 ≤ n) (hh' : n ≤ 9223372036854775807) :
    Calls Try.prog 16 #[.int .i64 i, .int .i64 n] w fun e w' => e = .returned (.int .i64 (bring i n)) ∧ w = w' := by
  by_cases hn : n ≤ 0
  · have e : bring i n = 0 := by unfold bring; rw [if_pos hn]
    rw [e]
    clear e
    go_enter Try.func16, Try.ntmps16
    go_wp2
    go_ret
    exact ⟨rfl, rfl⟩
  · have hn1 : 0 < n := by omega
    rw [bring_pos i hn1]
    by_cases h0 : 0 ≤ i
    · have hm : 0 ≤ i % n := Int.emod_nonneg i (by omega)
      go_enter Try.func16, Try.ntmps16
      go_wp2
      go_ret
      exact ⟨rfl, rfl⟩
    · obtain ⟨ht, hb1, hb2⟩ := tmod_neg (i := i) (by omega) hn1
      have hm := Int.emod_nonneg i (show n ≠ 0 by omega)
      have hm2 := Int.emod_lt_of_pos i hn1
      by_cases hz : i.tmod n < 0
      · have e : i % n = i.tmod n + n := by omega
        rw [e]
        clear e ht
        go_enter Try.func16, Try.ntmps16
        go_wp2
        go_ret
        exact ⟨rfl, rfl⟩
      · have e : i % n = i.tmod n := by omega
        rw [e]
        clear e ht
        go_enter Try.func16, Try.ntmps16
        go_wp2
        go_ret
        exact ⟨rfl, rfl⟩

/-- A bool comes back, and all that was there is as it was. -/
def RetB (w : World) (b : Bool) (e : Ending) (w' : World) : Prop := e = .returned (.bool b) ∧ Ext w w'
end Go.Proofs.Ytokegociipcccaa
