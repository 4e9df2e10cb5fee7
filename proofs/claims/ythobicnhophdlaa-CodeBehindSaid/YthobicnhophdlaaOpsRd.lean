/- The document's Decode, walked. -/
import Derived.Test.YthobicnhophdlaaOpsDs
import Derived.Test.YthobicnhophdlaaOpsMay
import Derived.Test.YthobicnhophdlaaOpsCp
import Derived.Deep.RegionLaw
import Derived.Deep.RegionHeld3
import Derived.Deep.CutRange
import Derived.Deep.CutBlock
import Derived.LoopN
namespace Go.Proofs.Ythobicnhophdlaa
open Go.RowKit
set_option linter.unusedVariables false

theorem next_at {l r : List Int} {a : Nat} (h : a ≤ l.length) (e : l.drop a = r) : (l.length : Int) - r.length = a := by
  rw [← e, List.length_drop]
  omega
theorem dec_some' {a o : Int} {l r : List Int} {x : In} (h : insM false a o (l, false) = (x, r, false)) : body a o l = some (x, r) := by
  have hb := insM_body (st := false) (a := a) (o := o) (l := l)
  cases hy : body a o l with
  | none => rw [hy, h] at hb; cases hb
  | some y =>
    rw [hy] at hb
    simp only at hb
    rw [h] at hb
    injection hb with e1 e2
    injection e2 with e2 e3
    rw [e1, e2]
theorem dec_none' {a o : Int} {l r : List Int} {x : In} (h : insM false a o (l, false) = (x, r, true)) : body a o l = none := by
  have hb := insM_body (st := false) (a := a) (o := o) (l := l)
  cases hy : body a o l with
  | none => rfl
  | some y =>
    rw [hy] at hb
    simp only at hb
    rw [h] at hb
    injection hb with e1 e2
    injection e2 with e2 e3
    cases e3
theorem rdN_u2f {l : List Int} {en : Bool} (hb : ∀ c ∈ l, B8 c) : 0 ≤ (rdN false 2 false (l, en)).1 ∧ (rdN false 2 false (l, en)).1 ≤ 65535 := by
  unfold rdN
  split
  · simp
  · match l with
    | [] => simp [pk]
    | [_] => simp [pk]
    | p :: q :: l => have := u2_in (hb p (by simp)) (hb q (by simp)); simp [pk]; omega
/-- So many places are still to come. -/
def CT (a : Int) (Y : List Int × List Int × Bool) (m : Nat) (L : List Int) (p : List Int × Bool) : Prop := (L ++ (rdT false a m p).1, (rdT false a m p).2) = Y
theorem CT.next {a : Int} {Y : List Int × List Int × Bool} {m : Nat} {L : List Int} {p : List Int × Bool} (h : CT a Y (m + 1) L p) (hp : p.2 = false) : CT a Y m (L ++ [a + (rdN false 2 true p).1]) (rdN false 2 true p).2 := by
  unfold CT at *
  rw [rdT, if_neg (by simp [hp])] at h
  simpa using h
theorem CT.end_ {a : Int} {Y : List Int × List Int × Bool} {m : Nat} {L : List Int} {p : List Int × Bool} (h : CT a Y m L p) (he : m = 0 ∨ p.2 = true) : Y = (L, p) := by
  unfold CT at h
  rcases he with rfl | he
  · simpa [rdT] using h.symm
  · rw [rdT_ended he] at h; simpa using h.symm
def CK (a : Int) (Y : List Int × List Int × List Int × Bool) (m : Nat) (L M : List Int) (p : List Int × Bool) : Prop := (L ++ (rdK false a m p).1, M ++ (rdK false a m p).2.1, (rdK false a m p).2.2) = Y
theorem CK.next {a : Int} {Y : List Int × List Int × List Int × Bool} {m : Nat} {L M : List Int} {p : List Int × Bool} (h : CK a Y (m + 1) L M p) (hp : p.2 = false) : CK a Y m (L ++ [(rdN false 4 true p).1]) (M ++ [a + (rdN false 2 true (rdN false 4 true p).2).1]) (rdN false 2 true (rdN false 4 true p).2).2 := by
  unfold CK at *
  rw [rdK, if_neg (by simp [hp])] at h
  simpa using h
theorem CK.end_ {a : Int} {Y : List Int × List Int × List Int × Bool} {m : Nat} {L M : List Int} {p : List Int × Bool} (h : CK a Y m L M p) (he : m = 0 ∨ p.2 = true) : Y = (L, M, p) := by
  unfold CK at h
  rcases he with rfl | he
  · simpa [rdK] using h.symm
  · rw [rdK_ended he] at h; simpa using h.symm
end Go.Proofs.Ythobicnhophdlaa
