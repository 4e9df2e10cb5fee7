/- The document's May, walked. -/
import Derived.Test.YthobicnhophdlaaOpsA
import Derived.Test.YthobicnhophdlaaOpsB
import Derived.Test.YthobicnhophdlaaOpsV3
import Derived.LoopN
import Derived.BigQuiet
import Derived.Deep.QuietTactic
import Derived.Deep.RegionHeld3
namespace Go.Proofs.Ythobicnhophdlaa
open Go.RowKit
set_option linter.unusedVariables false

theorem len0 {l : List Int} : l = [] ↔ l.length = 0 := List.length_eq_zero_iff.symm
theorem fo_0 {x : In} (h : shapeZ x.o = 0) : fieldsOk x = true ↔ x.n = 0 ∧ x.m = 0 ∧ x.to.length = 0 ∧ x.ks.length = 0 := by
  unfold fieldsOk
  simp [h, and_assoc]
theorem fo_1 {x : In} (h : shapeZ x.o = 1) : fieldsOk x = true ↔ (0 ≤ x.n ∧ x.n ≤ 255) ∧ x.m = 0 ∧ x.to.length = 0 ∧ x.ks.length = 0 := by
  unfold fieldsOk
  simp [h, and_assoc]
theorem fo_2 {x : In} (h : shapeZ x.o = 2) : fieldsOk x = true ↔ (-32768 ≤ x.n ∧ x.n ≤ 32767) ∧ x.m = 0 ∧ x.to.length = 0 ∧ x.ks.length = 0 := by
  unfold fieldsOk
  simp [h, and_assoc]
theorem fo_3 {x : In} (h : shapeZ x.o = 3) : fieldsOk x = true ↔ (0 ≤ x.n ∧ x.n ≤ 65535) ∧ x.m = 0 ∧ x.to.length = 0 ∧ x.ks.length = 0 := by
  unfold fieldsOk
  simp [h, and_assoc]
theorem fo_4 {x : In} (h : shapeZ x.o = 4) : fieldsOk x = true ↔ x.n = 0 ∧ x.m = 0 ∧ x.to.length = 1 ∧ x.ks.length = 0 := by
  unfold fieldsOk
  simp [h, and_assoc]
theorem fo_5 {x : In} (h : shapeZ x.o = 5) : fieldsOk x = true ↔ (0 ≤ x.n ∧ x.n ≤ 255) ∧ (-128 ≤ x.m ∧ x.m ≤ 127) ∧ x.to.length = 0 ∧ x.ks.length = 0 := by
  unfold fieldsOk
  simp [h, and_assoc]
theorem fo_6 {x : In} (h : shapeZ x.o = 6) : fieldsOk x = true ↔ (2 ≤ x.to.length ∧ x.to.length ≤ 1001) ∧ isInt x.n = true ∧ isInt (x.n + x.to.length - 2) = true ∧ x.m = 0 ∧ x.ks.length = 0 := by
  unfold fieldsOk
  simp [h, and_assoc]
theorem fo_7 {x : In} (h : shapeZ x.o = 7) : fieldsOk x = true ↔ x.n = 0 ∧ x.m = 0 ∧ (1 ≤ x.to.length ∧ x.to.length ≤ 1001) ∧ x.ks.length + 1 = x.to.length := by
  unfold fieldsOk
  simp [h, and_assoc]
theorem bne_f {a b : Int} (h : a = b) : (a != b) = false := by simp [h]
theorem bne_t {a b : Int} (h : ¬ a = b) : (a != b) = true := by simpa using h
theorem may_no {x : In} (hm : mayI x = (fieldsOk x && rise x.ks)) (h : ¬ fieldsOk x = true) : false = mayI x := by
  rw [hm]
  have : fieldsOk x = false := by simpa using h
  rw [this]
  rfl
theorem may_yes {x : In} (hm : mayI x = (fieldsOk x && rise x.ks)) (h : fieldsOk x = true) (hr : x.ks.length = 0) : true = mayI x := by
  rw [hm, h, List.eq_nil_of_length_eq_zero hr]
  rfl
theorem may_nor {x : In} (hm : mayI x = (fieldsOk x && rise x.ks)) {k : Nat} (hk : k < x.ks.length) (h : ¬ (isInt (gi x.ks k) = true ∧ (0 < k → gi x.ks (k - 1) < gi x.ks k))) : false = mayI x := by
  have : rise x.ks = false := by
    rw [Bool.eq_false_iff]
    intro hr
    exact h ((rise_iff _).1 hr k hk)
  rw [hm, this, Bool.and_false]
theorem may_yes7 {x : In} (hm : mayI x = (fieldsOk x && rise x.ks)) (h : fieldsOk x = true) (hr : UpTo x.ks x.ks.length) : true = mayI x := by
  rw [hm, h, (rise_iff _).2 hr]
  rfl
theorem quiet_left {P : Program} {f : FuncId} {args : Array Value} {w : World} {n : Nat} {v : Value}
    (h : Calls P f args (w.drewN n) fun e w' => e = .returned v ∧ w' = w.drewN n) : Calls P f args (w.drewN n) fun e w'' => e = .returned v ∧ ∃ m, w'' = w.drewN m :=
  h.mono fun _ _ ⟨he, hm⟩ => ⟨he, n, hm⟩
theorem drewN_ext (w : World) (n : Nat) : Ext w (w.drewN n) := (Ext.refl w).drewN n
theorem drew_ext' (w : World) : Ext w w.drew := (Ext.refl w).drew
end Go.Proofs.Ythobicnhophdlaa
