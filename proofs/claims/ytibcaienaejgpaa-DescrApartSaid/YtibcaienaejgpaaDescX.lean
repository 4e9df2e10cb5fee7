/- The statements' own first steps, walked: is, none, works. -/
import Derived.Test.YtibcaienaejgpaaDescV
namespace Go.Proofs.Ytibcaienaejgpaa
open Go.RowKit
set_option linter.unusedVariables false

theorem is_yes (t : Ty) (ho : okT t = true) (w : World) :
    Calls Try.prog 39 #[.string (bs (textT t)), .agg t.vals] w fun e w' => e = .returned (.bool true) ∧ Ext w w' := by
  have h64 := okT_name ho
  have hx := name64 ho
  have e1 := type_text ho
  have e2 : writeT t = (textT t, 0) := by rw [writeT, ho]; rfl
  have hT := fun W => Type_any (textT t) (by omega) W
  have hW := fun W => WriteType_any t W (by omega)
  have hne := fun W => run_eqT t t W
  rw [show eqT t t = true by simp [eqT]] at hne
  rw [e1] at hT
  rw [e2] at hW
  obtain ⟨l, hl⟩ : ∃ l, l = textT t := ⟨_, rfl⟩
  rw [← hl] at hT hW ⊢
  have hbs := bs_nil l
  unfold Ty.vals at hT hW hne ⊢
  have HT := Lib.hid hT
  have HW := Lib.hid hW
  clear hT hW e1 e2 hl hx h64 ho
  go_enter Try.func39, Try.ntmps39
  go_wp2_with fail
  refine (HT.out _).mono ?_
  rintro e w1 ⟨rfl, x1⟩
  have X1 := Lib.hid (((Ext.refl w).alloc _).trans x1)
  have at1 := AtT.ext (AtT.of (t := t) (heap_alloc_new w _)) x1 (by simp)
  obtain ⟨z0, z1⟩ := at1
  have hlt1 : w.heap.size < w1.heap.size := by have := x1.size; simp at this; omega
  clear x1
  go_wp2_with fail
  refine (HW.out _).mono ?_
  rintro e w2 ⟨rfl, x2⟩
  have y0 := (x2.cell (p := ⟨w.heap.size, 0, none⟩) (by simp; omega)).trans ((((Ext.refl w1).alloc _).cell (p := ⟨w.heap.size, 0, none⟩) hlt1).trans z0)
  have y1 := (x2.cell (p := ⟨w.heap.size, 1, none⟩) (by simp; omega)).trans ((((Ext.refl w1).alloc _).cell (p := ⟨w.heap.size, 1, none⟩) hlt1).trans z1)
  have at2 := AtT.ext (AtT.of (t := t) (heap_alloc_new w1 _)) x2 (by simp)
  obtain ⟨q0, q1⟩ := at2
  have X2 := Lib.hid ((X1.out.alloc _).trans x2)
  clear x2 z0 z1
  go_wp2
  go_ret
  exact ⟨rfl, X2.out⟩
theorem none_yes (l : List UInt8) (hl : l.length ≤ 140737488351232) (h1 : typeZ l = (t0, 50)) (h2 : protoZ l = (⟨t0, []⟩, 50)) (w : World) :
    Calls Try.prog 42 #[.string (bs l)] w fun e w' => e = .returned (.bool true) ∧ Ext w w' := by
  have hT := fun W => Type_any l hl W
  have hP := fun W => Proto_any l hl W
  unfold ProtoAns at hP
  rw [h1] at hT
  rw [h2] at hP
  unfold Ty.vals at hT
  unfold Pr.vals at hP
  have hne : ∀ W, (binOp .eql 23 (.agg #[.int .i64 0, .string (bs [])]) (.agg #[.int .i64 0, .string ⟨#[]⟩])).run Try.prog W = .ok (.bool true) W := fun W => run_eqT t0 t0 W
  simp only [t0] at hT hP
  have HT := Lib.hid hT
  have HP := Lib.hid hP
  clear hT hP h1 h2
  go_enter Try.func42, Try.ntmps42
  go_wp2_with fail
  refine (HT.out _).mono ?_
  rintro e w1 ⟨rfl, x1⟩
  have X1 := Lib.hid x1
  clear x1
  go_wp2_with fail
  refine (HP.out _).mono ?_
  rintro e w2 ⟨v, rfl, hr, x2⟩
  have at2 := AtT.ext (AtT.of (t := t0) (heap_alloc_new w1 _)) x2 (by simp)
  obtain ⟨q0, q1⟩ := at2
  have hlt2 : w1.heap.size < w2.heap.size := by have := x2.size; simp at this; omega
  have X2 := Lib.hid ((X1.out.alloc _).trans x2)
  obtain ⟨A, c, hv, -⟩ := hr
  rw [show ([] : List Ty).length = 0 from rfl] at hv
  subst hv
  simp only [t0] at q0 q1
  clear x2
  go_wp2
  go_ret
  exact ⟨rfl, by first | exact X2.out.alloc _ | exact X2.out⟩
end Go.Proofs.Ytibcaienaejgpaa
