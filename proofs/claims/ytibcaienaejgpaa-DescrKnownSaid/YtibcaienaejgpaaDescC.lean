/- The document's own texts of types, walked. -/
import Derived.Test.YtibcaienaejgpaaDescB
import Derived.Laws.Concat
namespace Go.Proofs.Ytibcaienaejgpaa
open Go.RowKit
set_option linter.unusedVariables false

theorem bs_app (l m : List UInt8) : bs l ++ bs m = bs (l ++ m) := by
  apply ByteArray.ext
  simp [bs]
theorem add_bs (a b : ByteArray) (l m : List UInt8) (ha : a = bs l) (hb : b = bs m) (h : l.length + m.length ≤ 9223372036854775807) (W : World) :
    (Op.stringOp .add a b).run Try.prog W = .ok (.string (bs (l ++ m))) W := by
  subst ha hb
  rw [run_string_add_sum _ _ _ (by exact h), bs_app]
/-- A type's cells at the head of a block. -/
def AtT (w : World) (g : Nat) (t : Ty) : Prop := w.cell? ⟨g, 0, none⟩ = some (.int .i64 t.k) ∧ w.cell? ⟨g, 1, none⟩ = some (.string (bs t.s))
theorem AtT.of {w : World} {g : Nat} {t : Ty} {T : TypeId} (h : w.heap[g]? = some (.cells t.vals T (0, 0))) : AtT w g t := by
  refine ⟨?_, ?_⟩
  all_goals
    rw [cell_of_row w g _ _ T (0, 0) h]
    rfl
theorem AtT.ext {w w' : World} {g : Nat} {t : Ty} (h : AtT w g t) (he : Ext w w') (hg : g < w.heap.size) : AtT w' g t := by
  obtain ⟨h0, h1⟩ := h
  exact ⟨(he.cell (p := ⟨g, 0, none⟩) hg).trans h0, (he.cell (p := ⟨g, 1, none⟩) hg).trans h1⟩

theorem textT_1 (s : List UInt8) : textT ⟨1, s⟩ = [73] := rfl
theorem textT_2 (s : List UInt8) : textT ⟨2, s⟩ = [74] := rfl
theorem textT_4 (s : List UInt8) : textT ⟨4, s⟩ = [91, 73] := rfl
theorem textT_5 (s : List UInt8) : textT ⟨5, s⟩ = [91, 74] := rfl
theorem textT_3 (s : List UInt8) : textT ⟨3, s⟩ = 76 :: (s ++ [59]) := rfl
theorem textT_6 (s : List UInt8) : textT ⟨6, s⟩ = 91 :: 76 :: (s ++ [59]) := rfl
theorem textT_0 {k : Int} {s : List UInt8} (h1 : (k == 1) = false) (h2 : (k == 2) = false) (h3 : (k == 3) = false) (h4 : (k == 4) = false) (h5 : (k == 5) = false) (h6 : (k == 6) = false) : textT ⟨k, s⟩ = [86] := by
  simp only [beq_eq_false_iff_ne, ne_eq] at h1 h2 h3 h4 h5 h6
  unfold textT
  simp only
  rw [if_neg h1, if_neg h2, if_neg h3, if_neg h4, if_neg h5, if_neg h6]
theorem ret_s {a b : ByteArray} (h : a = b) : Ending.returned (.string a) = .returned (.string b) := by rw [h]
set_option maxHeartbeats 8000000 in
theorem reftext_any (t : Ty) (w : World) (hl : t.s.length ≤ 140737488351232) :
    Calls Try.prog 51 #[.agg t.vals] w fun e w' => e = .returned (.string (bs (textT t))) ∧ Ext w w' := by
  obtain ⟨k, s⟩ := t
  have hl : s.length ≤ 140737488351232 := hl
  have hsz : (bs s).size = s.length := rfl
  rcases kinds k with rfl | rfl | rfl | rfl | rfl | rfl | ⟨n1, n2, n3, n4, n5, n6, -⟩
  · rw [textT_1]
    unfold Ty.vals
    go_enter Try.func51, Try.ntmps51
    go_wp2
    go_ret
    refine ⟨?_, (Ext.refl w).alloc _⟩
    rfl
  · rw [textT_2]
    unfold Ty.vals
    go_enter Try.func51, Try.ntmps51
    go_wp2
    go_ret
    refine ⟨?_, (Ext.refl w).alloc _⟩
    rfl
  · rw [textT_3]
    have a1 : ∀ W, (Op.stringOp .add ⟨#[76]⟩ (bs s)).run Try.prog W = .ok (.string (bs (76 :: s))) W := fun W => add_bs ⟨#[76]⟩ (bs s) [76] s rfl rfl (by simp only [List.length_cons, List.length_nil]; omega) W
    have a2 : ∀ W, (Op.stringOp .add (bs (76 :: s)) ⟨#[59]⟩).run Try.prog W = .ok (.string (bs (76 :: (s ++ [59])))) W := fun W => add_bs (bs (76 :: s)) ⟨#[59]⟩ (76 :: s) [59] rfl rfl (by simp; omega) W
    unfold Ty.vals
    go_enter Try.func51, Try.ntmps51
    go_wp2
    go_ret
    refine ⟨?_, (Ext.refl w).alloc _⟩
    rfl
  · rw [textT_4]
    unfold Ty.vals
    go_enter Try.func51, Try.ntmps51
    go_wp2
    go_ret
    refine ⟨?_, (Ext.refl w).alloc _⟩
    rfl
  · rw [textT_5]
    unfold Ty.vals
    go_enter Try.func51, Try.ntmps51
    go_wp2
    go_ret
    refine ⟨?_, (Ext.refl w).alloc _⟩
    rfl
  · rw [textT_6]
    have a1 : ∀ W, (Op.stringOp .add ⟨#[91, 76]⟩ (bs s)).run Try.prog W = .ok (.string (bs (91 :: 76 :: s))) W := fun W => add_bs ⟨#[91, 76]⟩ (bs s) [91, 76] s rfl rfl (by simp only [List.length_cons, List.length_nil]; omega) W
    have a2 : ∀ W, (Op.stringOp .add (bs (91 :: 76 :: s)) ⟨#[59]⟩).run Try.prog W = .ok (.string (bs (91 :: 76 :: (s ++ [59])))) W := fun W => add_bs (bs (91 :: 76 :: s)) ⟨#[59]⟩ (91 :: 76 :: s) [59] rfl rfl (by simp; omega) W
    unfold Ty.vals
    go_enter Try.func51, Try.ntmps51
    go_wp2
    go_ret
    refine ⟨?_, (Ext.refl w).alloc _⟩
    rfl
  · rw [textT_0 n1 n2 n3 n4 n5 n6]
    unfold Ty.vals
    go_enter Try.func51, Try.ntmps51
    go_wp2
    go_ret
    refine ⟨?_, (Ext.refl w).alloc _⟩
    rfl
set_option maxHeartbeats 8000000 in
theorem refWriteType_any (t : Ty) (w : World) (hl : t.s.length ≤ 140737488351232) :
    Calls Try.prog 21 #[.agg t.vals] w fun e w' => e = .returned (.tuple #[.string (bs (writeT t).1), .int .i64 (writeT t).2]) ∧ Ext w w' := by
  have hc := fun W => refCheckType_any t W hl
  have ht := fun W => reftext_any t W hl
  unfold Ty.vals at hc ht ⊢
  have HC := Lib.hid hc
  have HT := Lib.hid ht
  clear hc ht
  cases ho : okT t
  · rw [show writeT t = ([], 2) by rw [writeT, ho]; rfl]
    have h2 := Lib.hid (checkT_no ho)
    clear ho
    go_enter Try.func21, Try.ntmps21
    go_wp2_with fail
    refine (HC.out _).mono ?_
    rw [h2.out]
    rintro e w1 ⟨rfl, x1⟩
    go_wp2
    go_ret2
    exact ⟨rfl, Ext.trans (by first | exact Ext.refl w | exact (Ext.refl w).alloc _) x1⟩
  · rw [show writeT t = (textT t, 0) by rw [writeT, ho]; rfl]
    have h2 := Lib.hid (checkT_yes ho)
    clear ho
    go_enter Try.func21, Try.ntmps21
    go_wp2_with fail
    refine (HC.out _).mono ?_
    rw [h2.out]
    rintro e w1 ⟨rfl, x1⟩
    have g1 : w.heap.size < w1.heap.size := by have := x1.size; simp at this; omega
    have at1 := AtT.ext (AtT.of (t := t) (heap_alloc_new _ _)) x1 (by simp)
    obtain ⟨z0, z1⟩ := id at1
    go_wp2_with fail
    refine (HT.out _).mono ?_
    rintro e w2 ⟨rfl, x2⟩
    go_wp2
    go_ret2
    exact ⟨rfl, Ext.trans (by first | exact Ext.refl w | exact (Ext.refl w).alloc _) (x1.trans x2)⟩
end Go.Proofs.Ytibcaienaejgpaa
