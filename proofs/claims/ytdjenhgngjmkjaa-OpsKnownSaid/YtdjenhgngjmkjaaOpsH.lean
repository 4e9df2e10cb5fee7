/- Instructions by their names: the project's, and the document's own. -/
import Derived.Test.YtdjenhgngjmkjaaOpsG
import Derived.LoopN
import Derived.Lib.SlicesS
import Derived.BigQuiet
namespace Go.Proofs.Ytdjenhgngjmkjaa
open Go.RowKit
set_option linter.unusedVariables false

def nm (k : Nat) : ByteArray := nmL.getD k ⟨#[]⟩
theorem nmL_len : nmL.length = 90 := by kernel_rfl
theorem nameZ_nm {k : Nat} (h : k < 90) : nameZ (k : Int) = nm k := by
  unfold nameZ nm
  rw [if_pos (by omega), Int.toNat_natCast]
/-- The first one of a list that is called so. -/
def findN (s : ByteArray) : List ByteArray → Nat → Int × Bool
  | [], _ => (0, false)
  | x :: l, k => if x = s then ((k : Int), true) else findN s l (k + 1)
def opZ (s : ByteArray) : Int × Bool := findN s nmL 0
theorem drop_nm {k : Nat} (h : k < 90) : nmL.drop k = nm k :: nmL.drop (k + 1) := by
  rw [List.drop_eq_getElem_cons (by rw [nmL_len]; exact h)]
  simp [nm, nmL_len, h]
theorem opZ_next {s : ByteArray} {k : Nat} (h : k < 90) (hn : ¬ nm k = s) (e : opZ s = findN s (nmL.drop k) k) : opZ s = findN s (nmL.drop (k + 1)) (k + 1) := by
  rw [e, drop_nm h, findN, if_neg hn]
theorem opZ_here {s : ByteArray} {k : Nat} (h : k < 90) (hn : nm k = s) (e : opZ s = findN s (nmL.drop k) k) : opZ s = ((k : Int), true) := by
  rw [e, drop_nm h, findN, if_pos hn]
theorem opZ_none {s : ByteArray} (e : opZ s = findN s (nmL.drop 90) 90) : opZ s = (0, false) := by
  rw [e, List.drop_eq_nil_of_le (by rw [nmL_len]; omega)]
  rfl
theorem ret_op {a b : Int × Bool} (h : a = b) : Ending.returned (.tuple #[.int .i64 a.1, .bool a.2]) = .returned (.tuple #[.int .i64 b.1, .bool b.2]) := by rw [h]
set_option maxHeartbeats 1000000 in
theorem Op_any (s : ByteArray) (w : World) : Calls Try.prog 21 #[.string s] w fun e w' => e = .returned (.tuple #[.int .i64 (opZ s).1, .bool (opZ s).2]) ∧ Ext w w' := by
  go_enter Try.func21, Try.ntmps21
  go_wp2_with (go_at_call 40; refine (lines_any _).mono ?_; rintro e w1 ⟨rfl, x1⟩)
  go_loopw [7] (fun i wr => ∃ k : Nat, k ≤ 90 ∧ i = .int .i64 k ∧ Hid (Ext w wr) ∧ Hid (opZ s = findN s (nmL.drop k) k)) (fun i _ => 90 - (intOf i).toNat)
  case atStart => exact ⟨0, by omega, rfl, Lib.hid x1, Lib.hid rfl⟩
  case round =>
    obtain ⟨k, hk, rfl, hx, HE⟩ := hrel
    by_cases hlt : k < 90
    · have hi := fun W => run_index_lines W k (by omega) (by omega)
      rw [nameZ_nm hlt] at hi
      by_cases he : nm k = s
      · have hb := (Lib.bytes_beq_iff (nm k) s).2 he
        have HO := Lib.hid (opZ_here hlt he HE.out)
        clear he
        go_wp2
        go_ret2
        exact ⟨ret_op HO.out.symm, hx.out.alloc _⟩
      · have hb := (Lib.bytes_beq_false_iff (nm k) s).2 he
        have HO := Lib.hid (opZ_next hlt he HE.out)
        clear he
        go_wp2
        exact ⟨⟨k + 1, by omega, by go_num, Lib.hid (hx.out.alloc _), HO⟩, by simp [intOf]; omega⟩
    · obtain rfl : k = 90 := by omega
      have HO := Lib.hid (opZ_none HE.out)
      go_wp2
      go_ret2
      exact ⟨ret_op HO.out.symm, hx.out⟩
/-- The document's list of names lies there. -/
def NamesAt (w : World) (g : Nat) : Prop := g < w.heap.size ∧ ∀ j, j < 90 → w.cell? ⟨g, j, none⟩ = some (.string (nm j))
theorem NamesAt.ext {w w' : World} {g : Nat} (h : NamesAt w g) (x : Ext w w') : NamesAt w' g := ⟨Nat.lt_of_lt_of_le h.1 x.size, fun j hj => (x.cell (p := ⟨g, j, none⟩) h.1).trans (h.2 j hj)⟩
def STR : Array Value := (nmL.map Value.string).toArray
theorem STR_at {j : Nat} (h : j < 90) : STR[j]? = some (.string (nm j)) := by
  have hl : j < nmL.length := by rw [nmL_len]; exact h
  simp [STR, nm, hl]
theorem Names_any (w : World) : Calls Try.prog 41 #[] w fun e w' => ∃ g, e = .returned (.slice (some ⟨g, 0, none⟩) 90 90) ∧ NamesAt w' g ∧ Ext w w' := by
  go_enter Try.func41, Try.ntmps41
  refine wp_seq_k fun K hK => ?_
  refine wp_region_list (wpList_plain rfl fun K2 hK2 => ?_)
  unfold Oper.wp execOp
  simp only [Sem.run_pure]
  refine hK2 _ _ (wpList_nil (hK _ _ ?_))
  refine wp_seq (wp_region_list ?_)
  refine wpList_buildSlice_lit rfl _ 9 _ _ rfl (by kernel_rfl) (.string ⟨#[]⟩) (by kernel_rfl) STR (by kernel_rfl) (by omega) (by omega) ?_
  go_wp2
  go_ret
  refine ⟨_, rfl, ⟨by simp, fun j hj => ?_⟩, (Ext.refl w).alloc _⟩
  rw [cell_of_row _ w.heap.size j _ _ (0, 0) (heap_alloc_new w _)]
  exact STR_at hj
theorem refName_any (o : Int) (w : World) : Calls Try.prog 24 #[.int .i64 o] w fun e w' => e = .returned (.string (nameZ o)) ∧ Ext w w' := by
  by_cases h : 0 ≤ o ∧ o ≤ 89
  · obtain ⟨k, rfl⟩ : ∃ k : Nat, o = (k : Int) := ⟨o.toNat, by omega⟩
    have hk : k < 90 := by omega
    rw [nameZ_nm hk]
    clear h
    go_enter Try.func24, Try.ntmps24
    go_wp2_with (go_at_call 41; refine (Names_any _).mono ?_; rintro e w1 ⟨g, rfl, hn, x1⟩; have hc := hn.2 k hk)
    go_ret
    exact ⟨rfl, x1⟩
  · have h' := h
    rw [(name_out h).1]
    by_cases h0 : o < 0
    · clear h h'
      go_enter Try.func24, Try.ntmps24
      go_wp2
      go_ret
      exact ⟨rfl, Ext.refl w⟩
    · have h1 : 89 < o := by omega
      clear h h'
      go_enter Try.func24, Try.ntmps24
      go_wp2
      go_ret
      exact ⟨rfl, Ext.refl w⟩
set_option maxHeartbeats 1000000 in
theorem refOp_any (s : ByteArray) (w : World) : Calls Try.prog 22 #[.string s] w fun e w' => e = .returned (.tuple #[.int .i64 (opZ s).1, .bool (opZ s).2]) ∧ Ext w w' := by
  go_enter Try.func22, Try.ntmps22
  go_wp2_with (go_at_call 41; refine (Names_any _).mono ?_; rintro e w1 ⟨g, rfl, hn, x1⟩)
  have hc := hn.2
  go_loopw [5] (fun i wr => wr = w1 ∧ ∃ k : Nat, k ≤ 90 ∧ i = .int .i64 k ∧ Hid (opZ s = findN s (nmL.drop k) k)) (fun i _ => 90 - (intOf i).toNat)
  case atStart => exact ⟨rfl, 0, by omega, rfl, Lib.hid rfl⟩
  case round =>
    obtain ⟨rfl, k, hk, rfl, HE⟩ := hrel
    by_cases hlt : k < 90
    · have hi := hc k hlt
      clear hc
      by_cases he : nm k = s
      · have hb := (Lib.bytes_beq_iff (nm k) s).2 he
        have HO := Lib.hid (opZ_here hlt he HE.out)
        clear he
        go_wp2
        go_ret2
        exact ⟨ret_op HO.out.symm, x1⟩
      · have hb := (Lib.bytes_beq_false_iff (nm k) s).2 he
        have HO := Lib.hid (opZ_next hlt he HE.out)
        clear he
        go_wp2
        exact ⟨⟨by trivial, k + 1, by omega, by go_num, HO⟩, by simp [intOf]; omega⟩
    · obtain rfl : k = 90 := by omega
      have HO := Lib.hid (opZ_none HE.out)
      clear hc
      go_wp2
      go_ret2
      exact ⟨ret_op HO.out.symm, x1⟩
end Go.Proofs.Ytdjenhgngjmkjaa
