/- The sums of package adler and of the document, by one plain function; the chapter's examples. -/
import Derived.Test.YtokegociipcccaaAd
import Derived.Test.YtokegociipcccaaBring
import Derived.Lib.SlBytesConst
namespace Go.Proofs.Ytokegociipcccaa
open Go.RowKit
set_option linter.unusedVariables false

theorem Of_any (v : Value) (l : List Int) (w : World) (h : Row w .u8 v l) (hr : l.length ≤ 140737488355328) :
    Calls Try.prog 10 #[v] w fun e w' => e = .returned (.int .u32 (adl 1 l)) ∧ w = w' := by
  go_enter Try.func10, Try.ntmps10
  go_wp2_with (go_at_call 12; refine (On_any 1 _ l _ h (by omega) (by omega) hr).mono ?_; rintro e w1 ⟨rfl, rfl⟩)
  go_ret
  exact ⟨rfl, rfl⟩

set_option maxHeartbeats 1000000 in
theorem refOn_any (s : Int) (v : Value) (l : List Int) (w : World) (h : Row w .u8 v l) (h0 : 0 ≤ s) (h1 : s ≤ 4294967295) (hr : l.length ≤ 140737488355328) :
    Calls Try.prog 13 #[.int .u32 s, v] w fun e w' => e = .returned (.int .u32 (adl s l)) ∧ w = w' := by
  obtain ⟨A, c, rfl, h2, h3, h4, h5, h6⟩ := h
  clear h2 h3 h4
  go_enter Try.func13, Try.ntmps13
  go_wp2
  go_loop [5, 6, 7] (fun x y i => ∃ k : Nat, k ≤ l.length ∧ i = .int .i64 k ∧ x = .int .u32 ((s % 65536 + sm (l.take k)) % 65521) ∧ y = .int .u32 ((s / 65536 + up (s % 65536) (l.take k)) % 65521)) (fun _ _ i => l.length - (intOf i).toNat)
  case atStart => exact ⟨0, by omega, rfl, by simp [sm], by simp [up]⟩
  case round =>
    obtain ⟨k, hk, rfl, rfl, rfl⟩ := hrel
    have e1 := take_bd (s % 65536 + sm (l.take k))
    have e2 := take_bd (s / 65536 + up (s % 65536) (l.take k))
    by_cases hlt : k < l.length
    · obtain ⟨bl, o, rfl, _, hc⟩ := h6 (by omega)
      have hy := hc k hlt
      have hx := h5.u8 (gi_mem hlt)
      have E1 := Lib.hid (lo_step (s % 65536) (l.take k) [gi l k])
      have E2 := Lib.hid (hi_step (s % 65536) (s / 65536) (l.take k) [gi l k])
      have ET := Lib.hid (take_one hlt)
      have EO := Lib.hid (sm_one (gi l k))
      have EU := Lib.hid (up_one ((s % 65536 + sm (l.take k)) % 65521) (gi l k))
      clear hc h6
      go_wp2
      go_round
      case rel => exact ⟨k + 1, by omega, by go_num, val_u32 (by rw [ET.out, ← E1.out, EO.out]), val_u32 (by rw [ET.out, ← E2.out, EU.out]; omega)⟩
      case measure => simp [intOf]; omega
    · have hkl : k = l.length := by omega
      subst hkl
      rw [List.take_length] at e1 e2 ⊢
      clear h6
      go_wp2
      go_ret
      exact ⟨ret_u32 (by rw [adl, adH, adL]), rfl⟩
theorem refOf_any (v : Value) (l : List Int) (w : World) (h : Row w .u8 v l) (hr : l.length ≤ 140737488355328) :
    Calls Try.prog 11 #[v] w fun e w' => e = .returned (.int .u32 (adl 1 l)) ∧ w = w' := by
  go_enter Try.func11, Try.ntmps11
  go_wp2_with (go_at_call 13; refine (refOn_any 1 _ l _ h (by omega) (by omega) hr).mono ?_; rintro e w1 ⟨rfl, rfl⟩)
  go_ret
  exact ⟨rfl, rfl⟩

theorem fit_lit {l : List Int} (h : l.all (fun x => decide (0 ≤ x) && decide (x ≤ 255)) = true) : Fit .u8 l := by
  intro x hx
  have := List.all_eq_true.1 h x hx
  simp at this
  exact wf_u8 this.1 this.2
/-- A slice of bytes that was built in place. -/
theorem Row.lit (w : World) (g : Nat) (l : List Int) (h : l.all (fun x => decide (0 ≤ x) && decide (x ≤ 255)) = true) (hl : l.length ≤ 65536) (hg : g = w.heap.size) :
    Row (w.alloc (.cells (l.map (Value.int .u8)).toArray 5)) .u8 (.slice (some ⟨g, 0, none⟩) l.length l.length) l := by
  subst hg
  exact Row.built w .u8 _ l (fit_lit h) hl

/-- A slice of bytes that a constant text lays: one place behind its last cell is marked. -/
theorem Row.marked (w : World) (g : Nat) (l : List Int) (m : Nat × Nat) (h : l.all (fun x => decide (0 ≤ x) && decide (x ≤ 255)) = true) (hl : l.length ≤ 65536) (hg : g = w.heap.size) :
    Row (w.alloc (.cells (l.map (Value.int .u8)).toArray 5 m)) .u8 (.slice (some ⟨g, 0, none⟩) l.length l.length) l := by
  subst hg
  refine ⟨_, _, rfl, Nat.le_refl _, by simp only [maxLen]; omega, (fun h => by cases h), fit_lit h, fun _ => ⟨_, _, rfl, by simp, fun j hj => ?_⟩⟩
  rw [cell_of_row (w.alloc (.cells (l.map (Value.int .u8)).toArray 5 m)) w.heap.size (0 + j) _ 5 m (heap_alloc_new w _)]
  simp [gi, hj]

set_option maxHeartbeats 4000000 in
theorem works_any (w : World) : Calls Try.prog 15 #[] w (RetB w true) := by
  have x0 := Ext.refl w
  have kc := fun (w : World) (C : Array Value) (n c : Nat) => Lib.run_convert_bytes_const (P := Try.prog) w 23 5 C n c Try.underlying23 Try.underlying5
  go_enter Try.func15, Try.ntmps15
  go_wp2_with fail
  refine (Of_any _ [] _ (by exact (Own.nil 0 _ 0 _).row) (by decide)).mono ?_
  rw [show adl 1 [] = 1 from by decide +kernel]
  rintro e w1 ⟨rfl, hw1⟩
  have x1 : Ext w w1 := by rw [← hw1]; exact x0
  clear hw1
  go_wp2_with fail
  refine (Of_any _ [97] _ (by exact Row.marked _ _ [97] _ (by decide) (by decide) (by simp)) (by decide)).mono ?_
  rw [show adl 1 [97] = 6422626 from by decide +kernel]
  rintro e w2 ⟨rfl, hw2⟩
  have x2 : Ext w w2 := by rw [← hw2]; exact (x1.alloc _)
  clear hw2
  go_wp2_with fail
  refine (Of_any _ [97, 98, 99] _ (by exact Row.marked _ _ [97, 98, 99] _ (by decide) (by decide) (by simp)) (by decide)).mono ?_
  rw [show adl 1 [97, 98, 99] = 38600999 from by decide +kernel]
  rintro e w3 ⟨rfl, hw3⟩
  have x3 : Ext w w3 := by rw [← hw3]; exact (x2.alloc _)
  clear hw3
  go_wp2_with fail
  refine (Of_any _ [87, 105, 107, 105, 112, 101, 100, 105, 97] _ (by exact Row.marked _ _ [87, 105, 107, 105, 112, 101, 100, 105, 97] _ (by decide) (by decide) (by simp)) (by decide)).mono ?_
  rw [show adl 1 [87, 105, 107, 105, 112, 101, 100, 105, 97] = 300286872 from by decide +kernel]
  rintro e w4 ⟨rfl, hw4⟩
  have x4 : Ext w w4 := by rw [← hw4]; exact (x3.alloc _)
  clear hw4
  go_wp2_with fail
  refine (Of_any _ [87, 105, 107, 105] _ (by exact Row.marked _ _ [87, 105, 107, 105] _ (by decide) (by decide) (by simp)) (by decide)).mono ?_
  rw [show adl 1 [87, 105, 107, 105] = 64618901 from by decide +kernel]
  rintro e w5 ⟨rfl, hw5⟩
  have x5 : Ext w w5 := by rw [← hw5]; exact (x4.alloc _)
  clear hw5
  go_wp2_with fail
  refine (On_any 64618901 _ [112, 101, 100, 105, 97] _ (by exact Row.marked _ _ [112, 101, 100, 105, 97] _ (by decide) (by decide) (by simp)) (by omega) (by omega) (by decide)).mono ?_
  rw [show adl 64618901 [112, 101, 100, 105, 97] = 300286872 from by decide +kernel]
  rintro e w6 ⟨rfl, hw6⟩
  have x6 : Ext w w6 := by rw [← hw6]; exact (x5.alloc _)
  clear hw6
  go_wp2_with fail
  go_ret
  exact ⟨rfl, x6⟩
end Go.Proofs.Ytokegociipcccaa
