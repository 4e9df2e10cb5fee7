/- The project's leaves: spans, rooms. -/
import Derived.Test.YthobicnhophdlaaOpsW
namespace Go.Proofs.Ythobicnhophdlaa
open Go.RowKit
set_option linter.unusedVariables false

/-- Is a number from one up to another one? -/
def inR (a b n : Int) : Bool := decide (a ≤ n ∧ n ≤ b)
theorem has_any (a b n : Int) (w : World) : Calls Try.prog 45 #[.agg #[.int .i64 a, .int .i64 b], .int .i64 n] w fun e w' => e = .returned (.bool (inR a b n)) ∧ Ext w w' := by
  have H : (a ≤ n ∧ n ≤ b) ∨ n < a ∨ (a ≤ n ∧ ¬ n ≤ b) := by omega
  rcases H with ⟨h, h'⟩ | h | ⟨h, h'⟩
  · rw [show inR a b n = true by unfold inR; simp; omega]
    go_enter Try.func45, Try.ntmps45
    go_wp2
    go_ret
    exact ⟨rfl, (Ext.refl w).alloc _⟩
  · rw [show inR a b n = false by unfold inR; simp; omega]
    go_enter Try.func45, Try.ntmps45
    go_wp2
    go_ret
    exact ⟨rfl, (Ext.refl w).alloc _⟩
  · rw [show inR a b n = false by unfold inR; simp; omega]
    go_enter Try.func45, Try.ntmps45
    go_wp2
    go_ret
    exact ⟨rfl, (Ext.refl w).alloc _⟩
theorem places_any (w : World) : Calls Try.prog 44 #[] w fun e w' => e = .returned (.agg #[.int .i64 0, .int .i64 8191]) ∧ w' = w.alloc (.cells #[.int .i64 0, .int .i64 8191] 82) := by
  go_enter Try.func44, Try.ntmps44
  go_wp2
  refine bodyPost_ret (v := .agg #[.int .i64 0, .int .i64 8191]) (by simp [results, Try.results44, go_sem]; first | done | rfl | exact ⟨rfl, rfl⟩) rfl ⟨rfl, ?_⟩
  rfl
theorem pints_any (w : World) : Calls Try.prog 57 #[] w fun e w' => e = .returned (.agg #[.int .i64 (-2147483648), .int .i64 2147483647]) ∧ w' = w.alloc (.cells #[.int .i64 (-2147483648), .int .i64 2147483647] 82) := by
  go_enter Try.func57, Try.ntmps57
  go_wp2
  refine bodyPost_ret (v := .agg #[.int .i64 (-2147483648), .int .i64 2147483647]) (by simp [results, Try.results57, go_sem]; first | done | rfl | exact ⟨rfl, rfl⟩) rfl ⟨rfl, ?_⟩
  rfl
/-- What the fields of a shape may be. -/
def rnl (z : Int) : Int := if z = 2 then -32768 else if z = 6 then -2147483648 else 0
def rnh (z : Int) : Int := if z = 1 then 255 else if z = 2 then 32767 else if z = 3 then 65535 else if z = 5 then 255 else if z = 6 then 2147483647 else 0
def rml (z : Int) : Int := if z = 5 then -128 else 0
def rmh (z : Int) : Int := if z = 5 then 127 else 0
def rtl (z : Int) : Int := if z = 4 then 1 else if z = 6 then 2 else if z = 7 then 1 else 0
def rth (z : Int) : Int := if z = 4 then 1 else if z = 6 then 1001 else if z = 7 then 1001 else 0
def roomV (z : Int) : List Value := [.int .i64 (rnl z), .int .i64 (rnh z), .int .i64 (rml z), .int .i64 (rmh z), .int .i64 (rtl z), .int .i64 (rth z)]
def ROOMS : Array Value := (roomV 0 ++ roomV 1 ++ roomV 2 ++ roomV 3 ++ roomV 4 ++ roomV 5 ++ roomV 6 ++ roomV 7).toArray
theorem part_rooms (z : Int) (h0 : 0 ≤ z) (h1 : z ≤ 7) : ROOMS.extract (z.toNat * 6) (z.toNat * 6 + 6) = #[.int .i64 (rnl z), .int .i64 (rnh z), .int .i64 (rml z), .int .i64 (rmh z), .int .i64 (rtl z), .int .i64 (rth z)] := by
  have hz : z = 0 ∨ z = 1 ∨ z = 2 ∨ z = 3 ∨ z = 4 ∨ z = 5 ∨ z = 6 ∨ z = 7 := by omega
  rcases hz with rfl | rfl | rfl | rfl | rfl | rfl | rfl | rfl <;> rfl
def Z48 : Array Value := (List.replicate 48 (Value.int .i64 0)).toArray
theorem rooms_any (w : World) : Calls Try.prog 46 #[] w fun e w' => e = .returned (.agg ROOMS) ∧ Ext w w' := by
  go_enter Try.func46, Try.ntmps46
  refine wp_seq (wp_region_list ?_)
  refine wpList_alloc_row rfl _ rfl Z48 48 (by kernel_rfl) (by kernel_rfl) ?_
  refine wpList_nil ?_
  refine wp_seq (wp_region_list ?_)
  iterate 12 refine wpList_build rfl _ _ rfl (by kernel_rfl) ?_
  refine wpList_call0 rfl 57 rfl (by simp [go_sem]) ?_
  refine (pints_any _).mono ?_
  rintro e w1 ⟨rfl, rfl⟩
  refine ⟨_, rfl, ?_⟩
  iterate 5 refine wpList_build rfl _ _ rfl (by kernel_rfl) ?_
  have hb : ((w.alloc (.cells Z48 86)).alloc (.cells #[.int .i64 (-2147483648), .int .i64 2147483647] 82)).heap[w.heap.size]? = some (.cells Z48 86 (0, 0)) := by
    rw [heap_alloc_old _ _ (by simp)]
    exact heap_alloc_new w _
  refine wpList_store_row rfl _ _ _ rfl w.heap.size ROOMS (by kernel_rfl) (by kernel_rfl) 86 Z48 hb (by kernel_rfl) (by kernel_rfl) (by kernel_rfl) ?_
  refine wpList_nil ?_
  refine wp_ret ?_
  refine bodyPost_ret (v := .agg ROOMS) (results_cell_row (p := 0) (ty := 86) (by kernel_rfl) _ _ w.heap.size 86 ROOMS (0, 0) (.array 8 85) (by kernel_rfl) (setRow_heap _ _ Z48 _ _ _ hb) (by kernel_rfl) rfl (by kernel_rfl)) rfl ⟨rfl, ?_⟩
  exact (((Ext.refl w).alloc _).alloc _).setRow_ (Nat.le_refl _) _
theorem run_index_rooms (w : World) (z : Int) (h0 : 0 ≤ z) (h1 : z ≤ 7) :
    (Instr.index 86 (.agg ROOMS) (.int .i64 z)).run Try.prog w = .ok (.agg #[.int .i64 (rnl z), .int .i64 (rnh z), .int .i64 (rml z), .int .i64 (rmh z), .int .i64 (rtl z), .int .i64 (rth z)]) w := by
  have hp := part_rooms z h0 h1
  have hz : 0 ≤ z ∧ z < 8 := by omega
  simp [Instr.index, go_sem]
  rw [if_pos hz, hp]
end Go.Proofs.Ythobicnhophdlaa
