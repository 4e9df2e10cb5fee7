/- Several texts of this proof, one behind the other. -/
import Derived.Test.YtokmeomjdpfknaaGreatDoorZbG
import Derived.Test.YtokmeomjdpfknaaGreatDoorZbI
namespace Go.Proofs.YtokmeomjdpfknaaGreatDoor
open Go.RowKit
set_option linter.unusedVariables false

def nmL : List ByteArray := [⟨#[110, 111, 112]⟩,
  ⟨#[105, 99, 111, 110, 115, 116]⟩,
  ⟨#[108, 99, 111, 110, 115, 116]⟩,
  ⟨#[108, 100, 99]⟩,
  ⟨#[110, 117, 108, 108]⟩,
  ⟨#[105, 108, 111, 97, 100]⟩,
  ⟨#[108, 108, 111, 97, 100]⟩,
  ⟨#[97, 108, 111, 97, 100]⟩,
  ⟨#[105, 115, 116, 111, 114, 101]⟩,
  ⟨#[108, 115, 116, 111, 114, 101]⟩,
  ⟨#[97, 115, 116, 111, 114, 101]⟩,
  ⟨#[105, 105, 110, 99]⟩,
  ⟨#[112, 111, 112]⟩,
  ⟨#[112, 111, 112, 50]⟩,
  ⟨#[100, 117, 112]⟩,
  ⟨#[100, 117, 112, 120, 49]⟩,
  ⟨#[100, 117, 112, 50]⟩,
  ⟨#[115, 119, 97, 112]⟩,
  ⟨#[105, 97, 100, 100]⟩,
  ⟨#[105, 115, 117, 98]⟩,
  ⟨#[105, 109, 117, 108]⟩,
  ⟨#[105, 100, 105, 118]⟩,
  ⟨#[105, 114, 101, 109]⟩,
  ⟨#[105, 97, 110, 100]⟩,
  ⟨#[105, 111, 114]⟩,
  ⟨#[105, 120, 111, 114]⟩,
  ⟨#[105, 115, 104, 108]⟩,
  ⟨#[105, 115, 104, 114]⟩,
  ⟨#[105, 117, 115, 104, 114]⟩,
  ⟨#[105, 110, 101, 103]⟩,
  ⟨#[108, 97, 100, 100]⟩,
  ⟨#[108, 115, 117, 98]⟩,
  ⟨#[108, 109, 117, 108]⟩,
  ⟨#[108, 100, 105, 118]⟩,
  ⟨#[108, 114, 101, 109]⟩,
  ⟨#[108, 97, 110, 100]⟩,
  ⟨#[108, 111, 114]⟩,
  ⟨#[108, 120, 111, 114]⟩,
  ⟨#[108, 110, 101, 103]⟩,
  ⟨#[108, 99, 109, 112]⟩,
  ⟨#[105, 50, 108]⟩,
  ⟨#[108, 50, 105]⟩,
  ⟨#[105, 102, 101, 113]⟩,
  ⟨#[105, 102, 110, 101]⟩,
  ⟨#[105, 102, 108, 116]⟩,
  ⟨#[105, 102, 103, 101]⟩,
  ⟨#[105, 102, 103, 116]⟩,
  ⟨#[105, 102, 108, 101]⟩,
  ⟨#[105, 99, 109, 112, 101, 113]⟩,
  ⟨#[105, 99, 109, 112, 110, 101]⟩,
  ⟨#[105, 99, 109, 112, 108, 116]⟩,
  ⟨#[105, 99, 109, 112, 103, 101]⟩,
  ⟨#[105, 99, 109, 112, 103, 116]⟩,
  ⟨#[105, 99, 109, 112, 108, 101]⟩,
  ⟨#[97, 99, 109, 112, 101, 113]⟩,
  ⟨#[97, 99, 109, 112, 110, 101]⟩,
  ⟨#[105, 102, 110, 117, 108, 108]⟩,
  ⟨#[105, 102, 110, 111, 110, 110, 117, 108, 108]⟩,
  ⟨#[103, 111, 116, 111]⟩,
  ⟨#[116, 115, 119, 105, 116, 99, 104]⟩,
  ⟨#[108, 115, 119, 105, 116, 99, 104]⟩,
  ⟨#[103, 101, 116, 115, 116, 97, 116, 105, 99]⟩,
  ⟨#[112, 117, 116, 115, 116, 97, 116, 105, 99]⟩,
  ⟨#[103, 101, 116, 102, 105, 101, 108, 100]⟩,
  ⟨#[112, 117, 116, 102, 105, 101, 108, 100]⟩,
  ⟨#[110, 101, 119]⟩,
  ⟨#[110, 101, 119, 105, 110, 116, 115]⟩,
  ⟨#[110, 101, 119, 108, 111, 110, 103, 115]⟩,
  ⟨#[110, 101, 119, 114, 101, 102, 115]⟩,
  ⟨#[108, 101, 110, 103, 116, 104]⟩,
  ⟨#[105, 97, 103, 101, 116]⟩,
  ⟨#[108, 97, 103, 101, 116]⟩,
  ⟨#[97, 97, 103, 101, 116]⟩,
  ⟨#[105, 97, 112, 117, 116]⟩,
  ⟨#[108, 97, 112, 117, 116]⟩,
  ⟨#[97, 97, 112, 117, 116]⟩,
  ⟨#[99, 97, 115, 116]⟩,
  ⟨#[105, 115]⟩,
  ⟨#[116, 104, 114, 111, 119]⟩,
  ⟨#[99, 97, 108, 108, 115, 116, 97, 116, 105, 99]⟩,
  ⟨#[99, 97, 108, 108, 118, 105, 114, 116, 117, 97, 108]⟩,
  ⟨#[99, 97, 108, 108, 105, 110, 116, 101, 114, 102, 97, 99, 101]⟩,
  ⟨#[99, 97, 108, 108, 115, 112, 101, 99, 105, 97, 108]⟩,
  ⟨#[105, 114, 101, 116, 117, 114, 110]⟩,
  ⟨#[108, 114, 101, 116, 117, 114, 110]⟩,
  ⟨#[97, 114, 101, 116, 117, 114, 110]⟩,
  ⟨#[114, 101, 116, 117, 114, 110]⟩,
  ⟨#[105, 111, 117, 116]⟩,
  ⟨#[108, 111, 117, 116]⟩,
  ⟨#[105, 105, 110]⟩]
def LINES : Array Value := #[.string ⟨#[110, 111, 112]⟩, .int .i64 0, .bool false,
  .string ⟨#[105, 99, 111, 110, 115, 116]⟩, .int .i64 2, .bool false,
  .string ⟨#[108, 99, 111, 110, 115, 116]⟩, .int .i64 2, .bool false,
  .string ⟨#[108, 100, 99]⟩, .int .i64 3, .bool false,
  .string ⟨#[110, 117, 108, 108]⟩, .int .i64 0, .bool false,
  .string ⟨#[105, 108, 111, 97, 100]⟩, .int .i64 1, .bool false,
  .string ⟨#[108, 108, 111, 97, 100]⟩, .int .i64 1, .bool false,
  .string ⟨#[97, 108, 111, 97, 100]⟩, .int .i64 1, .bool false,
  .string ⟨#[105, 115, 116, 111, 114, 101]⟩, .int .i64 1, .bool false,
  .string ⟨#[108, 115, 116, 111, 114, 101]⟩, .int .i64 1, .bool false,
  .string ⟨#[97, 115, 116, 111, 114, 101]⟩, .int .i64 1, .bool false,
  .string ⟨#[105, 105, 110, 99]⟩, .int .i64 5, .bool false,
  .string ⟨#[112, 111, 112]⟩, .int .i64 0, .bool false,
  .string ⟨#[112, 111, 112, 50]⟩, .int .i64 0, .bool false,
  .string ⟨#[100, 117, 112]⟩, .int .i64 0, .bool false,
  .string ⟨#[100, 117, 112, 120, 49]⟩, .int .i64 0, .bool false,
  .string ⟨#[100, 117, 112, 50]⟩, .int .i64 0, .bool false,
  .string ⟨#[115, 119, 97, 112]⟩, .int .i64 0, .bool false,
  .string ⟨#[105, 97, 100, 100]⟩, .int .i64 0, .bool false,
  .string ⟨#[105, 115, 117, 98]⟩, .int .i64 0, .bool false,
  .string ⟨#[105, 109, 117, 108]⟩, .int .i64 0, .bool false,
  .string ⟨#[105, 100, 105, 118]⟩, .int .i64 0, .bool false,
  .string ⟨#[105, 114, 101, 109]⟩, .int .i64 0, .bool false,
  .string ⟨#[105, 97, 110, 100]⟩, .int .i64 0, .bool false,
  .string ⟨#[105, 111, 114]⟩, .int .i64 0, .bool false,
  .string ⟨#[105, 120, 111, 114]⟩, .int .i64 0, .bool false,
  .string ⟨#[105, 115, 104, 108]⟩, .int .i64 0, .bool false,
  .string ⟨#[105, 115, 104, 114]⟩, .int .i64 0, .bool false,
  .string ⟨#[105, 117, 115, 104, 114]⟩, .int .i64 0, .bool false,
  .string ⟨#[105, 110, 101, 103]⟩, .int .i64 0, .bool false,
  .string ⟨#[108, 97, 100, 100]⟩, .int .i64 0, .bool false,
  .string ⟨#[108, 115, 117, 98]⟩, .int .i64 0, .bool false,
  .string ⟨#[108, 109, 117, 108]⟩, .int .i64 0, .bool false,
  .string ⟨#[108, 100, 105, 118]⟩, .int .i64 0, .bool false,
  .string ⟨#[108, 114, 101, 109]⟩, .int .i64 0, .bool false,
  .string ⟨#[108, 97, 110, 100]⟩, .int .i64 0, .bool false,
  .string ⟨#[108, 111, 114]⟩, .int .i64 0, .bool false,
  .string ⟨#[108, 120, 111, 114]⟩, .int .i64 0, .bool false,
  .string ⟨#[108, 110, 101, 103]⟩, .int .i64 0, .bool false,
  .string ⟨#[108, 99, 109, 112]⟩, .int .i64 0, .bool false,
  .string ⟨#[105, 50, 108]⟩, .int .i64 0, .bool false,
  .string ⟨#[108, 50, 105]⟩, .int .i64 0, .bool false,
  .string ⟨#[105, 102, 101, 113]⟩, .int .i64 4, .bool false,
  .string ⟨#[105, 102, 110, 101]⟩, .int .i64 4, .bool false,
  .string ⟨#[105, 102, 108, 116]⟩, .int .i64 4, .bool false,
  .string ⟨#[105, 102, 103, 101]⟩, .int .i64 4, .bool false,
  .string ⟨#[105, 102, 103, 116]⟩, .int .i64 4, .bool false,
  .string ⟨#[105, 102, 108, 101]⟩, .int .i64 4, .bool false,
  .string ⟨#[105, 99, 109, 112, 101, 113]⟩, .int .i64 4, .bool false,
  .string ⟨#[105, 99, 109, 112, 110, 101]⟩, .int .i64 4, .bool false,
  .string ⟨#[105, 99, 109, 112, 108, 116]⟩, .int .i64 4, .bool false,
  .string ⟨#[105, 99, 109, 112, 103, 101]⟩, .int .i64 4, .bool false,
  .string ⟨#[105, 99, 109, 112, 103, 116]⟩, .int .i64 4, .bool false,
  .string ⟨#[105, 99, 109, 112, 108, 101]⟩, .int .i64 4, .bool false,
  .string ⟨#[97, 99, 109, 112, 101, 113]⟩, .int .i64 4, .bool false,
  .string ⟨#[97, 99, 109, 112, 110, 101]⟩, .int .i64 4, .bool false,
  .string ⟨#[105, 102, 110, 117, 108, 108]⟩, .int .i64 4, .bool false,
  .string ⟨#[105, 102, 110, 111, 110, 110, 117, 108, 108]⟩, .int .i64 4, .bool false,
  .string ⟨#[103, 111, 116, 111]⟩, .int .i64 4, .bool true,
  .string ⟨#[116, 115, 119, 105, 116, 99, 104]⟩, .int .i64 6, .bool true,
  .string ⟨#[108, 115, 119, 105, 116, 99, 104]⟩, .int .i64 7, .bool true,
  .string ⟨#[103, 101, 116, 115, 116, 97, 116, 105, 99]⟩, .int .i64 3, .bool false,
  .string ⟨#[112, 117, 116, 115, 116, 97, 116, 105, 99]⟩, .int .i64 3, .bool false,
  .string ⟨#[103, 101, 116, 102, 105, 101, 108, 100]⟩, .int .i64 3, .bool false,
  .string ⟨#[112, 117, 116, 102, 105, 101, 108, 100]⟩, .int .i64 3, .bool false,
  .string ⟨#[110, 101, 119]⟩, .int .i64 3, .bool false,
  .string ⟨#[110, 101, 119, 105, 110, 116, 115]⟩, .int .i64 0, .bool false,
  .string ⟨#[110, 101, 119, 108, 111, 110, 103, 115]⟩, .int .i64 0, .bool false,
  .string ⟨#[110, 101, 119, 114, 101, 102, 115]⟩, .int .i64 3, .bool false,
  .string ⟨#[108, 101, 110, 103, 116, 104]⟩, .int .i64 0, .bool false,
  .string ⟨#[105, 97, 103, 101, 116]⟩, .int .i64 0, .bool false,
  .string ⟨#[108, 97, 103, 101, 116]⟩, .int .i64 0, .bool false,
  .string ⟨#[97, 97, 103, 101, 116]⟩, .int .i64 0, .bool false,
  .string ⟨#[105, 97, 112, 117, 116]⟩, .int .i64 0, .bool false,
  .string ⟨#[108, 97, 112, 117, 116]⟩, .int .i64 0, .bool false,
  .string ⟨#[97, 97, 112, 117, 116]⟩, .int .i64 0, .bool false,
  .string ⟨#[99, 97, 115, 116]⟩, .int .i64 3, .bool false,
  .string ⟨#[105, 115]⟩, .int .i64 3, .bool false,
  .string ⟨#[116, 104, 114, 111, 119]⟩, .int .i64 0, .bool true,
  .string ⟨#[99, 97, 108, 108, 115, 116, 97, 116, 105, 99]⟩, .int .i64 3, .bool false,
  .string ⟨#[99, 97, 108, 108, 118, 105, 114, 116, 117, 97, 108]⟩, .int .i64 3, .bool false,
  .string ⟨#[99, 97, 108, 108, 105, 110, 116, 101, 114, 102, 97, 99, 101]⟩, .int .i64 3, .bool false,
  .string ⟨#[99, 97, 108, 108, 115, 112, 101, 99, 105, 97, 108]⟩, .int .i64 3, .bool false,
  .string ⟨#[105, 114, 101, 116, 117, 114, 110]⟩, .int .i64 0, .bool true,
  .string ⟨#[108, 114, 101, 116, 117, 114, 110]⟩, .int .i64 0, .bool true,
  .string ⟨#[97, 114, 101, 116, 117, 114, 110]⟩, .int .i64 0, .bool true,
  .string ⟨#[114, 101, 116, 117, 114, 110]⟩, .int .i64 0, .bool true,
  .string ⟨#[105, 111, 117, 116]⟩, .int .i64 0, .bool false,
  .string ⟨#[108, 111, 117, 116]⟩, .int .i64 0, .bool false,
  .string ⟨#[105, 105, 110]⟩, .int .i64 0, .bool false]
def nameZ (o : Int) : ByteArray := if 0 ≤ o ∧ o ≤ 89 then nmL.getD o.toNat ⟨#[]⟩ else ⟨#[]⟩
def inOp (o : Int) : Bool := decide (0 ≤ o ∧ o ≤ 89)
theorem part_all : (List.range 90).map (fun k => LINES.extract (k * 3) (k * 3 + 3)) = (List.range 90).map (fun k => #[Value.string (nameZ (k : Nat)), .int .i64 (shapeZ (k : Nat)), .bool (endsZ (k : Nat))]) := by kernel_rfl
theorem part_lines (o : Int) (h0 : 0 ≤ o) (h1 : o ≤ 89) : LINES.extract (o.toNat * 3) (o.toNat * 3 + 3) = #[.string (nameZ o), .int .i64 (shapeZ o), .bool (endsZ o)] := by
  obtain ⟨k, rfl⟩ : ∃ k : Nat, o = (k : Int) := ⟨o.toNat, by omega⟩
  have hk : k < 90 := by omega
  have h := congrArg (fun l => l[k]?) part_all
  rw [List.getElem?_map, List.getElem?_map, List.getElem?_range hk] at h
  rw [Int.toNat_natCast]
  exact Option.some.inj h
end Go.Proofs.YtokmeomjdpfknaaGreatDoor
namespace Go.Proofs.YtokmeomjdpfknaaGreatDoor
open Go.RowKit
set_option linter.unusedVariables false

def Z270 : Array Value := ((List.replicate 90 [Value.string ⟨#[]⟩, .int .i64 0, .bool false]).flatten).toArray
theorem lines_any (w : World) : Calls Tryz.prog 260 #[] w fun e w' => e = .returned (.agg LINES) ∧ Ext w w' := by
  go_enter Tryz.func260, Tryz.ntmps260
  refine wp_seq (wp_region_list ?_)
  refine wpList_alloc_row rfl _ rfl Z270 270 (by kernel_rfl) (by kernel_rfl) ?_
  refine wpList_nil ?_
  refine wp_seq (wp_region_list ?_)
  iterate 91 refine wpList_build rfl _ _ rfl (by kernel_rfl) ?_
  refine wpList_store_row rfl _ _ _ rfl w.heap.size LINES (by kernel_rfl) (by kernel_rfl) 276 Z270 (heap_alloc_new w _) (by kernel_rfl) (by kernel_rfl) (by kernel_rfl) ?_
  refine wpList_nil ?_
  refine wp_ret ?_
  refine bodyPost_ret (v := .agg LINES) (results_cell_row (p := 0) (ty := 276) (by kernel_rfl) _ _ w.heap.size 276 LINES (0, 0) (.array 90 261) (by kernel_rfl) (setRow_heap _ _ Z270 _ _ _ (heap_alloc_new w _)) (by kernel_rfl) rfl (by kernel_rfl)) rfl ⟨rfl, ?_⟩
  exact ((Ext.refl w).alloc _).setRow_ (Nat.le_refl _) _
theorem run_index_lines (w : World) (o : Int) (h0 : 0 ≤ o) (h1 : o ≤ 89) :
    (Instr.index 276 (.agg LINES) (.int .i64 o)).run Tryz.prog w = .ok (.agg #[.string (nameZ o), .int .i64 (shapeZ o), .bool (endsZ o)]) w := by
  have hp := part_lines o h0 h1
  have hz : 0 ≤ o ∧ o < 90 := by omega
  simp [Instr.index, go_sem]
  rw [if_pos hz, hp]
end Go.Proofs.YtokmeomjdpfknaaGreatDoor
namespace Go.Proofs.YtokmeomjdpfknaaGreatDoor
open Go.RowKit
set_option linter.unusedVariables false

def inR (a b n : Int) : Bool := decide (a ≤ n ∧ n ≤ b)
theorem has_any (a b n : Int) (w : World) : Calls Tryz.prog 275 #[.agg #[.int .i64 a, .int .i64 b], .int .i64 n] w fun e w' => e = .returned (.bool (inR a b n)) ∧ Ext w w' := by
  have H : (a ≤ n ∧ n ≤ b) ∨ n < a ∨ (a ≤ n ∧ ¬ n ≤ b) := by omega
  rcases H with ⟨h, h'⟩ | h | ⟨h, h'⟩
  · rw [show inR a b n = true by unfold inR; simp; omega]
    go_enter Tryz.func275, Tryz.ntmps275
    go_wp2
    go_ret
    exact ⟨rfl, (Ext.refl w).alloc _⟩
  · rw [show inR a b n = false by unfold inR; simp; omega]
    go_enter Tryz.func275, Tryz.ntmps275
    go_wp2
    go_ret
    exact ⟨rfl, (Ext.refl w).alloc _⟩
  · rw [show inR a b n = false by unfold inR; simp; omega]
    go_enter Tryz.func275, Tryz.ntmps275
    go_wp2
    go_ret
    exact ⟨rfl, (Ext.refl w).alloc _⟩
theorem places_any (w : World) : Calls Tryz.prog 274 #[] w fun e w' => e = .returned (.agg #[.int .i64 0, .int .i64 8191]) ∧ w' = w.alloc (.cells #[.int .i64 0, .int .i64 8191] 286) := by
  go_enter Tryz.func274, Tryz.ntmps274
  go_wp2
  refine bodyPost_ret (v := .agg #[.int .i64 0, .int .i64 8191]) (by simp [results, Tryz.results274, go_sem]; first | done | rfl | exact ⟨rfl, rfl⟩) rfl ⟨rfl, ?_⟩
  rfl
theorem pints_any (w : World) : Calls Tryz.prog 289 #[] w fun e w' => e = .returned (.agg #[.int .i64 (-2147483648), .int .i64 2147483647]) ∧ w' = w.alloc (.cells #[.int .i64 (-2147483648), .int .i64 2147483647] 286) := by
  go_enter Tryz.func289, Tryz.ntmps289
  go_wp2
  refine bodyPost_ret (v := .agg #[.int .i64 (-2147483648), .int .i64 2147483647]) (by simp [results, Tryz.results289, go_sem]; first | done | rfl | exact ⟨rfl, rfl⟩) rfl ⟨rfl, ?_⟩
  rfl
def rnl (z : Int) : Int := if z = 2 then -32768 else if z = 6 then -2147483648 else 0
def rnh (z : Int) : Int := if z = 1 then 255 else if z = 2 then 32767 else if z = 3 then 65535 else if z = 5 then 255 else if z = 6 then 2147483647 else 0
def rml (z : Int) : Int := if z = 5 then -128 else 0
def rmh (z : Int) : Int := if z = 5 then 127 else 0
def rtl (z : Int) : Int := if z = 4 then 1 else if z = 6 then 2 else if z = 7 then 1 else 0
def rth (z : Int) : Int := if z = 4 then 1 else if z = 6 then 1001 else if z = 7 then 1001 else 0
def roomV (z : Int) : List Value := [.int .i64 (rnl z), .int .i64 (rnh z), .int .i64 (rml z), .int .i64 (rmh z), .int .i64 (rtl z), .int .i64 (rth z)]
def ROOMS : Array Value := (roomV 0 ++ roomV 1 ++ roomV 2 ++ roomV 3 ++ roomV 4 ++ roomV 5 ++ roomV 6 ++ roomV 7).toArray
theorem part_rooms (z : Int) (h0 : 0 ≤ z) (h1 : z ≤ 7) : ROOMS.extract (z.toNat * 6) (z.toNat * 6 + 6) = #[.int .i64 (rnl z), .int .i64 (rnh z), .int .i64 (rml z), .int .i64 (rmh z), .int .i64 (rtl z), .int .i64 (rth z)] := by
  have hz : z = 0 ∨ z = 1 ∨ z = 2 ∨ z = 3 ∨ z = 4 ∨ z = 5 ∨ z = 6 ∨ z = 7 := by omega
  rcases hz with rfl | rfl | rfl | rfl | rfl | rfl | rfl | rfl <;> rfl
def Z48 : Array Value := (List.replicate 48 (Value.int .i64 0)).toArray
theorem rooms_any (w : World) : Calls Tryz.prog 276 #[] w fun e w' => e = .returned (.agg ROOMS) ∧ Ext w w' := by
  go_enter Tryz.func276, Tryz.ntmps276
  refine wp_seq (wp_region_list ?_)
  refine wpList_alloc_row rfl _ rfl Z48 48 (by kernel_rfl) (by kernel_rfl) ?_
  refine wpList_nil ?_
  refine wp_seq (wp_region_list ?_)
  iterate 12 refine wpList_build rfl _ _ rfl (by kernel_rfl) ?_
  refine wpList_call0 rfl 289 rfl (by simp [go_sem]) ?_
  refine (pints_any _).mono ?_
  rintro e w1 ⟨rfl, rfl⟩
  refine ⟨_, rfl, ?_⟩
  iterate 5 refine wpList_build rfl _ _ rfl (by kernel_rfl) ?_
  have hb : ((w.alloc (.cells Z48 290)).alloc (.cells #[.int .i64 (-2147483648), .int .i64 2147483647] 286)).heap[w.heap.size]? = some (.cells Z48 290 (0, 0)) := by
    rw [heap_alloc_old _ _ (by simp)]
    exact heap_alloc_new w _
  refine wpList_store_row rfl _ _ _ rfl w.heap.size ROOMS (by kernel_rfl) (by kernel_rfl) 290 Z48 hb (by kernel_rfl) (by kernel_rfl) (by kernel_rfl) ?_
  refine wpList_nil ?_
  refine wp_ret ?_
  refine bodyPost_ret (v := .agg ROOMS) (results_cell_row (p := 0) (ty := 290) (by kernel_rfl) _ _ w.heap.size 290 ROOMS (0, 0) (.array 8 289) (by kernel_rfl) (setRow_heap _ _ Z48 _ _ _ hb) (by kernel_rfl) rfl (by kernel_rfl)) rfl ⟨rfl, ?_⟩
  exact (((Ext.refl w).alloc _).alloc _).setRow_ (Nat.le_refl _) _
theorem run_index_rooms (w : World) (z : Int) (h0 : 0 ≤ z) (h1 : z ≤ 7) :
    (Instr.index 290 (.agg ROOMS) (.int .i64 z)).run Tryz.prog w = .ok (.agg #[.int .i64 (rnl z), .int .i64 (rnh z), .int .i64 (rml z), .int .i64 (rmh z), .int .i64 (rtl z), .int .i64 (rth z)]) w := by
  have hp := part_rooms z h0 h1
  have hz : 0 ≤ z ∧ z < 8 := by omega
  simp [Instr.index, go_sem]
  rw [if_pos hz, hp]
end Go.Proofs.YtokmeomjdpfknaaGreatDoor
namespace Go.Proofs.YtokmeomjdpfknaaGreatDoor
open Go.RowKit
set_option linter.unusedVariables false

theorem three_cells {w : World} {g : Nat} {a b c : Value} {T : TypeId} (h : w.heap[g]? = some (.cells #[a, b, c] T (0, 0))) :
    w.cell? ⟨g, 0, none⟩ = some a ∧ w.cell? ⟨g, 1, none⟩ = some b ∧ w.cell? ⟨g, 2, none⟩ = some c ∧ w.frozen? ⟨g, 0, none⟩ = false ∧ w.frozen? ⟨g, 1, none⟩ = false ∧ w.frozen? ⟨g, 2, none⟩ = false :=
  ⟨by rw [cell_of_row w g 0 _ _ (0, 0) h]; rfl, by rw [cell_of_row w g 1 _ _ (0, 0) h]; rfl, by rw [cell_of_row w g 2 _ _ (0, 0) h]; rfl, by simp [World.frozen?, h], by simp [World.frozen?, h], by simp [World.frozen?, h]⟩
theorem name_out {o : Int} (h : ¬ (0 ≤ o ∧ o ≤ 89)) : nameZ o = ⟨#[]⟩ ∧ shapeZ o = 0 ∧ endsZ o = false ∧ inOp o = false := by
  refine ⟨by unfold nameZ; rw [if_neg h], ?_, by unfold endsZ; simp; omega, by unfold inOp; simp; omega⟩
  unfold shapeZ
  repeat' split
  all_goals omega
theorem lineOf_any (o : Int) (w : World) : Calls Tryz.prog 238 #[.int .i64 o] w fun e w' =>
    e = .returned (.tuple #[.agg #[.string (nameZ o), .int .i64 (shapeZ o), .bool (endsZ o)], .bool (inOp o)]) ∧ Ext w w' := by
  by_cases h : 0 ≤ o ∧ o ≤ 89
  · obtain ⟨h0, h1⟩ := h
    rw [show inOp o = true by unfold inOp; simp; omega]
    have hi := fun W => run_index_lines W o h0 h1
    go_enter Tryz.func238, Tryz.ntmps238
    go_wp2_with (go_at_call 260; refine (lines_any _).mono ?_; rintro e w1 ⟨rfl, x1⟩; obtain ⟨c0, c1, c2, f0, f1, f2⟩ := three_cells ((x1.block w.heap.size (by simp)).trans (heap_alloc_new w _)))
    refine bodyPost_ret (v := .tuple #[.agg #[.string (nameZ o), .int .i64 (shapeZ o), .bool (endsZ o)], .bool true]) (by simp [results, Tryz.results238, go_sem, c0, c1, c2]) rfl ⟨rfl, ?_⟩
    exact (((((Ext.refl w).alloc _).trans x1).set_ (Nat.le_refl _) _).set_ (Nat.le_refl _) _).set_ (Nat.le_refl _) _
  · have h' := h
    obtain ⟨e1, e2, e3, e4⟩ := name_out h
    rw [e1, e2, e3, e4]
    clear e1 e2 e3 e4
    by_cases h0 : o < 0
    · clear h h'
      go_enter Tryz.func238, Tryz.ntmps238
      go_wp2
      refine bodyPost_ret (v := .tuple #[.agg #[.string ⟨#[]⟩, .int .i64 0, .bool false], .bool false]) (by simp [results, Tryz.results238, go_sem]) rfl ⟨rfl, ?_⟩
      exact (Ext.refl w).alloc _
    · have h1 : 89 < o := by omega
      clear h h'
      go_enter Tryz.func238, Tryz.ntmps238
      go_wp2
      refine bodyPost_ret (v := .tuple #[.agg #[.string ⟨#[]⟩, .int .i64 0, .bool false], .bool false]) (by simp [results, Tryz.results238, go_sem]) rfl ⟨rfl, ?_⟩
      exact (Ext.refl w).alloc _
theorem Shape_any (o : Int) (w : World) : Calls Tryz.prog 267 #[.int .i64 o] w fun e w' => e = .returned (.int .i64 (shapeZ o)) ∧ Ext w w' := by
  go_enter Tryz.func267, Tryz.ntmps267
  go_wp2_with (go_at_call 238; refine (lineOf_any _ _).mono ?_; rintro e w1 ⟨rfl, x1⟩)
  go_ret
  exact ⟨rfl, x1.alloc _⟩
theorem Ends_any (o : Int) (w : World) : Calls Tryz.prog 201 #[.int .i64 o] w fun e w' => e = .returned (.bool (endsZ o)) ∧ Ext w w' := by
  go_enter Tryz.func201, Tryz.ntmps201
  go_wp2_with (go_at_call 238; refine (lineOf_any _ _).mono ?_; rintro e w1 ⟨rfl, x1⟩)
  go_ret
  exact ⟨rfl, x1.alloc _⟩
end Go.Proofs.YtokmeomjdpfknaaGreatDoor
