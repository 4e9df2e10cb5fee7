/- The document's own reader of numbers, walked. -/
import Derived.Test.YtcgajgileehbbaaOpsC
import Derived.Test.YtcgajgileehbbaaOwn
namespace Go.Proofs.Ytcgajgileehbbaa
open Go.RowKit
set_option linter.unusedVariables false

theorem wraps_64 (n : Int) (h₀ : 0 ≤ n) (h₁ : n < 2 ^ 63) : IntKind.i64.wrap n = n := by rw [IntKind.wrap_i64]; omega
theorem or_byte (x y : Int) (h0 : 0 ≤ x) (h1 : x < 16777216) (hy : B8 y) : bits .or .i64 (x * 256) y = x * 256 + y := by
  unfold B8 at hy
  exact bits_join .i64 63 (by decide) wraps_64 8 (x * 256) y (by omega) (by simp) (by omega) hy.1 (by omega) (by omega)
theorem or_zero (y : Int) (hy : B8 y) : bits .or .i64 0 y = y := by
  have := or_byte 0 y (by decide) (by decide) hy
  simpa using this
/-- The document's reader in block g: its bytes, a place in them, whether they ended too early. -/
def NR (w : World) (g : Nat) (v : Value) (a : Int) (sh : Bool) : Prop := w.heap[g]? = some (.cells #[v, .int .i64 a, .bool sh] 90 (0, 0))
theorem NR.lt {w : World} {g : Nat} {v : Value} {a : Int} {sh : Bool} (h : NR w g v a sh) : g < w.heap.size := lt_of_get h
theorem NR.cells {w : World} {g : Nat} {v : Value} {a : Int} {sh : Bool} (h : NR w g v a sh) : w.cell? ⟨g, 0, none⟩ = some v ∧ w.cell? ⟨g, 1, none⟩ = some (.int .i64 a) ∧ w.cell? ⟨g, 2, none⟩ = some (.bool sh) ∧ w.frozen? ⟨g, 0, none⟩ = false ∧ w.frozen? ⟨g, 1, none⟩ = false ∧ w.frozen? ⟨g, 2, none⟩ = false :=
  ⟨by rw [cell_of_row w g 0 _ _ (0, 0) h]; rfl, by rw [cell_of_row w g 1 _ _ (0, 0) h]; rfl, by rw [cell_of_row w g 2 _ _ (0, 0) h]; rfl, by simp [World.frozen?, show w.heap[g]? = _ from h], by simp [World.frozen?, show w.heap[g]? = _ from h], by simp [World.frozen?, show w.heap[g]? = _ from h]⟩
theorem NR.drew {w : World} {g : Nat} {v : Value} {a : Int} {sh : Bool} (h : NR w g v a sh) (n : Nat) : NR (w.drewN n) g v a sh := h
theorem NR.setAt {w : World} {g : Nat} {v : Value} {a : Int} {sh : Bool} (h : NR w g v a sh) (c : Int) : NR (w.setCell ⟨g, 1, none⟩ (.int .i64 c)) g v c sh := by
  have h1 := heap_setCell_same w g 1 _ 90 (.int .i64 c) h
  unfold NR
  rw [h1]
  rfl
theorem NR.setShort {w : World} {g : Nat} {v : Value} {a : Int} {sh : Bool} (h : NR w g v a sh) (c : Bool) : NR (w.setCell ⟨g, 2, none⟩ (.bool c)) g v a c := by
  have h1 := heap_setCell_same w g 2 _ 90 (.bool c) h
  unfold NR
  rw [h1]
  rfl
theorem NR.ext {w w' : World} {g : Nat} {v : Value} {a : Int} {sh : Bool} (h : NR w g v a sh) (he : Ext w w') : NR w' g v a sh := (he.block g (lt_of_get h)).trans h
theorem grown_drewN {w w' : World} {r : Option Nat} (h : w.grownBy w' r) (n : Nat) : w.grownBy (w'.drewN n) r := ⟨h.os, h.tape, h.output, h.size, h.block⟩
/-- What a call of the reader's leaves. -/
def NRet (w : World) (g : Nat) (v : Value) (x : Int) (a : Int) (sh : Bool) (e : Ending) (w' : World) : Prop := e = .returned (.int .i64 x) ∧ NR w' g v a sh ∧ w.grownBy w' (some g)
set_option maxHeartbeats 1000000 in
theorem rnumber_short (w0 w : World) (g : Nat) (b : List Int) (v : Value) (a : Nat) (sh sg : Bool) (s : Nat) (hg : NR w g v a sh) (hr : Row w0 .u8 v b) (hx : Ext w0 w) (hs : s ≤ 8) (ha : a ≤ 9223372036854775000) (hshort : b.length < a + s) :
    Calls Try.prog 58 #[.pointer (some ⟨g, 0, none⟩), .int .i64 s, .bool sg] w (NRet w g v 0 a true) := by
  obtain ⟨A, c, rfl, hc, hm, -⟩ := hr
  obtain ⟨d0, d1, d2, f0, f1, f2⟩ := hg.cells
  have HS := fun n => Lib.hid ((hg.drew n).setShort true)
  have HS := Lib.hid HS
  unfold maxLen at hm
  clear hg
  go_enter Try.func58, Try.ntmps58
  go_wp2
  go_quiet (fail)
  go_wp2
  go_ret
  exact ⟨rfl, (HS.out _).out, only_set (grown_drewN (World.grownBy.refl w _) _) 2 _⟩
/- ways -/
set_option maxHeartbeats 2000000 in
theorem rnumber_1f (w0 w : World) (g : Nat) (b : List Int) (v : Value) (a : Nat) (sh : Bool) (p0 : Int) (hg : NR w g v a sh) (hr : Row w0 .u8 v b) (hx : Ext w0 w) (hg0 : w0.heap.size ≤ g) (hen : a + 1 ≤ b.length)
    (e0 : gi b a = p0) (hb0 : B8 p0) :
    Calls Try.prog 58 #[.pointer (some ⟨g, 0, none⟩), .int .i64 1, .bool false] w (NRet w g v p0 ((a : Int) + 1) sh) := by
  obtain ⟨A, c, rfl, hc, hm, -, -, hrow⟩ := hr
  unfold maxLen at hm
  obtain ⟨bb, o, rfl, hlt, hcell⟩ := hrow (by omega)
  have y0 : w.cell? ⟨bb, o + a, none⟩ = some (.int .u8 p0) := by rw [hx.cell (p := ⟨bb, o + a, none⟩) hlt, hcell a (by omega), e0]
  have a1 : ((a : Int) + 1) ≤ b.length := by omega
  have o0 := or_zero p0 hb0
  have w00 : IntKind.i64.wrap 0 = 0 := rfl
  have wa0 : IntKind.i64.wrap (a : Int) = (a : Int) := by rw [IntKind.wrap_i64]; omega
  have na0 : 0 ≤ (a : Int) := by omega
  have la0 : (a : Int) < (b.length : Int) := by omega
  obtain ⟨d0, d1, d2, f0, f1, f2⟩ := hg.cells
  have HS := fun n => Lib.hid ((hg.drew n).setAt ((a : Int) + 1))
  have HS := Lib.hid HS
  unfold B8 at hb0
  clear hg hcell hx hrow e0
  go_enter Try.func58, Try.ntmps58
  go_wp2
  go_quiet (fail)
  go_wp2
  refine wp_loop_rounds 2 ?_
  rw [rounds_succ]
  go_wp2
  go_quiet (fail)
  go_wp2
  rw [rounds_succ]
  go_wp2
  go_ret
  exact ⟨rfl, (HS.out _).out, only_set (grown_drewN (World.grownBy.refl w _) _) 1 _⟩
set_option maxHeartbeats 2000000 in
theorem rnumber_1t (w0 w : World) (g : Nat) (b : List Int) (v : Value) (a : Nat) (sh : Bool) (p0 : Int) (hg : NR w g v a sh) (hr : Row w0 .u8 v b) (hx : Ext w0 w) (hg0 : w0.heap.size ≤ g) (hen : a + 1 ≤ b.length)
    (e0 : gi b a = p0) (hb0 : B8 p0) :
    Calls Try.prog 58 #[.pointer (some ⟨g, 0, none⟩), .int .i64 1, .bool true] w (NRet w g v (s1 p0) ((a : Int) + 1) sh) := by
  obtain ⟨A, c, rfl, hc, hm, -, -, hrow⟩ := hr
  unfold maxLen at hm
  obtain ⟨bb, o, rfl, hlt, hcell⟩ := hrow (by omega)
  have y0 : w.cell? ⟨bb, o + a, none⟩ = some (.int .u8 p0) := by rw [hx.cell (p := ⟨bb, o + a, none⟩) hlt, hcell a (by omega), e0]
  have a1 : ((a : Int) + 1) ≤ b.length := by omega
  have o0 := or_zero p0 hb0
  have w00 : IntKind.i64.wrap 0 = 0 := rfl
  have wa0 : IntKind.i64.wrap (a : Int) = (a : Int) := by rw [IntKind.wrap_i64]; omega
  have na0 : 0 ≤ (a : Int) := by omega
  have la0 : (a : Int) < (b.length : Int) := by omega
  obtain ⟨d0, d1, d2, f0, f1, f2⟩ := hg.cells
  have HS := fun n => Lib.hid ((hg.drew n).setAt ((a : Int) + 1))
  have HS := Lib.hid HS
  unfold B8 at hb0
  clear hg hcell hx hrow e0
  have H : (p0 < 128 ∧ (s1 p0) = p0) ∨ (128 ≤ p0 ∧ (s1 p0) = p0 - 256) := by
    unfold s1
    split <;> omega
  rcases H with ⟨hlo, hv⟩ | ⟨hlo, hv⟩
  · rw [hv]
    clear hv
    go_enter Try.func58, Try.ntmps58
    go_wp2
    go_quiet (fail)
    go_wp2
    refine wp_loop_rounds 2 ?_
    rw [rounds_succ]
    go_wp2
    go_quiet (fail)
    go_wp2
    rw [rounds_succ]
    go_wp2
    go_ret
    exact ⟨rfl, (HS.out _).out, only_set (grown_drewN (World.grownBy.refl w _) _) 1 _⟩
  · rw [hv]
    clear hv
    go_enter Try.func58, Try.ntmps58
    go_wp2
    go_quiet (fail)
    go_wp2
    refine wp_loop_rounds 2 ?_
    rw [rounds_succ]
    go_wp2
    go_quiet (fail)
    go_wp2
    rw [rounds_succ]
    go_wp2
    go_ret
    exact ⟨rfl, (HS.out _).out, only_set (grown_drewN (World.grownBy.refl w _) _) 1 _⟩
set_option maxHeartbeats 2000000 in
theorem rnumber_2f (w0 w : World) (g : Nat) (b : List Int) (v : Value) (a : Nat) (sh : Bool) (p0 p1 : Int) (hg : NR w g v a sh) (hr : Row w0 .u8 v b) (hx : Ext w0 w) (hg0 : w0.heap.size ≤ g) (hen : a + 2 ≤ b.length)
    (e0 : gi b a = p0) (hb0 : B8 p0) (e1 : gi b (a + 1) = p1) (hb1 : B8 p1) :
    Calls Try.prog 58 #[.pointer (some ⟨g, 0, none⟩), .int .i64 2, .bool false] w (NRet w g v (u2 p0 p1) ((a : Int) + 2) sh) := by
  obtain ⟨A, c, rfl, hc, hm, -, -, hrow⟩ := hr
  unfold maxLen at hm
  obtain ⟨bb, o, rfl, hlt, hcell⟩ := hrow (by omega)
  have y0 : w.cell? ⟨bb, o + a, none⟩ = some (.int .u8 p0) := by rw [hx.cell (p := ⟨bb, o + a, none⟩) hlt, hcell a (by omega), e0]
  have y1 : w.cell? ⟨bb, o + (a + 1), none⟩ = some (.int .u8 p1) := by rw [hx.cell (p := ⟨bb, o + (a + 1), none⟩) hlt, hcell (a + 1) (by omega), e1]
  have a1 : ((a : Int) + 2) ≤ b.length := by omega
  have o0 := or_zero p0 hb0
  have w00 : IntKind.i64.wrap 0 = 0 := rfl
  have wa0 : IntKind.i64.wrap (a : Int) = (a : Int) := by rw [IntKind.wrap_i64]; omega
  have na0 : 0 ≤ (a : Int) := by omega
  have la0 : (a : Int) < (b.length : Int) := by omega
  have wa1 : IntKind.i64.wrap ((a : Int) + 1) = ((a : Int) + 1) := by rw [IntKind.wrap_i64]; omega
  have na1 : 0 ≤ ((a : Int) + 1) := by omega
  have la1 : ((a : Int) + 1) < (b.length : Int) := by omega
  have ta1 : ((a : Int) + 1).toNat = a + 1 := by omega
  have w01 : IntKind.i64.wrap (p0 * 256) = p0 * 256 := by rw [IntKind.wrap_i64]; unfold B8 at hb0; omega
  have o1 := or_byte p0 p1 (by unfold B8 at hb0; omega) (by unfold B8 at hb0; omega) hb1
  obtain ⟨d0, d1, d2, f0, f1, f2⟩ := hg.cells
  have HS := fun n => Lib.hid ((hg.drew n).setAt ((a : Int) + 2))
  have HS := Lib.hid HS
  unfold B8 at hb0 hb1
  clear hg hcell hx hrow e0 e1
  rw [show (u2 p0 p1) = (p0 * 256 + p1) from rfl]
  go_enter Try.func58, Try.ntmps58
  go_wp2
  go_quiet (fail)
  go_wp2
  refine wp_loop_rounds 3 ?_
  rw [rounds_succ]
  go_wp2
  go_quiet (fail)
  go_wp2
  rw [rounds_succ]
  go_wp2
  go_quiet (fail)
  go_wp2
  rw [rounds_succ]
  go_wp2
  go_ret
  exact ⟨rfl, (HS.out _).out, only_set (grown_drewN (World.grownBy.refl w _) _) 1 _⟩
set_option maxHeartbeats 2000000 in
theorem rnumber_2t (w0 w : World) (g : Nat) (b : List Int) (v : Value) (a : Nat) (sh : Bool) (p0 p1 : Int) (hg : NR w g v a sh) (hr : Row w0 .u8 v b) (hx : Ext w0 w) (hg0 : w0.heap.size ≤ g) (hen : a + 2 ≤ b.length)
    (e0 : gi b a = p0) (hb0 : B8 p0) (e1 : gi b (a + 1) = p1) (hb1 : B8 p1) :
    Calls Try.prog 58 #[.pointer (some ⟨g, 0, none⟩), .int .i64 2, .bool true] w (NRet w g v (s2 (u2 p0 p1)) ((a : Int) + 2) sh) := by
  obtain ⟨A, c, rfl, hc, hm, -, -, hrow⟩ := hr
  unfold maxLen at hm
  obtain ⟨bb, o, rfl, hlt, hcell⟩ := hrow (by omega)
  have y0 : w.cell? ⟨bb, o + a, none⟩ = some (.int .u8 p0) := by rw [hx.cell (p := ⟨bb, o + a, none⟩) hlt, hcell a (by omega), e0]
  have y1 : w.cell? ⟨bb, o + (a + 1), none⟩ = some (.int .u8 p1) := by rw [hx.cell (p := ⟨bb, o + (a + 1), none⟩) hlt, hcell (a + 1) (by omega), e1]
  have a1 : ((a : Int) + 2) ≤ b.length := by omega
  have o0 := or_zero p0 hb0
  have w00 : IntKind.i64.wrap 0 = 0 := rfl
  have wa0 : IntKind.i64.wrap (a : Int) = (a : Int) := by rw [IntKind.wrap_i64]; omega
  have na0 : 0 ≤ (a : Int) := by omega
  have la0 : (a : Int) < (b.length : Int) := by omega
  have wa1 : IntKind.i64.wrap ((a : Int) + 1) = ((a : Int) + 1) := by rw [IntKind.wrap_i64]; omega
  have na1 : 0 ≤ ((a : Int) + 1) := by omega
  have la1 : ((a : Int) + 1) < (b.length : Int) := by omega
  have ta1 : ((a : Int) + 1).toNat = a + 1 := by omega
  have w01 : IntKind.i64.wrap (p0 * 256) = p0 * 256 := by rw [IntKind.wrap_i64]; unfold B8 at hb0; omega
  have o1 := or_byte p0 p1 (by unfold B8 at hb0; omega) (by unfold B8 at hb0; omega) hb1
  obtain ⟨d0, d1, d2, f0, f1, f2⟩ := hg.cells
  have HS := fun n => Lib.hid ((hg.drew n).setAt ((a : Int) + 2))
  have HS := Lib.hid HS
  unfold B8 at hb0 hb1
  clear hg hcell hx hrow e0 e1
  have H : ((p0 * 256 + p1) < 32768 ∧ (s2 (u2 p0 p1)) = (p0 * 256 + p1)) ∨ (32768 ≤ (p0 * 256 + p1) ∧ (s2 (u2 p0 p1)) = (p0 * 256 + p1) - 65536) := by
    unfold s2 u2
    split <;> omega
  rcases H with ⟨hlo, hv⟩ | ⟨hlo, hv⟩
  · rw [hv]
    clear hv
    go_enter Try.func58, Try.ntmps58
    go_wp2
    go_quiet (fail)
    go_wp2
    refine wp_loop_rounds 3 ?_
    rw [rounds_succ]
    go_wp2
    go_quiet (fail)
    go_wp2
    rw [rounds_succ]
    go_wp2
    go_quiet (fail)
    go_wp2
    rw [rounds_succ]
    go_wp2
    go_ret
    exact ⟨rfl, (HS.out _).out, only_set (grown_drewN (World.grownBy.refl w _) _) 1 _⟩
  · rw [hv]
    clear hv
    go_enter Try.func58, Try.ntmps58
    go_wp2
    go_quiet (fail)
    go_wp2
    refine wp_loop_rounds 3 ?_
    rw [rounds_succ]
    go_wp2
    go_quiet (fail)
    go_wp2
    rw [rounds_succ]
    go_wp2
    go_quiet (fail)
    go_wp2
    rw [rounds_succ]
    go_wp2
    go_ret
    exact ⟨rfl, (HS.out _).out, only_set (grown_drewN (World.grownBy.refl w _) _) 1 _⟩
set_option maxHeartbeats 16000000 in
theorem rnumber_4t (w0 w : World) (g : Nat) (b : List Int) (v : Value) (a : Nat) (sh : Bool) (p0 p1 p2 p3 : Int) (hg : NR w g v a sh) (hr : Row w0 .u8 v b) (hx : Ext w0 w) (hg0 : w0.heap.size ≤ g) (hen : a + 4 ≤ b.length)
    (e0 : gi b a = p0) (hb0 : B8 p0) (e1 : gi b (a + 1) = p1) (hb1 : B8 p1) (e2 : gi b (a + 2) = p2) (hb2 : B8 p2) (e3 : gi b (a + 3) = p3) (hb3 : B8 p3) :
    Calls Try.prog 58 #[.pointer (some ⟨g, 0, none⟩), .int .i64 4, .bool true] w (NRet w g v (s4 (u4 p0 p1 p2 p3)) ((a : Int) + 4) sh) := by
  obtain ⟨A, c, rfl, hc, hm, -, -, hrow⟩ := hr
  unfold maxLen at hm
  obtain ⟨bb, o, rfl, hlt, hcell⟩ := hrow (by omega)
  have y0 : w.cell? ⟨bb, o + a, none⟩ = some (.int .u8 p0) := by rw [hx.cell (p := ⟨bb, o + a, none⟩) hlt, hcell a (by omega), e0]
  have y1 : w.cell? ⟨bb, o + (a + 1), none⟩ = some (.int .u8 p1) := by rw [hx.cell (p := ⟨bb, o + (a + 1), none⟩) hlt, hcell (a + 1) (by omega), e1]
  have y2 : w.cell? ⟨bb, o + (a + 2), none⟩ = some (.int .u8 p2) := by rw [hx.cell (p := ⟨bb, o + (a + 2), none⟩) hlt, hcell (a + 2) (by omega), e2]
  have y3 : w.cell? ⟨bb, o + (a + 3), none⟩ = some (.int .u8 p3) := by rw [hx.cell (p := ⟨bb, o + (a + 3), none⟩) hlt, hcell (a + 3) (by omega), e3]
  have a1 : ((a : Int) + 4) ≤ b.length := by omega
  have o0 := or_zero p0 hb0
  have w00 : IntKind.i64.wrap 0 = 0 := rfl
  have wa0 : IntKind.i64.wrap (a : Int) = (a : Int) := by rw [IntKind.wrap_i64]; omega
  have na0 : 0 ≤ (a : Int) := by omega
  have la0 : (a : Int) < (b.length : Int) := by omega
  have wa1 : IntKind.i64.wrap ((a : Int) + 1) = ((a : Int) + 1) := by rw [IntKind.wrap_i64]; omega
  have na1 : 0 ≤ ((a : Int) + 1) := by omega
  have la1 : ((a : Int) + 1) < (b.length : Int) := by omega
  have ta1 : ((a : Int) + 1).toNat = a + 1 := by omega
  have wa2 : IntKind.i64.wrap ((a : Int) + 2) = ((a : Int) + 2) := by rw [IntKind.wrap_i64]; omega
  have na2 : 0 ≤ ((a : Int) + 2) := by omega
  have la2 : ((a : Int) + 2) < (b.length : Int) := by omega
  have ta2 : ((a : Int) + 2).toNat = a + 2 := by omega
  have wa3 : IntKind.i64.wrap ((a : Int) + 3) = ((a : Int) + 3) := by rw [IntKind.wrap_i64]; omega
  have na3 : 0 ≤ ((a : Int) + 3) := by omega
  have la3 : ((a : Int) + 3) < (b.length : Int) := by omega
  have ta3 : ((a : Int) + 3).toNat = a + 3 := by omega
  have w01 : IntKind.i64.wrap (p0 * 256) = p0 * 256 := by rw [IntKind.wrap_i64]; unfold B8 at hb0; omega
  have w02 : IntKind.i64.wrap ((p0 * 256 + p1) * 256) = (p0 * 256 + p1) * 256 := by rw [IntKind.wrap_i64]; unfold B8 at hb0 hb1; omega
  have w03 : IntKind.i64.wrap (((p0 * 256 + p1) * 256 + p2) * 256) = ((p0 * 256 + p1) * 256 + p2) * 256 := by rw [IntKind.wrap_i64]; unfold B8 at hb0 hb1 hb2; omega
  have o1 := or_byte p0 p1 (by unfold B8 at hb0; omega) (by unfold B8 at hb0; omega) hb1
  have o2 := or_byte (p0 * 256 + p1) p2 (by unfold B8 at hb0 hb1; omega) (by unfold B8 at hb0 hb1; omega) hb2
  have o3 := or_byte ((p0 * 256 + p1) * 256 + p2) p3 (by unfold B8 at hb0 hb1 hb2; omega) (by unfold B8 at hb0 hb1 hb2; omega) hb3
  obtain ⟨d0, d1, d2, f0, f1, f2⟩ := hg.cells
  have HS := fun n => Lib.hid ((hg.drew n).setAt ((a : Int) + 4))
  have HS := Lib.hid HS
  unfold B8 at hb0 hb1 hb2 hb3
  clear hg hcell hx hrow e0 e1 e2 e3
  have H : ((((p0 * 256 + p1) * 256 + p2) * 256 + p3) < 2147483648 ∧ (s4 (u4 p0 p1 p2 p3)) = (((p0 * 256 + p1) * 256 + p2) * 256 + p3)) ∨ (2147483648 ≤ (((p0 * 256 + p1) * 256 + p2) * 256 + p3) ∧ (s4 (u4 p0 p1 p2 p3)) = (((p0 * 256 + p1) * 256 + p2) * 256 + p3) - 4294967296) := by
    unfold s4 u4
    split <;> omega
  rcases H with ⟨hlo, hv⟩ | ⟨hlo, hv⟩
  · rw [hv]
    clear hv
    go_enter Try.func58, Try.ntmps58
    go_wp2
    go_quiet (fail)
    go_wp2
    refine wp_loop_rounds 5 ?_
    rw [rounds_succ]
    go_wp2
    go_quiet (fail)
    go_wp2
    rw [rounds_succ]
    go_wp2
    go_quiet (fail)
    go_wp2
    rw [rounds_succ]
    go_wp2
    go_quiet (fail)
    go_wp2
    rw [rounds_succ]
    go_wp2
    go_quiet (fail)
    go_wp2
    rw [rounds_succ]
    go_wp2
    go_ret
    exact ⟨rfl, (HS.out _).out, only_set (grown_drewN (World.grownBy.refl w _) _) 1 _⟩
  · rw [hv]
    clear hv
    go_enter Try.func58, Try.ntmps58
    go_wp2
    go_quiet (fail)
    go_wp2
    refine wp_loop_rounds 5 ?_
    rw [rounds_succ]
    go_wp2
    go_quiet (fail)
    go_wp2
    rw [rounds_succ]
    go_wp2
    go_quiet (fail)
    go_wp2
    rw [rounds_succ]
    go_wp2
    go_quiet (fail)
    go_wp2
    rw [rounds_succ]
    go_wp2
    go_quiet (fail)
    go_wp2
    rw [rounds_succ]
    go_wp2
    go_ret
    exact ⟨rfl, (HS.out _).out, only_set (grown_drewN (World.grownBy.refl w _) _) 1 _⟩
end Go.Proofs.Ytcgajgileehbbaa
