/- Several texts of this proof, one behind the other. -/
import Derived.Test.YtecgldkhjgcffaaDoorZtH
import Derived.LoopN
/- The document's answer for texts: what is written in one to three bytes from a place on, and the character there. -/
namespace Go.Proofs.YtecgldkhjgcffaaDoor
open Go.RowKit
set_option linter.unusedVariables false

theorem gi_drop (b : List Int) (n j : Nat) : gi (b.drop n) j = gi b (n + j) := by simp [gi, List.getElem?_drop]
theorem gi_out {b : List Int} {j : Nat} (h : b.length ≤ j) : gi b j = 0 := by
  unfold gi
  rw [List.getD_eq_getElem?_getD, List.getElem?_eq_none h]
  rfl
/-- What 'unit' answers, of its three numbers and how many there are. -/
def unitN (L : Nat) (x0 x1 x2 : Int) : Int × Nat :=
  if 1 ≤ L ∧ 1 ≤ x0 ∧ x0 ≤ 127 then (x0, 1)
  else if 2 ≤ L ∧ x0 / 32 = 6 ∧ x1 / 64 = 2 then (x0 % 32 * 64 + x1 % 64, 2)
  else if 3 ≤ L ∧ x0 / 16 = 14 ∧ x1 / 64 = 2 ∧ x2 / 64 = 2 then (x0 % 16 * 4096 + x1 % 64 * 64 + x2 % 64, 3)
  else (0, 0)
theorem unitZ_N (b : List Int) (n : Nat) : unitZ (b.drop n) = unitN (b.length - n) (gi b n) (gi b (n + 1)) (gi b (n + 2)) := by
  unfold unitZ unitN
  rw [gi_drop, gi_drop, gi_drop, List.length_drop]
  rfl
theorem unitN_1 {L : Nat} {x0 x1 x2 : Int} (h : 1 ≤ L ∧ 1 ≤ x0 ∧ x0 ≤ 127) : unitN L x0 x1 x2 = (x0, 1) := if_pos h
theorem unitN_2 {L : Nat} {x0 x1 x2 : Int} (h1 : ¬ (1 ≤ L ∧ 1 ≤ x0 ∧ x0 ≤ 127)) (h : 2 ≤ L ∧ x0 / 32 = 6 ∧ x1 / 64 = 2) : unitN L x0 x1 x2 = (x0 % 32 * 64 + x1 % 64, 2) := (if_neg h1).trans (if_pos h)
theorem unitN_3 {L : Nat} {x0 x1 x2 : Int} (h1 : ¬ (1 ≤ L ∧ 1 ≤ x0 ∧ x0 ≤ 127)) (h2 : ¬ (2 ≤ L ∧ x0 / 32 = 6 ∧ x1 / 64 = 2)) (h : 3 ≤ L ∧ x0 / 16 = 14 ∧ x1 / 64 = 2 ∧ x2 / 64 = 2) : unitN L x0 x1 x2 = (x0 % 16 * 4096 + x1 % 64 * 64 + x2 % 64, 3) := (if_neg h1).trans ((if_neg h2).trans (if_pos h))
theorem unitN_0 {L : Nat} {x0 x1 x2 : Int} (h1 : ¬ (1 ≤ L ∧ 1 ≤ x0 ∧ x0 ≤ 127)) (h2 : ¬ (2 ≤ L ∧ x0 / 32 = 6 ∧ x1 / 64 = 2)) (h3 : ¬ (3 ≤ L ∧ x0 / 16 = 14 ∧ x1 / 64 = 2 ∧ x2 / 64 = 2)) : unitN L x0 x1 x2 = (0, 0) := (if_neg h1).trans ((if_neg h2).trans (if_neg h3))
/-- What 'unit' gives back. -/
def UnitAns (w : World) (u : Int × Nat) (e : Ending) (w' : World) : Prop := e = .returned (.tuple #[.int .i64 u.1, .int .i64 u.2]) ∧ Ext w w'

set_option maxHeartbeats 4000000 in
theorem unit_A1 (w : World) (bl o len c n : Nat) (x0 x1 x2 : Int) (g0 : 0 ≤ x0) (g0' : x0 < 256) (g1 : 0 ≤ x1) (g1' : x1 < 256) (g2 : 0 ≤ x2) (g2' : x2 < 256) (hlc : len ≤ c) (hc : c ≤ 9223372036854775807) (hl : len = n + 1) (hbl : bl < w.heap.size) (h0 : w.cell? ⟨bl, o + n, none⟩ = some (.int .u8 x0)) (a1 : 1 ≤ x0) (a2 : x0 ≤ 127) :
    Calls Tryd.prog 107 #[.slice (some ⟨bl, o, none⟩) len c, .int .i64 n] w (UnitAns w (x0, 1)) := by
  go_enter Tryd.func107, Tryd.ntmps107
  go_wp2

  refine wp_loop_rounds 2 ?_
  rw [rounds_succ]
  go_wp2
  rw [rounds_succ]
  go_wp2
  go_ret2
  exact ⟨rfl, (Ext.refl _).alloc _⟩

set_option maxHeartbeats 4000000 in
theorem unit_A2 (w : World) (bl o len c n : Nat) (x0 x1 x2 : Int) (g0 : 0 ≤ x0) (g0' : x0 < 256) (g1 : 0 ≤ x1) (g1' : x1 < 256) (g2 : 0 ≤ x2) (g2' : x2 < 256) (hlc : len ≤ c) (hc : c ≤ 9223372036854775807) (hl : len = n + 2) (hbl : bl < w.heap.size) (h0 : w.cell? ⟨bl, o + n, none⟩ = some (.int .u8 x0)) (h1 : w.cell? ⟨bl, o + (n + 1), none⟩ = some (.int .u8 x1)) (a1 : 1 ≤ x0) (a2 : x0 ≤ 127) :
    Calls Tryd.prog 107 #[.slice (some ⟨bl, o, none⟩) len c, .int .i64 n] w (UnitAns w (x0, 1)) := by
  go_enter Tryd.func107, Tryd.ntmps107
  go_wp2

  refine wp_loop_rounds 3 ?_
  rw [rounds_succ]
  go_wp2
  rw [rounds_succ]
  go_wp2
  rw [rounds_succ]
  go_wp2
  go_ret2
  exact ⟨rfl, (Ext.refl _).alloc _⟩

set_option maxHeartbeats 4000000 in
theorem unit_A3 (w : World) (bl o len c n : Nat) (x0 x1 x2 : Int) (g0 : 0 ≤ x0) (g0' : x0 < 256) (g1 : 0 ≤ x1) (g1' : x1 < 256) (g2 : 0 ≤ x2) (g2' : x2 < 256) (hlc : len ≤ c) (hc : c ≤ 9223372036854775807) (hl : n + 3 ≤ len) (hbl : bl < w.heap.size) (h0 : w.cell? ⟨bl, o + n, none⟩ = some (.int .u8 x0)) (h1 : w.cell? ⟨bl, o + (n + 1), none⟩ = some (.int .u8 x1)) (h2 : w.cell? ⟨bl, o + (n + 2), none⟩ = some (.int .u8 x2)) (a1 : 1 ≤ x0) (a2 : x0 ≤ 127) :
    Calls Tryd.prog 107 #[.slice (some ⟨bl, o, none⟩) len c, .int .i64 n] w (UnitAns w (x0, 1)) := by
  go_enter Tryd.func107, Tryd.ntmps107
  go_wp2

  refine wp_loop_rounds 4 ?_
  rw [rounds_succ]
  go_wp2
  rw [rounds_succ]
  go_wp2
  rw [rounds_succ]
  go_wp2
  rw [rounds_succ]
  go_wp2
  go_ret2
  exact ⟨rfl, (Ext.refl _).alloc _⟩

set_option maxHeartbeats 4000000 in
theorem unit_B2 (w : World) (bl o len c n : Nat) (x0 x1 x2 : Int) (g0 : 0 ≤ x0) (g0' : x0 < 256) (g1 : 0 ≤ x1) (g1' : x1 < 256) (g2 : 0 ≤ x2) (g2' : x2 < 256) (hlc : len ≤ c) (hc : c ≤ 9223372036854775807) (hl : len = n + 2) (hbl : bl < w.heap.size) (h0 : w.cell? ⟨bl, o + n, none⟩ = some (.int .u8 x0)) (h1 : w.cell? ⟨bl, o + (n + 1), none⟩ = some (.int .u8 x1)) (a1 : 192 ≤ x0) (a2 : x0 < 224) (d1 : 128 ≤ x1) (d2 : x1 < 192) :
    Calls Tryd.prog 107 #[.slice (some ⟨bl, o, none⟩) len c, .int .i64 n] w (UnitAns w (x0 % 32 * 64 + x1 % 64, 2)) := by
  have k1 := b64_and31 x0 (by omega) (by omega)
  have k2 := b64_and63 x1 (by omega) (by omega)
  have k3 := b64_or6 (x0 % 32) (x1 % 64) (by omega) (by omega) (by omega) (by omega)
  have e1 : (x0 / 32 == 6) = true := by simp; omega
  have e2 : (x1 / 64 == 2) = true := by simp; omega
  go_enter Tryd.func107, Tryd.ntmps107
  go_wp2

  refine wp_loop_rounds 3 ?_
  rw [rounds_succ]
  go_wp2
  rw [rounds_succ]
  go_wp2
  rw [rounds_succ]
  go_wp2
  go_ret2
  exact ⟨rfl, (Ext.refl _).alloc _⟩

set_option maxHeartbeats 4000000 in
theorem unit_B3 (w : World) (bl o len c n : Nat) (x0 x1 x2 : Int) (g0 : 0 ≤ x0) (g0' : x0 < 256) (g1 : 0 ≤ x1) (g1' : x1 < 256) (g2 : 0 ≤ x2) (g2' : x2 < 256) (hlc : len ≤ c) (hc : c ≤ 9223372036854775807) (hl : n + 3 ≤ len) (hbl : bl < w.heap.size) (h0 : w.cell? ⟨bl, o + n, none⟩ = some (.int .u8 x0)) (h1 : w.cell? ⟨bl, o + (n + 1), none⟩ = some (.int .u8 x1)) (h2 : w.cell? ⟨bl, o + (n + 2), none⟩ = some (.int .u8 x2)) (a1 : 192 ≤ x0) (a2 : x0 < 224) (d1 : 128 ≤ x1) (d2 : x1 < 192) :
    Calls Tryd.prog 107 #[.slice (some ⟨bl, o, none⟩) len c, .int .i64 n] w (UnitAns w (x0 % 32 * 64 + x1 % 64, 2)) := by
  have k1 := b64_and31 x0 (by omega) (by omega)
  have k2 := b64_and63 x1 (by omega) (by omega)
  have k3 := b64_or6 (x0 % 32) (x1 % 64) (by omega) (by omega) (by omega) (by omega)
  have e1 : (x0 / 32 == 6) = true := by simp; omega
  have e2 : (x1 / 64 == 2) = true := by simp; omega
  go_enter Tryd.func107, Tryd.ntmps107
  go_wp2

  refine wp_loop_rounds 4 ?_
  rw [rounds_succ]
  go_wp2
  rw [rounds_succ]
  go_wp2
  rw [rounds_succ]
  go_wp2
  rw [rounds_succ]
  go_wp2
  go_ret2
  exact ⟨rfl, (Ext.refl _).alloc _⟩

set_option maxHeartbeats 4000000 in
theorem unit_C3 (w : World) (bl o len c n : Nat) (x0 x1 x2 : Int) (g0 : 0 ≤ x0) (g0' : x0 < 256) (g1 : 0 ≤ x1) (g1' : x1 < 256) (g2 : 0 ≤ x2) (g2' : x2 < 256) (hlc : len ≤ c) (hc : c ≤ 9223372036854775807) (hl : n + 3 ≤ len) (hbl : bl < w.heap.size) (h0 : w.cell? ⟨bl, o + n, none⟩ = some (.int .u8 x0)) (h1 : w.cell? ⟨bl, o + (n + 1), none⟩ = some (.int .u8 x1)) (h2 : w.cell? ⟨bl, o + (n + 2), none⟩ = some (.int .u8 x2)) (a1 : 224 ≤ x0) (a2 : x0 < 240) (d1 : 128 ≤ x1) (d2 : x1 < 192) (f1 : 128 ≤ x2) (f2 : x2 < 192) :
    Calls Tryd.prog 107 #[.slice (some ⟨bl, o, none⟩) len c, .int .i64 n] w (UnitAns w (x0 % 16 * 4096 + x1 % 64 * 64 + x2 % 64, 3)) := by
  have k1 := b64_and15 x0 (by omega) (by omega)
  have k2 := b64_and63 x1 (by omega) (by omega)
  have k2' := b64_and63 x2 (by omega) (by omega)
  have k3 := b64_or12 (x0 % 16) (x1 % 64 * 64) (by omega) (by omega) (by omega) (by omega)
  have k4 := b64_or126 (x0 % 16) (x1 % 64) (x2 % 64) (by omega) (by omega) (by omega) (by omega) (by omega) (by omega)
  have e0 : (x0 / 32 == 6) = false := by simp; omega
  have e1 : (x0 / 16 == 14) = true := by simp; omega
  have e2 : (x1 / 64 == 2) = true := by simp; omega
  have e3 : (x2 / 64 == 2) = true := by simp; omega
  go_enter Tryd.func107, Tryd.ntmps107
  go_wp2

  refine wp_loop_rounds 4 ?_
  rw [rounds_succ]
  go_wp2
  rw [rounds_succ]
  go_wp2
  rw [rounds_succ]
  go_wp2
  rw [rounds_succ]
  go_wp2
  go_ret2
  exact ⟨rfl, (Ext.refl _).alloc _⟩

set_option maxHeartbeats 4000000 in
theorem unit_N0 (w : World) (bl o len c n : Nat) (x0 x1 x2 : Int) (g0 : 0 ≤ x0) (g0' : x0 < 256) (g1 : 0 ≤ x1) (g1' : x1 < 256) (g2 : 0 ≤ x2) (g2' : x2 < 256) (hlc : len ≤ c) (hc : c ≤ 9223372036854775807) (hl : len = n) (hbl : bl < w.heap.size) :
    Calls Tryd.prog 107 #[.slice (some ⟨bl, o, none⟩) len c, .int .i64 n] w (UnitAns w (0, 0)) := by
  go_enter Tryd.func107, Tryd.ntmps107
  go_wp2

  refine wp_loop_rounds 1 ?_
  rw [rounds_succ]
  go_wp2
  go_ret2
  exact ⟨rfl, (Ext.refl _).alloc _⟩

set_option maxHeartbeats 4000000 in
theorem unit_N1z (w : World) (bl o len c n : Nat) (x0 x1 x2 : Int) (g0 : 0 ≤ x0) (g0' : x0 < 256) (g1 : 0 ≤ x1) (g1' : x1 < 256) (g2 : 0 ≤ x2) (g2' : x2 < 256) (hlc : len ≤ c) (hc : c ≤ 9223372036854775807) (hl : len = n + 1) (hbl : bl < w.heap.size) (h0 : w.cell? ⟨bl, o + n, none⟩ = some (.int .u8 x0)) (a1 : x0 = 0) :
    Calls Tryd.prog 107 #[.slice (some ⟨bl, o, none⟩) len c, .int .i64 n] w (UnitAns w (0, 0)) := by
  subst a1
  go_enter Tryd.func107, Tryd.ntmps107
  go_wp2

  refine wp_loop_rounds 2 ?_
  rw [rounds_succ]
  go_wp2
  rw [rounds_succ]
  go_wp2
  go_ret2
  exact ⟨rfl, (Ext.refl _).alloc _⟩

set_option maxHeartbeats 4000000 in
theorem unit_N2z (w : World) (bl o len c n : Nat) (x0 x1 x2 : Int) (g0 : 0 ≤ x0) (g0' : x0 < 256) (g1 : 0 ≤ x1) (g1' : x1 < 256) (g2 : 0 ≤ x2) (g2' : x2 < 256) (hlc : len ≤ c) (hc : c ≤ 9223372036854775807) (hl : len = n + 2) (hbl : bl < w.heap.size) (h0 : w.cell? ⟨bl, o + n, none⟩ = some (.int .u8 x0)) (h1 : w.cell? ⟨bl, o + (n + 1), none⟩ = some (.int .u8 x1)) (a1 : x0 = 0) :
    Calls Tryd.prog 107 #[.slice (some ⟨bl, o, none⟩) len c, .int .i64 n] w (UnitAns w (0, 0)) := by
  subst a1
  go_enter Tryd.func107, Tryd.ntmps107
  go_wp2

  refine wp_loop_rounds 3 ?_
  rw [rounds_succ]
  go_wp2
  rw [rounds_succ]
  go_wp2
  rw [rounds_succ]
  go_wp2
  go_ret2
  exact ⟨rfl, (Ext.refl _).alloc _⟩

set_option maxHeartbeats 4000000 in
theorem unit_N3z (w : World) (bl o len c n : Nat) (x0 x1 x2 : Int) (g0 : 0 ≤ x0) (g0' : x0 < 256) (g1 : 0 ≤ x1) (g1' : x1 < 256) (g2 : 0 ≤ x2) (g2' : x2 < 256) (hlc : len ≤ c) (hc : c ≤ 9223372036854775807) (hl : n + 3 ≤ len) (hbl : bl < w.heap.size) (h0 : w.cell? ⟨bl, o + n, none⟩ = some (.int .u8 x0)) (h1 : w.cell? ⟨bl, o + (n + 1), none⟩ = some (.int .u8 x1)) (h2 : w.cell? ⟨bl, o + (n + 2), none⟩ = some (.int .u8 x2)) (a1 : x0 = 0) :
    Calls Tryd.prog 107 #[.slice (some ⟨bl, o, none⟩) len c, .int .i64 n] w (UnitAns w (0, 0)) := by
  subst a1
  go_enter Tryd.func107, Tryd.ntmps107
  go_wp2

  refine wp_loop_rounds 4 ?_
  rw [rounds_succ]
  go_wp2
  rw [rounds_succ]
  go_wp2
  rw [rounds_succ]
  go_wp2
  rw [rounds_succ]
  go_wp2
  go_ret2
  exact ⟨rfl, (Ext.refl _).alloc _⟩

set_option maxHeartbeats 4000000 in
theorem unit_N1a (w : World) (bl o len c n : Nat) (x0 x1 x2 : Int) (g0 : 0 ≤ x0) (g0' : x0 < 256) (g1 : 0 ≤ x1) (g1' : x1 < 256) (g2 : 0 ≤ x2) (g2' : x2 < 256) (hlc : len ≤ c) (hc : c ≤ 9223372036854775807) (hl : len = n + 1) (hbl : bl < w.heap.size) (h0 : w.cell? ⟨bl, o + n, none⟩ = some (.int .u8 x0)) (a1 : 128 ≤ x0) (a2 : x0 < 192) :
    Calls Tryd.prog 107 #[.slice (some ⟨bl, o, none⟩) len c, .int .i64 n] w (UnitAns w (0, 0)) := by
  have e0 : (x0 / 32 == 6) = false := by simp; omega
  have e1 : (x0 / 16 == 14) = false := by simp; omega
  go_enter Tryd.func107, Tryd.ntmps107
  go_wp2

  refine wp_loop_rounds 2 ?_
  rw [rounds_succ]
  go_wp2
  rw [rounds_succ]
  go_wp2
  go_ret2
  exact ⟨rfl, (Ext.refl _).alloc _⟩

set_option maxHeartbeats 4000000 in
theorem unit_N2a (w : World) (bl o len c n : Nat) (x0 x1 x2 : Int) (g0 : 0 ≤ x0) (g0' : x0 < 256) (g1 : 0 ≤ x1) (g1' : x1 < 256) (g2 : 0 ≤ x2) (g2' : x2 < 256) (hlc : len ≤ c) (hc : c ≤ 9223372036854775807) (hl : len = n + 2) (hbl : bl < w.heap.size) (h0 : w.cell? ⟨bl, o + n, none⟩ = some (.int .u8 x0)) (h1 : w.cell? ⟨bl, o + (n + 1), none⟩ = some (.int .u8 x1)) (a1 : 128 ≤ x0) (a2 : x0 < 192) :
    Calls Tryd.prog 107 #[.slice (some ⟨bl, o, none⟩) len c, .int .i64 n] w (UnitAns w (0, 0)) := by
  have e0 : (x0 / 32 == 6) = false := by simp; omega
  have e1 : (x0 / 16 == 14) = false := by simp; omega
  go_enter Tryd.func107, Tryd.ntmps107
  go_wp2

  refine wp_loop_rounds 3 ?_
  rw [rounds_succ]
  go_wp2
  rw [rounds_succ]
  go_wp2
  rw [rounds_succ]
  go_wp2
  go_ret2
  exact ⟨rfl, (Ext.refl _).alloc _⟩

set_option maxHeartbeats 4000000 in
theorem unit_N3a (w : World) (bl o len c n : Nat) (x0 x1 x2 : Int) (g0 : 0 ≤ x0) (g0' : x0 < 256) (g1 : 0 ≤ x1) (g1' : x1 < 256) (g2 : 0 ≤ x2) (g2' : x2 < 256) (hlc : len ≤ c) (hc : c ≤ 9223372036854775807) (hl : n + 3 ≤ len) (hbl : bl < w.heap.size) (h0 : w.cell? ⟨bl, o + n, none⟩ = some (.int .u8 x0)) (h1 : w.cell? ⟨bl, o + (n + 1), none⟩ = some (.int .u8 x1)) (h2 : w.cell? ⟨bl, o + (n + 2), none⟩ = some (.int .u8 x2)) (a1 : 128 ≤ x0) (a2 : x0 < 192) :
    Calls Tryd.prog 107 #[.slice (some ⟨bl, o, none⟩) len c, .int .i64 n] w (UnitAns w (0, 0)) := by
  have e0 : (x0 / 32 == 6) = false := by simp; omega
  have e1 : (x0 / 16 == 14) = false := by simp; omega
  go_enter Tryd.func107, Tryd.ntmps107
  go_wp2

  refine wp_loop_rounds 4 ?_
  rw [rounds_succ]
  go_wp2
  rw [rounds_succ]
  go_wp2
  rw [rounds_succ]
  go_wp2
  rw [rounds_succ]
  go_wp2
  go_ret2
  exact ⟨rfl, (Ext.refl _).alloc _⟩

set_option maxHeartbeats 4000000 in
theorem unit_N1b (w : World) (bl o len c n : Nat) (x0 x1 x2 : Int) (g0 : 0 ≤ x0) (g0' : x0 < 256) (g1 : 0 ≤ x1) (g1' : x1 < 256) (g2 : 0 ≤ x2) (g2' : x2 < 256) (hlc : len ≤ c) (hc : c ≤ 9223372036854775807) (hl : len = n + 1) (hbl : bl < w.heap.size) (h0 : w.cell? ⟨bl, o + n, none⟩ = some (.int .u8 x0)) (a1 : 192 ≤ x0) (a2 : x0 < 224) :
    Calls Tryd.prog 107 #[.slice (some ⟨bl, o, none⟩) len c, .int .i64 n] w (UnitAns w (0, 0)) := by
  have e0 : (x0 / 32 == 6) = true := by simp; omega
  have e1 : (x0 / 16 == 14) = false := by simp; omega
  go_enter Tryd.func107, Tryd.ntmps107
  go_wp2

  refine wp_loop_rounds 2 ?_
  rw [rounds_succ]
  go_wp2
  rw [rounds_succ]
  go_wp2
  go_ret2
  exact ⟨rfl, (Ext.refl _).alloc _⟩

set_option maxHeartbeats 4000000 in
theorem unit_N2bl (w : World) (bl o len c n : Nat) (x0 x1 x2 : Int) (g0 : 0 ≤ x0) (g0' : x0 < 256) (g1 : 0 ≤ x1) (g1' : x1 < 256) (g2 : 0 ≤ x2) (g2' : x2 < 256) (hlc : len ≤ c) (hc : c ≤ 9223372036854775807) (hl : len = n + 2) (hbl : bl < w.heap.size) (h0 : w.cell? ⟨bl, o + n, none⟩ = some (.int .u8 x0)) (h1 : w.cell? ⟨bl, o + (n + 1), none⟩ = some (.int .u8 x1)) (a1 : 192 ≤ x0) (a2 : x0 < 224) (d1 : x1 < 128) :
    Calls Tryd.prog 107 #[.slice (some ⟨bl, o, none⟩) len c, .int .i64 n] w (UnitAns w (0, 0)) := by
  have e0 : (x0 / 32 == 6) = true := by simp; omega
  have e1 : (x0 / 16 == 14) = false := by simp; omega
  have e2 : (x1 / 64 == 2) = false := by simp; omega
  go_enter Tryd.func107, Tryd.ntmps107
  go_wp2

  refine wp_loop_rounds 3 ?_
  rw [rounds_succ]
  go_wp2
  rw [rounds_succ]
  go_wp2
  rw [rounds_succ]
  go_wp2
  go_ret2
  exact ⟨rfl, (Ext.refl _).alloc _⟩

set_option maxHeartbeats 4000000 in
theorem unit_N2bh (w : World) (bl o len c n : Nat) (x0 x1 x2 : Int) (g0 : 0 ≤ x0) (g0' : x0 < 256) (g1 : 0 ≤ x1) (g1' : x1 < 256) (g2 : 0 ≤ x2) (g2' : x2 < 256) (hlc : len ≤ c) (hc : c ≤ 9223372036854775807) (hl : len = n + 2) (hbl : bl < w.heap.size) (h0 : w.cell? ⟨bl, o + n, none⟩ = some (.int .u8 x0)) (h1 : w.cell? ⟨bl, o + (n + 1), none⟩ = some (.int .u8 x1)) (a1 : 192 ≤ x0) (a2 : x0 < 224) (d1 : 192 ≤ x1) :
    Calls Tryd.prog 107 #[.slice (some ⟨bl, o, none⟩) len c, .int .i64 n] w (UnitAns w (0, 0)) := by
  have e0 : (x0 / 32 == 6) = true := by simp; omega
  have e1 : (x0 / 16 == 14) = false := by simp; omega
  have e2 : (x1 / 64 == 2) = false := by simp; omega
  go_enter Tryd.func107, Tryd.ntmps107
  go_wp2

  refine wp_loop_rounds 3 ?_
  rw [rounds_succ]
  go_wp2
  rw [rounds_succ]
  go_wp2
  rw [rounds_succ]
  go_wp2
  go_ret2
  exact ⟨rfl, (Ext.refl _).alloc _⟩

set_option maxHeartbeats 4000000 in
theorem unit_N3bl (w : World) (bl o len c n : Nat) (x0 x1 x2 : Int) (g0 : 0 ≤ x0) (g0' : x0 < 256) (g1 : 0 ≤ x1) (g1' : x1 < 256) (g2 : 0 ≤ x2) (g2' : x2 < 256) (hlc : len ≤ c) (hc : c ≤ 9223372036854775807) (hl : n + 3 ≤ len) (hbl : bl < w.heap.size) (h0 : w.cell? ⟨bl, o + n, none⟩ = some (.int .u8 x0)) (h1 : w.cell? ⟨bl, o + (n + 1), none⟩ = some (.int .u8 x1)) (h2 : w.cell? ⟨bl, o + (n + 2), none⟩ = some (.int .u8 x2)) (a1 : 192 ≤ x0) (a2 : x0 < 224) (d1 : x1 < 128) :
    Calls Tryd.prog 107 #[.slice (some ⟨bl, o, none⟩) len c, .int .i64 n] w (UnitAns w (0, 0)) := by
  have e0 : (x0 / 32 == 6) = true := by simp; omega
  have e1 : (x0 / 16 == 14) = false := by simp; omega
  have e2 : (x1 / 64 == 2) = false := by simp; omega
  go_enter Tryd.func107, Tryd.ntmps107
  go_wp2

  refine wp_loop_rounds 4 ?_
  rw [rounds_succ]
  go_wp2
  rw [rounds_succ]
  go_wp2
  rw [rounds_succ]
  go_wp2
  rw [rounds_succ]
  go_wp2
  go_ret2
  exact ⟨rfl, (Ext.refl _).alloc _⟩

set_option maxHeartbeats 4000000 in
theorem unit_N3bh (w : World) (bl o len c n : Nat) (x0 x1 x2 : Int) (g0 : 0 ≤ x0) (g0' : x0 < 256) (g1 : 0 ≤ x1) (g1' : x1 < 256) (g2 : 0 ≤ x2) (g2' : x2 < 256) (hlc : len ≤ c) (hc : c ≤ 9223372036854775807) (hl : n + 3 ≤ len) (hbl : bl < w.heap.size) (h0 : w.cell? ⟨bl, o + n, none⟩ = some (.int .u8 x0)) (h1 : w.cell? ⟨bl, o + (n + 1), none⟩ = some (.int .u8 x1)) (h2 : w.cell? ⟨bl, o + (n + 2), none⟩ = some (.int .u8 x2)) (a1 : 192 ≤ x0) (a2 : x0 < 224) (d1 : 192 ≤ x1) :
    Calls Tryd.prog 107 #[.slice (some ⟨bl, o, none⟩) len c, .int .i64 n] w (UnitAns w (0, 0)) := by
  have e0 : (x0 / 32 == 6) = true := by simp; omega
  have e1 : (x0 / 16 == 14) = false := by simp; omega
  have e2 : (x1 / 64 == 2) = false := by simp; omega
  go_enter Tryd.func107, Tryd.ntmps107
  go_wp2

  refine wp_loop_rounds 4 ?_
  rw [rounds_succ]
  go_wp2
  rw [rounds_succ]
  go_wp2
  rw [rounds_succ]
  go_wp2
  rw [rounds_succ]
  go_wp2
  go_ret2
  exact ⟨rfl, (Ext.refl _).alloc _⟩

set_option maxHeartbeats 4000000 in
theorem unit_N1c (w : World) (bl o len c n : Nat) (x0 x1 x2 : Int) (g0 : 0 ≤ x0) (g0' : x0 < 256) (g1 : 0 ≤ x1) (g1' : x1 < 256) (g2 : 0 ≤ x2) (g2' : x2 < 256) (hlc : len ≤ c) (hc : c ≤ 9223372036854775807) (hl : len = n + 1) (hbl : bl < w.heap.size) (h0 : w.cell? ⟨bl, o + n, none⟩ = some (.int .u8 x0)) (a1 : 224 ≤ x0) (a2 : x0 < 240) :
    Calls Tryd.prog 107 #[.slice (some ⟨bl, o, none⟩) len c, .int .i64 n] w (UnitAns w (0, 0)) := by
  have e0 : (x0 / 32 == 6) = false := by simp; omega
  have e1 : (x0 / 16 == 14) = true := by simp; omega
  go_enter Tryd.func107, Tryd.ntmps107
  go_wp2

  refine wp_loop_rounds 2 ?_
  rw [rounds_succ]
  go_wp2
  rw [rounds_succ]
  go_wp2
  go_ret2
  exact ⟨rfl, (Ext.refl _).alloc _⟩

set_option maxHeartbeats 4000000 in
theorem unit_N2c (w : World) (bl o len c n : Nat) (x0 x1 x2 : Int) (g0 : 0 ≤ x0) (g0' : x0 < 256) (g1 : 0 ≤ x1) (g1' : x1 < 256) (g2 : 0 ≤ x2) (g2' : x2 < 256) (hlc : len ≤ c) (hc : c ≤ 9223372036854775807) (hl : len = n + 2) (hbl : bl < w.heap.size) (h0 : w.cell? ⟨bl, o + n, none⟩ = some (.int .u8 x0)) (h1 : w.cell? ⟨bl, o + (n + 1), none⟩ = some (.int .u8 x1)) (a1 : 224 ≤ x0) (a2 : x0 < 240) :
    Calls Tryd.prog 107 #[.slice (some ⟨bl, o, none⟩) len c, .int .i64 n] w (UnitAns w (0, 0)) := by
  have e0 : (x0 / 32 == 6) = false := by simp; omega
  have e1 : (x0 / 16 == 14) = true := by simp; omega
  go_enter Tryd.func107, Tryd.ntmps107
  go_wp2

  refine wp_loop_rounds 3 ?_
  rw [rounds_succ]
  go_wp2
  rw [rounds_succ]
  go_wp2
  rw [rounds_succ]
  go_wp2
  go_ret2
  exact ⟨rfl, (Ext.refl _).alloc _⟩

set_option maxHeartbeats 4000000 in
theorem unit_N3cl (w : World) (bl o len c n : Nat) (x0 x1 x2 : Int) (g0 : 0 ≤ x0) (g0' : x0 < 256) (g1 : 0 ≤ x1) (g1' : x1 < 256) (g2 : 0 ≤ x2) (g2' : x2 < 256) (hlc : len ≤ c) (hc : c ≤ 9223372036854775807) (hl : n + 3 ≤ len) (hbl : bl < w.heap.size) (h0 : w.cell? ⟨bl, o + n, none⟩ = some (.int .u8 x0)) (h1 : w.cell? ⟨bl, o + (n + 1), none⟩ = some (.int .u8 x1)) (h2 : w.cell? ⟨bl, o + (n + 2), none⟩ = some (.int .u8 x2)) (a1 : 224 ≤ x0) (a2 : x0 < 240) (d1 : x1 < 128) :
    Calls Tryd.prog 107 #[.slice (some ⟨bl, o, none⟩) len c, .int .i64 n] w (UnitAns w (0, 0)) := by
  have e0 : (x0 / 32 == 6) = false := by simp; omega
  have e1 : (x0 / 16 == 14) = true := by simp; omega
  have e2 : (x1 / 64 == 2) = false := by simp; omega
  go_enter Tryd.func107, Tryd.ntmps107
  go_wp2

  refine wp_loop_rounds 4 ?_
  rw [rounds_succ]
  go_wp2
  rw [rounds_succ]
  go_wp2
  rw [rounds_succ]
  go_wp2
  rw [rounds_succ]
  go_wp2
  go_ret2
  exact ⟨rfl, (Ext.refl _).alloc _⟩

set_option maxHeartbeats 4000000 in
theorem unit_N3ch (w : World) (bl o len c n : Nat) (x0 x1 x2 : Int) (g0 : 0 ≤ x0) (g0' : x0 < 256) (g1 : 0 ≤ x1) (g1' : x1 < 256) (g2 : 0 ≤ x2) (g2' : x2 < 256) (hlc : len ≤ c) (hc : c ≤ 9223372036854775807) (hl : n + 3 ≤ len) (hbl : bl < w.heap.size) (h0 : w.cell? ⟨bl, o + n, none⟩ = some (.int .u8 x0)) (h1 : w.cell? ⟨bl, o + (n + 1), none⟩ = some (.int .u8 x1)) (h2 : w.cell? ⟨bl, o + (n + 2), none⟩ = some (.int .u8 x2)) (a1 : 224 ≤ x0) (a2 : x0 < 240) (d1 : 192 ≤ x1) :
    Calls Tryd.prog 107 #[.slice (some ⟨bl, o, none⟩) len c, .int .i64 n] w (UnitAns w (0, 0)) := by
  have e0 : (x0 / 32 == 6) = false := by simp; omega
  have e1 : (x0 / 16 == 14) = true := by simp; omega
  have e2 : (x1 / 64 == 2) = false := by simp; omega
  go_enter Tryd.func107, Tryd.ntmps107
  go_wp2

  refine wp_loop_rounds 4 ?_
  rw [rounds_succ]
  go_wp2
  rw [rounds_succ]
  go_wp2
  rw [rounds_succ]
  go_wp2
  rw [rounds_succ]
  go_wp2
  go_ret2
  exact ⟨rfl, (Ext.refl _).alloc _⟩

set_option maxHeartbeats 4000000 in
theorem unit_N3cml (w : World) (bl o len c n : Nat) (x0 x1 x2 : Int) (g0 : 0 ≤ x0) (g0' : x0 < 256) (g1 : 0 ≤ x1) (g1' : x1 < 256) (g2 : 0 ≤ x2) (g2' : x2 < 256) (hlc : len ≤ c) (hc : c ≤ 9223372036854775807) (hl : n + 3 ≤ len) (hbl : bl < w.heap.size) (h0 : w.cell? ⟨bl, o + n, none⟩ = some (.int .u8 x0)) (h1 : w.cell? ⟨bl, o + (n + 1), none⟩ = some (.int .u8 x1)) (h2 : w.cell? ⟨bl, o + (n + 2), none⟩ = some (.int .u8 x2)) (a1 : 224 ≤ x0) (a2 : x0 < 240) (d1 : 128 ≤ x1) (d2 : x1 < 192) (f1 : x2 < 128) :
    Calls Tryd.prog 107 #[.slice (some ⟨bl, o, none⟩) len c, .int .i64 n] w (UnitAns w (0, 0)) := by
  have e0 : (x0 / 32 == 6) = false := by simp; omega
  have e1 : (x0 / 16 == 14) = true := by simp; omega
  have e2 : (x1 / 64 == 2) = true := by simp; omega
  have e3 : (x2 / 64 == 2) = false := by simp; omega
  go_enter Tryd.func107, Tryd.ntmps107
  go_wp2

  refine wp_loop_rounds 4 ?_
  rw [rounds_succ]
  go_wp2
  rw [rounds_succ]
  go_wp2
  rw [rounds_succ]
  go_wp2
  rw [rounds_succ]
  go_wp2
  go_ret2
  exact ⟨rfl, (Ext.refl _).alloc _⟩

set_option maxHeartbeats 4000000 in
theorem unit_N3cmh (w : World) (bl o len c n : Nat) (x0 x1 x2 : Int) (g0 : 0 ≤ x0) (g0' : x0 < 256) (g1 : 0 ≤ x1) (g1' : x1 < 256) (g2 : 0 ≤ x2) (g2' : x2 < 256) (hlc : len ≤ c) (hc : c ≤ 9223372036854775807) (hl : n + 3 ≤ len) (hbl : bl < w.heap.size) (h0 : w.cell? ⟨bl, o + n, none⟩ = some (.int .u8 x0)) (h1 : w.cell? ⟨bl, o + (n + 1), none⟩ = some (.int .u8 x1)) (h2 : w.cell? ⟨bl, o + (n + 2), none⟩ = some (.int .u8 x2)) (a1 : 224 ≤ x0) (a2 : x0 < 240) (d1 : 128 ≤ x1) (d2 : x1 < 192) (f1 : 192 ≤ x2) :
    Calls Tryd.prog 107 #[.slice (some ⟨bl, o, none⟩) len c, .int .i64 n] w (UnitAns w (0, 0)) := by
  have e0 : (x0 / 32 == 6) = false := by simp; omega
  have e1 : (x0 / 16 == 14) = true := by simp; omega
  have e2 : (x1 / 64 == 2) = true := by simp; omega
  have e3 : (x2 / 64 == 2) = false := by simp; omega
  go_enter Tryd.func107, Tryd.ntmps107
  go_wp2

  refine wp_loop_rounds 4 ?_
  rw [rounds_succ]
  go_wp2
  rw [rounds_succ]
  go_wp2
  rw [rounds_succ]
  go_wp2
  rw [rounds_succ]
  go_wp2
  go_ret2
  exact ⟨rfl, (Ext.refl _).alloc _⟩

set_option maxHeartbeats 4000000 in
theorem unit_N1d (w : World) (bl o len c n : Nat) (x0 x1 x2 : Int) (g0 : 0 ≤ x0) (g0' : x0 < 256) (g1 : 0 ≤ x1) (g1' : x1 < 256) (g2 : 0 ≤ x2) (g2' : x2 < 256) (hlc : len ≤ c) (hc : c ≤ 9223372036854775807) (hl : len = n + 1) (hbl : bl < w.heap.size) (h0 : w.cell? ⟨bl, o + n, none⟩ = some (.int .u8 x0)) (a1 : 240 ≤ x0) (a2 : x0 < 256) :
    Calls Tryd.prog 107 #[.slice (some ⟨bl, o, none⟩) len c, .int .i64 n] w (UnitAns w (0, 0)) := by
  have e0 : (x0 / 32 == 6) = false := by simp; omega
  have e1 : (x0 / 16 == 14) = false := by simp; omega
  go_enter Tryd.func107, Tryd.ntmps107
  go_wp2

  refine wp_loop_rounds 2 ?_
  rw [rounds_succ]
  go_wp2
  rw [rounds_succ]
  go_wp2
  go_ret2
  exact ⟨rfl, (Ext.refl _).alloc _⟩

set_option maxHeartbeats 4000000 in
theorem unit_N2d (w : World) (bl o len c n : Nat) (x0 x1 x2 : Int) (g0 : 0 ≤ x0) (g0' : x0 < 256) (g1 : 0 ≤ x1) (g1' : x1 < 256) (g2 : 0 ≤ x2) (g2' : x2 < 256) (hlc : len ≤ c) (hc : c ≤ 9223372036854775807) (hl : len = n + 2) (hbl : bl < w.heap.size) (h0 : w.cell? ⟨bl, o + n, none⟩ = some (.int .u8 x0)) (h1 : w.cell? ⟨bl, o + (n + 1), none⟩ = some (.int .u8 x1)) (a1 : 240 ≤ x0) (a2 : x0 < 256) :
    Calls Tryd.prog 107 #[.slice (some ⟨bl, o, none⟩) len c, .int .i64 n] w (UnitAns w (0, 0)) := by
  have e0 : (x0 / 32 == 6) = false := by simp; omega
  have e1 : (x0 / 16 == 14) = false := by simp; omega
  go_enter Tryd.func107, Tryd.ntmps107
  go_wp2

  refine wp_loop_rounds 3 ?_
  rw [rounds_succ]
  go_wp2
  rw [rounds_succ]
  go_wp2
  rw [rounds_succ]
  go_wp2
  go_ret2
  exact ⟨rfl, (Ext.refl _).alloc _⟩

set_option maxHeartbeats 4000000 in
theorem unit_N3d (w : World) (bl o len c n : Nat) (x0 x1 x2 : Int) (g0 : 0 ≤ x0) (g0' : x0 < 256) (g1 : 0 ≤ x1) (g1' : x1 < 256) (g2 : 0 ≤ x2) (g2' : x2 < 256) (hlc : len ≤ c) (hc : c ≤ 9223372036854775807) (hl : n + 3 ≤ len) (hbl : bl < w.heap.size) (h0 : w.cell? ⟨bl, o + n, none⟩ = some (.int .u8 x0)) (h1 : w.cell? ⟨bl, o + (n + 1), none⟩ = some (.int .u8 x1)) (h2 : w.cell? ⟨bl, o + (n + 2), none⟩ = some (.int .u8 x2)) (a1 : 240 ≤ x0) (a2 : x0 < 256) :
    Calls Tryd.prog 107 #[.slice (some ⟨bl, o, none⟩) len c, .int .i64 n] w (UnitAns w (0, 0)) := by
  have e0 : (x0 / 32 == 6) = false := by simp; omega
  have e1 : (x0 / 16 == 14) = false := by simp; omega
  go_enter Tryd.func107, Tryd.ntmps107
  go_wp2

  refine wp_loop_rounds 4 ?_
  rw [rounds_succ]
  go_wp2
  rw [rounds_succ]
  go_wp2
  rw [rounds_succ]
  go_wp2
  rw [rounds_succ]
  go_wp2
  go_ret2
  exact ⟨rfl, (Ext.refl _).alloc _⟩

end Go.Proofs.YtecgldkhjgcffaaDoor
