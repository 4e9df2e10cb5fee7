/- Several texts of this proof, one behind the other. -/
import Derived.Test.YtokmeomjdpfknaaGreatDoorZaAB
import Derived.Test.YtokmeomjdpfknaaGreatDoorZaM
/- Whether an instruction fits: the document's fits, the project's localFits and constFits, walked, case by case. (gen_codel.py) -/
namespace Go.Proofs.YtokmeomjdpfknaaGreatDoor
open Go.RowKit
set_option linter.unusedVariables false

def opcase (o : Int) : Prop := (o = 6 ∨ o = 9) ∨ (o = 5 ∨ o = 7 ∨ o = 8 ∨ o = 10 ∨ o = 11) ∨ o = 3 ∨ (o = 61 ∨ o = 62 ∨ o = 63 ∨ o = 64) ∨ (o = 65 ∨ o = 68 ∨ o = 76 ∨ o = 77) ∨ (o = 79 ∨ o = 80 ∨ o = 81 ∨ o = 82) ∨
  ((o < 5 ∧ o ≠ 3) ∨ (11 < o ∧ o < 61) ∨ (64 < o ∧ o < 79 ∧ o ≠ 65 ∧ o ≠ 68 ∧ o ≠ 76 ∧ o ≠ 77) ∨ 82 < o)
theorem opcase_all (o : Int) : opcase o := by unfold opcase; omega
theorem fitZ_more {lo : Int} {pool : List Cst} {x : In} (h : x.o = 6 ∨ x.o = 9) : fitZ lo pool x = decide (x.n + 1 < lo) := by unfold fitZ; rw [if_pos h]
theorem fitZ_one {lo : Int} {pool : List Cst} {x : In} (h : x.o = 5 ∨ x.o = 7 ∨ x.o = 8 ∨ x.o = 10 ∨ x.o = 11) : fitZ lo pool x = decide (x.n < lo) := by unfold fitZ; rw [if_neg (by omega), if_pos (by omega)]
theorem fitZ_ldc {lo : Int} {pool : List Cst} {x : In} (h : x.o = 3) : fitZ lo pool x = isKZ pool x.n 2 3 := by unfold fitZ; rw [if_neg (by omega), if_neg (by omega), if_pos h]
theorem fitZ_fld {lo : Int} {pool : List Cst} {x : In} (h : x.o = 61 ∨ x.o = 62 ∨ x.o = 63 ∨ x.o = 64) : fitZ lo pool x = isKZ pool x.n 5 5 := by unfold fitZ; rw [if_neg (by omega), if_neg (by omega), if_neg (by omega), if_pos (by omega)]
theorem fitZ_cls {lo : Int} {pool : List Cst} {x : In} (h : x.o = 65 ∨ x.o = 68 ∨ x.o = 76 ∨ x.o = 77) : fitZ lo pool x = isKZ pool x.n 4 4 := by unfold fitZ; rw [if_neg (by omega), if_neg (by omega), if_neg (by omega), if_neg (by omega), if_pos h]
theorem fitZ_mth {lo : Int} {pool : List Cst} {x : In} (h : x.o = 79 ∨ x.o = 80 ∨ x.o = 81 ∨ x.o = 82) : fitZ lo pool x = isKZ pool x.n 6 6 := by unfold fitZ; rw [if_neg (by omega), if_neg (by omega), if_neg (by omega), if_neg (by omega), if_neg (by omega), if_pos (by omega)]
theorem fitZ_any {lo : Int} {pool : List Cst} {x : In} (h : (x.o < 5 ∧ x.o ≠ 3) ∨ (11 < x.o ∧ x.o < 61) ∨ (64 < x.o ∧ x.o < 79 ∧ x.o ≠ 65 ∧ x.o ≠ 68 ∧ x.o ≠ 76 ∧ x.o ≠ 77) ∨ 82 < x.o) : fitZ lo pool x = true := by
  unfold fitZ; rw [if_neg (by omega), if_neg (by omega), if_neg (by omega), if_neg (by omega), if_neg (by omega), if_neg (by omega)]
theorem local_n {x : In} (h : mayI x = true) (ho : x.o = 6 ∨ x.o = 9) : 0 ≤ x.n ∧ x.n ≤ 255 := by
  obtain ⟨-, -, hf, -⟩ := may_parts h
  unfold fieldsOk at hf
  simp only [Bool.and_eq_true] at hf
  have hz : shapeZ x.o = 1 := by unfold shapeZ; rw [if_pos (by omega)]
  have h1 := hf.1.1.1
  rw [hz] at h1
  simpa using h1
def lfitZ (lo : Int) (x : In) : Bool := if x.o = 6 ∨ x.o = 9 then decide (x.n + 1 < lo) else if 5 ≤ x.o ∧ x.o ≤ 11 then decide (x.n < lo) else true
def cfitZ (pool : List Cst) (x : In) : Bool := if x.o = 3 then isKZ pool x.n 2 3 else if 61 ≤ x.o ∧ x.o ≤ 64 then isKZ pool x.n 5 5 else if x.o = 65 ∨ x.o = 68 ∨ x.o = 76 ∨ x.o = 77 then isKZ pool x.n 4 4
  else if 79 ≤ x.o ∧ x.o ≤ 82 then isKZ pool x.n 6 6 else true
theorem lfitZ_more {lo : Int} {x : In} (h : x.o = 6 ∨ x.o = 9) : lfitZ lo x = decide (x.n + 1 < lo) := by unfold lfitZ; rw [if_pos h]
theorem lfitZ_one {lo : Int} {x : In} (h : x.o = 5 ∨ x.o = 7 ∨ x.o = 8 ∨ x.o = 10 ∨ x.o = 11) : lfitZ lo x = decide (x.n < lo) := by unfold lfitZ; rw [if_neg (by omega), if_pos (by omega)]
theorem lfitZ_any {lo : Int} {x : In} (h : x.o < 5 ∨ 11 < x.o) : lfitZ lo x = true := by unfold lfitZ; rw [if_neg (by omega), if_neg (by omega)]
theorem cfitZ_ldc {pool : List Cst} {x : In} (h : x.o = 3) : cfitZ pool x = isKZ pool x.n 2 3 := by unfold cfitZ; rw [if_pos h]
theorem cfitZ_fld {pool : List Cst} {x : In} (h : x.o = 61 ∨ x.o = 62 ∨ x.o = 63 ∨ x.o = 64) : cfitZ pool x = isKZ pool x.n 5 5 := by unfold cfitZ; rw [if_neg (by omega), if_pos (by omega)]
theorem cfitZ_cls {pool : List Cst} {x : In} (h : x.o = 65 ∨ x.o = 68 ∨ x.o = 76 ∨ x.o = 77) : cfitZ pool x = isKZ pool x.n 4 4 := by unfold cfitZ; rw [if_neg (by omega), if_neg (by omega), if_pos h]
theorem cfitZ_mth {pool : List Cst} {x : In} (h : x.o = 79 ∨ x.o = 80 ∨ x.o = 81 ∨ x.o = 82) : cfitZ pool x = isKZ pool x.n 6 6 := by unfold cfitZ; rw [if_neg (by omega), if_neg (by omega), if_neg (by omega), if_pos (by omega)]
theorem cfitZ_any {pool : List Cst} {x : In} (h : x.o ≠ 3 ∧ ¬ (61 ≤ x.o ∧ x.o ≤ 64) ∧ x.o ≠ 65 ∧ x.o ≠ 68 ∧ x.o ≠ 76 ∧ x.o ≠ 77 ∧ ¬ (79 ≤ x.o ∧ x.o ≤ 82)) : cfitZ pool x = true := by
  unfold cfitZ; rw [if_neg (by omega), if_neg (by omega), if_neg (by omega), if_neg (by omega)]
theorem row_lit1 (w : World) (X : Obj) (T : TypeId) (a : Int) (ha : (Lit.int .i64 a).wf = true) : Row ((w.alloc X).alloc (.cells #[.int .i64 a] T)) .i64 (.slice (some ⟨w.heap.size + 1, 0, none⟩) 1 1) [a] := by
  have h := Row.built (w.alloc X) .i64 T [a] (fun y hy => by rw [List.mem_singleton.1 hy]; exact ha) (by simp)
  rwa [show (w.alloc X).heap.size = w.heap.size + 1 by simp] at h
theorem row_lit2 (w : World) (X : Obj) (T : TypeId) (a b : Int) (ha : (Lit.int .i64 a).wf = true) (hb : (Lit.int .i64 b).wf = true) : Row ((w.alloc X).alloc (.cells #[.int .i64 a, .int .i64 b] T)) .i64 (.slice (some ⟨w.heap.size + 1, 0, none⟩) 2 2) [a, b] := by
  have h := Row.built (w.alloc X) .i64 T [a, b] (fun y hy => by rcases List.mem_cons.1 hy with rfl | hy; exact ha; rw [List.mem_singleton.1 hy]; exact hb) (by simp)
  rwa [show (w.alloc X).heap.size = w.heap.size + 1 by simp] at h
theorem fitZ_both (lo : Int) (pool : List Cst) (x : In) : fitZ lo pool x = (lfitZ lo x && cfitZ pool x) := by
  rcases opcase_all x.o with h | h | h | h | h | h | h
  · rw [fitZ_more h, lfitZ_more h, cfitZ_any (by omega), Bool.and_true]
  · rw [fitZ_one h, lfitZ_one h, cfitZ_any (by omega), Bool.and_true]
  · rw [fitZ_ldc h, lfitZ_any (by omega), cfitZ_ldc h, Bool.true_and]
  · rw [fitZ_fld h, lfitZ_any (by omega), cfitZ_fld h, Bool.true_and]
  · rw [fitZ_cls h, lfitZ_any (by omega), cfitZ_cls h, Bool.true_and]
  · rw [fitZ_mth h, lfitZ_any (by omega), cfitZ_mth h, Bool.true_and]
  · rw [fitZ_any h, lfitZ_any (by omega), cfitZ_any (by omega), Bool.true_and]
end Go.Proofs.YtokmeomjdpfknaaGreatDoor
/- Whether an instruction fits: the project's localFits, walked, case by case. (gen_codel.py) -/
namespace Go.Proofs.YtokmeomjdpfknaaGreatDoor
open Go.RowKit
set_option linter.unusedVariables false
set_option maxRecDepth 100000 in
set_option maxHeartbeats 8000000 in
theorem localFits_any (x : In) (v1 v2 : Value) (lo : Int) (w : World) (h1 : Row w .i64 v1 x.to) (h2 : Row w .i64 v2 x.ks) (hm : mayI x = true) :
    Calls Tryz.prog 204 #[.agg (x.vals v1 v2), .int .i64 lo] w fun e w' => e = .returned (.bool (lfitZ lo x)) ∧ Ext w w' := by
  obtain ⟨a, o, n, m, tt, ks⟩ := x
  obtain ⟨A1, k1, rfl, -⟩ := h1
  obtain ⟨A2, k2, rfl, -⟩ := h2
  simp only at *
  unfold In.vals
  simp only
  rcases opcase_all o with H0 | H1 | H2 | H3 | H4 | H5 | HG
  · rw [lfitZ_more (x := ⟨a, o, n, m, tt, ks⟩) H0]
    have hn := local_n (x := ⟨a, o, n, m, tt, ks⟩) hm H0
    have hw : IntKind.i64.wrap (n + 1) = n + 1 := by rw [IntKind.wrap_i64]; simp only at hn; omega
    clear hm
    rcases H0 with rfl | rfl
    all_goals
      go_enter Tryz.func204, Tryz.ntmps204
      go_wp2
      go_ret
      exact ⟨rfl, (Ext.refl w).alloc _⟩
  · rw [lfitZ_one (x := ⟨a, o, n, m, tt, ks⟩) H1]
    clear hm
    rcases H1 with rfl | rfl | rfl | rfl | rfl
    all_goals
      go_enter Tryz.func204, Tryz.ntmps204
      go_wp2
      go_ret
      exact ⟨rfl, (Ext.refl w).alloc _⟩
  · rw [lfitZ_any (x := ⟨a, o, n, m, tt, ks⟩) (by simp only; omega)]
    clear hm
    subst H2
    all_goals
      go_enter Tryz.func204, Tryz.ntmps204
      go_wp2
      go_ret
      exact ⟨rfl, (Ext.refl w).alloc _⟩
  · rw [lfitZ_any (x := ⟨a, o, n, m, tt, ks⟩) (by simp only; omega)]
    clear hm
    rcases H3 with rfl | rfl | rfl | rfl
    all_goals
      go_enter Tryz.func204, Tryz.ntmps204
      go_wp2
      go_ret
      exact ⟨rfl, (Ext.refl w).alloc _⟩
  · rw [lfitZ_any (x := ⟨a, o, n, m, tt, ks⟩) (by simp only; omega)]
    clear hm
    rcases H4 with rfl | rfl | rfl | rfl
    all_goals
      go_enter Tryz.func204, Tryz.ntmps204
      go_wp2
      go_ret
      exact ⟨rfl, (Ext.refl w).alloc _⟩
  · rw [lfitZ_any (x := ⟨a, o, n, m, tt, ks⟩) (by simp only; omega)]
    clear hm
    rcases H5 with rfl | rfl | rfl | rfl
    all_goals
      go_enter Tryz.func204, Tryz.ntmps204
      go_wp2
      go_ret
      exact ⟨rfl, (Ext.refl w).alloc _⟩
  · rw [lfitZ_any (x := ⟨a, o, n, m, tt, ks⟩) (by simp only; omega)]
    clear hm
    have e5 : (o == 5) = false := by simp; omega
    have e7 : (o == 7) = false := by simp; omega
    have e8 : (o == 8) = false := by simp; omega
    have e10 : (o == 10) = false := by simp; omega
    have e11 : (o == 11) = false := by simp; omega
    have e6 : (o == 6) = false := by simp; omega
    have e9 : (o == 9) = false := by simp; omega
    clear HG
    go_enter Tryz.func204, Tryz.ntmps204
    go_wp2
    go_ret
    exact ⟨rfl, (Ext.refl w).alloc _⟩
end Go.Proofs.YtokmeomjdpfknaaGreatDoor
/- Whether an instruction fits: the project's constFits, walked, case by case. (gen_codel.py) -/
namespace Go.Proofs.YtokmeomjdpfknaaGreatDoor
open Go.RowKit
set_option linter.unusedVariables false
set_option maxRecDepth 100000 in
set_option maxHeartbeats 8000000 in
theorem constFits_any (x : In) (v1 v2 : Value) (vp : Value) (pool : List Cst) (w : World) (h1 : Row w .i64 v1 x.to) (h2 : Row w .i64 v2 x.ks) (hp : ShC.Row w vp pool) (hm : mayI x = true) :
    Calls Tryz.prog 205 #[.agg (x.vals v1 v2), vp] w fun e w' => e = .returned (.bool (cfitZ pool x)) ∧ Ext w w' := by
  obtain ⟨a, o, n, m, tt, ks⟩ := x
  obtain ⟨A1, k1, rfl, -⟩ := h1
  obtain ⟨A2, k2, rfl, -⟩ := h2
  obtain ⟨Ap, cp, rfl, -⟩ := hp.cut
  have HC := Lib.hid (fun vk l W (e : Ext w W) (hk : Row W .i64 vk l) => isConst_any _ pool n vk l W (hp.ext e) hk)
  simp only at *
  unfold In.vals
  simp only
  clear hp
  rcases opcase_all o with H0 | H1 | H2 | H3 | H4 | H5 | HG
  · rw [cfitZ_any (x := ⟨a, o, n, m, tt, ks⟩) (by simp only; omega)]
    clear hm
    rcases H0 with rfl | rfl
    all_goals
      go_enter Tryz.func205, Tryz.ntmps205
      go_wp2
      go_ret
      exact ⟨rfl, (Ext.refl w).alloc _⟩
  · rw [cfitZ_any (x := ⟨a, o, n, m, tt, ks⟩) (by simp only; omega)]
    clear hm
    rcases H1 with rfl | rfl | rfl | rfl | rfl
    all_goals
      go_enter Tryz.func205, Tryz.ntmps205
      go_wp2
      go_ret
      exact ⟨rfl, (Ext.refl w).alloc _⟩
  · rw [cfitZ_ldc (x := ⟨a, o, n, m, tt, ks⟩) H2]
    clear hm
    subst H2
    all_goals
      have HK := Lib.hid (fun vk W (e : Ext w W) hk => HC.out vk [2, 3] W e hk)
      rw [isKs_two] at HK
      go_enter Tryz.func205, Tryz.ntmps205
      go_wp2_with fail
      refine (HK.out (.slice (some ⟨w.heap.size + 1, 0, none⟩) 2 2) _ (((Ext.refl w).alloc _).alloc _) (row_lit2 w _ _ 2 3 (by decide) (by decide))).mono ?_
      rintro e w1 ⟨rfl, rfl⟩
      go_wp2
      go_ret
      exact ⟨rfl, ((Ext.refl w).alloc _).alloc _⟩
  · rw [cfitZ_fld (x := ⟨a, o, n, m, tt, ks⟩) H3]
    clear hm
    rcases H3 with rfl | rfl | rfl | rfl
    all_goals
      have HK := Lib.hid (fun vk W (e : Ext w W) hk => HC.out vk [5] W e hk)
      rw [isKs_one] at HK
      go_enter Tryz.func205, Tryz.ntmps205
      go_wp2_with fail
      refine (HK.out (.slice (some ⟨w.heap.size + 1, 0, none⟩) 1 1) _ (((Ext.refl w).alloc _).alloc _) (row_lit1 w _ _ 5 (by decide))).mono ?_
      rintro e w1 ⟨rfl, rfl⟩
      go_wp2
      go_ret
      exact ⟨rfl, ((Ext.refl w).alloc _).alloc _⟩
  · rw [cfitZ_cls (x := ⟨a, o, n, m, tt, ks⟩) H4]
    clear hm
    rcases H4 with rfl | rfl | rfl | rfl
    all_goals
      have HK := Lib.hid (fun vk W (e : Ext w W) hk => HC.out vk [4] W e hk)
      rw [isKs_one] at HK
      go_enter Tryz.func205, Tryz.ntmps205
      go_wp2_with fail
      refine (HK.out (.slice (some ⟨w.heap.size + 1, 0, none⟩) 1 1) _ (((Ext.refl w).alloc _).alloc _) (row_lit1 w _ _ 4 (by decide))).mono ?_
      rintro e w1 ⟨rfl, rfl⟩
      go_wp2
      go_ret
      exact ⟨rfl, ((Ext.refl w).alloc _).alloc _⟩
  · rw [cfitZ_mth (x := ⟨a, o, n, m, tt, ks⟩) H5]
    clear hm
    rcases H5 with rfl | rfl | rfl | rfl
    all_goals
      have HK := Lib.hid (fun vk W (e : Ext w W) hk => HC.out vk [6] W e hk)
      rw [isKs_one] at HK
      go_enter Tryz.func205, Tryz.ntmps205
      go_wp2_with fail
      refine (HK.out (.slice (some ⟨w.heap.size + 1, 0, none⟩) 1 1) _ (((Ext.refl w).alloc _).alloc _) (row_lit1 w _ _ 6 (by decide))).mono ?_
      rintro e w1 ⟨rfl, rfl⟩
      go_wp2
      go_ret
      exact ⟨rfl, ((Ext.refl w).alloc _).alloc _⟩
  · rw [cfitZ_any (x := ⟨a, o, n, m, tt, ks⟩) (by simp only; omega)]
    clear hm
    have e3 : (o == 3) = false := by simp; omega
    have e61 : (o == 61) = false := by simp; omega
    have e62 : (o == 62) = false := by simp; omega
    have e63 : (o == 63) = false := by simp; omega
    have e64 : (o == 64) = false := by simp; omega
    have e65 : (o == 65) = false := by simp; omega
    have e68 : (o == 68) = false := by simp; omega
    have e76 : (o == 76) = false := by simp; omega
    have e77 : (o == 77) = false := by simp; omega
    have e79 : (o == 79) = false := by simp; omega
    have e80 : (o == 80) = false := by simp; omega
    have e81 : (o == 81) = false := by simp; omega
    have e82 : (o == 82) = false := by simp; omega
    clear HG
    go_enter Tryz.func205, Tryz.ntmps205
    go_wp2
    go_ret
    exact ⟨rfl, (Ext.refl w).alloc _⟩
end Go.Proofs.YtokmeomjdpfknaaGreatDoor
/- The project's unfit, walked. -/
namespace Go.Proofs.YtokmeomjdpfknaaGreatDoor
open Go.RowKit
set_option linter.unusedVariables false

def One (w : World) (g : Nat) (u : Value) : Prop := w.cell? ⟨g, 0, none⟩ = some u ∧ g < w.heap.size
theorem One.ext {w w' : World} {g : Nat} {u : Value} (h : One w g u) (e : Ext w w') : One w' g u := ⟨(e.cell (p := ⟨g, 0, none⟩) h.2).trans h.1, Nat.lt_of_lt_of_le h.2 e.size⟩
theorem One.new (w : World) (u : Value) (T : TypeId) : One (w.alloc (.cells #[u] T)) w.heap.size u := by
  refine ⟨?_, by simp⟩
  rw [cell_of_row _ w.heap.size 0 _ T (0, 0) (heap_alloc_new w _)]
  rfl
theorem One.new2 (w : World) (X : Obj) (u : Value) (T : TypeId) : One ((w.alloc X).alloc (.cells #[u] T)) (w.heap.size + 1) u := by
  have h := One.new (w.alloc X) u T
  rwa [show (w.alloc X).heap.size = w.heap.size + 1 by simp] at h
set_option maxRecDepth 100000 in
set_option maxHeartbeats 4000000 in
theorem unfit1_any (x : In) (v1 v2 : Value) (gl gp : Nat) (lo : Int) (vp : Value) (pool : List Cst) (w : World) (h1 : Row w .i64 v1 x.to) (h2 : Row w .i64 v2 x.ks) (hl : One w gl (.int .i64 lo)) (hg : One w gp vp) (hp : ShC.Row w vp pool) (hm : mayI x = true) :
    Calls Tryz.prog 203 #[.agg (x.vals v1 v2), .pointer (some ⟨gl, 0, none⟩), .pointer (some ⟨gp, 0, none⟩)] w fun e w' => e = .returned (.bool (fitZ lo pool x)) ∧ Ext w w' := by
  have HL := Lib.hid (fun W (e : Ext w W) => localFits_any x v1 v2 lo W (h1.ext e) (h2.ext e) hm)
  have HC := Lib.hid (fun W (e : Ext w W) => constFits_any x v1 v2 vp pool W (h1.ext e) (h2.ext e) (hp.ext e) hm)
  have HG := Lib.hid hg
  rw [fitZ_both]
  obtain ⟨A1, k1, rfl, -⟩ := h1
  obtain ⟨A2, k2, rfl, -⟩ := h2
  obtain ⟨Ap, cp, rfl, -⟩ := hp.cut
  have HB := Lib.hid (fun W e => boxed (w := w) (W := W) (x := x) (v1 := .slice A1 x.to.length k1) (v2 := .slice A2 x.ks.length k2) e)
  obtain ⟨d0, d1, d2, d3, d4, d5⟩ := HB.out _ (Ext.refl _)
  obtain ⟨r1, hr1⟩ : ∃ r, lfitZ lo x = r := ⟨_, rfl⟩
  obtain ⟨r2, hr2⟩ : ∃ r, cfitZ pool x = r := ⟨_, rfl⟩
  rw [hr1] at HL ⊢
  rw [hr2] at HC ⊢
  obtain ⟨y0, hlt⟩ := hl
  have hne : ¬ gl = w.heap.size := by omega
  unfold In.vals at HL HC HB d0 d1 d2 d3 d4 d5 ⊢
  clear hr1 hr2 hm hp hg
  go_enter Tryz.func203, Tryz.ntmps203
  go_wp2_with fail
  refine (HL.out _ ((Ext.refl w).alloc _)).mono ?_
  rintro e w1 ⟨rfl, x1⟩
  have X1 := Lib.hid x1
  clear x1 d0 d1 d2 d3 d4 d5 y0
  cases r1
  · go_wp2
    go_ret
    exact ⟨rfl, ((Ext.refl w).alloc _).trans X1.out⟩
  · obtain ⟨d0, d1, d2, d3, d4, d5⟩ := HB.out _ X1.out
    have z0 := (HG.out.ext (((Ext.refl w).alloc _).trans X1.out)).1
    go_wp2_with fail
    refine (HC.out _ (((Ext.refl w).alloc _).trans X1.out)).mono ?_
    rintro e w2 ⟨rfl, x2⟩
    go_wp2
    go_ret
    exact ⟨by simp, (((Ext.refl w).alloc _).trans X1.out).trans x2⟩
set_option maxRecDepth 100000 in
set_option maxHeartbeats 4000000 in
theorem unfit_any (v : Value) (l : List In) (lo : Int) (vp : Value) (pool : List Cst) (w : World) (h : RowI w v l) (hp : ShC.Row w vp pool) (hm : ∀ x ∈ l, mayI x = true) :
    Calls Tryz.prog 171 #[v, .int .i64 lo, vp] w fun e w' => e = .returned (.tuple #[.int .i64 (firstNot (fitZ lo pool) l).1, .bool (firstNot (fitZ lo pool) l).2]) ∧ Ext w w' := by
  have HF := Lib.hid (fun W (e : Ext w W) g1 g2 (o1 : One W g1 (.int .i64 lo)) (o2 : One W g2 vp) => firstBut_any 203 #[.pointer (some ⟨g1, 0, none⟩), .pointer (some ⟨g2, 0, none⟩)] (fitZ lo pool) v l W (h.ext e) (fun args W => Tryz.call203 args W)
    (fun W' e' x hx v1 v2 h1 h2 => unfit1_any x v1 v2 g1 g2 lo vp pool W' h1 h2 (o1.ext e') (o2.ext e') (hp.ext (e.trans e')) (hm x hx)))
  obtain ⟨A, c, rfl, -⟩ := h.cut
  obtain ⟨Ap, cp, rfl, -⟩ := hp.cut
  obtain ⟨F, hF⟩ : ∃ F, firstNot (fitZ lo pool) l = F := ⟨_, rfl⟩
  rw [hF] at HF ⊢
  clear h hp hm hF
  go_enter Tryz.func171, Tryz.ntmps171
  go_wp2_with fail
  refine (HF.out _ (((Ext.refl w).alloc _).alloc _) w.heap.size (w.heap.size + 1) ((One.new w _ _).ext ((Ext.refl _).alloc _)) (One.new2 w _ _ _)).mono ?_
  rintro e w2 ⟨rfl, x2⟩
  go_wp2
  go_ret2
  exact ⟨rfl, (((Ext.refl w).alloc _).alloc _).trans x2⟩
set_option maxRecDepth 100000 in
set_option maxHeartbeats 4000000 in
theorem roomFits_any (m : Me) (va vc vh : Value) (w : World) (h : MeAt w m va vc vh) :
    Calls Tryz.prog 172 #[.agg (m.vals va vc vh)] w fun e w' => e = .returned (.bool (roomZ m)) ∧ Ext w w' := by
  obtain ⟨Aa, ca, rfl, -⟩ := h.1.cut
  obtain ⟨Ac, cc, rfl, -⟩ := id h.2.1
  obtain ⟨Ah, ch, rfl, -⟩ := h.2.2.cut
  unfold Me.vals roomZ
  clear h
  by_cases h1 : 0 ≤ m.sk
  · by_cases h2 : m.sk ≤ 255
    · by_cases h3 : 0 ≤ m.lo
      · rw [show decide (0 ≤ m.sk ∧ m.sk ≤ 255 ∧ 0 ≤ m.lo ∧ m.lo ≤ 255) = decide (m.lo ≤ 255) by simp [h1, h2, h3]]
        go_enter Tryz.func172, Tryz.ntmps172
        go_wp2
        go_ret
        exact ⟨rfl, (Ext.refl w).alloc _⟩
      · rw [show decide (0 ≤ m.sk ∧ m.sk ≤ 255 ∧ 0 ≤ m.lo ∧ m.lo ≤ 255) = false by simp [h3]]
        go_enter Tryz.func172, Tryz.ntmps172
        go_wp2
        go_ret
        exact ⟨rfl, (Ext.refl w).alloc _⟩
    · rw [show decide (0 ≤ m.sk ∧ m.sk ≤ 255 ∧ 0 ≤ m.lo ∧ m.lo ≤ 255) = false by simp [h2]]
      go_enter Tryz.func172, Tryz.ntmps172
      go_wp2
      go_ret
      exact ⟨rfl, (Ext.refl w).alloc _⟩
  · rw [show decide (0 ≤ m.sk ∧ m.sk ≤ 255 ∧ 0 ≤ m.lo ∧ m.lo ≤ 255) = false by simp [h1]]
    go_enter Tryz.func172, Tryz.ntmps172
    go_wp2
    go_ret
    exact ⟨rfl, (Ext.refl w).alloc _⟩
end Go.Proofs.YtokmeomjdpfknaaGreatDoor
/- The project's handlersFit, walked. -/
namespace Go.Proofs.YtokmeomjdpfknaaGreatDoor
open Go.RowKit
set_option linter.unusedVariables false

set_option maxRecDepth 100000 in
set_option maxHeartbeats 4000000 in
theorem hand1_any (h : Hd) (f g gm gp : Nat) (l : List In) (m : Me) (va vc vh vp : Value) (pool : List Cst) (w : World) (hf : FB w f g) (hg : BG w g l) (ha : Within l) (hm : MeB w gm m va vc vh) (hmr : MeAt w m va vc vh) (hpv : One w gp vp) (hp : ShC.Row w vp pool) :
    Calls Tryz.prog 207 #[.agg h.vals, .pointer (some ⟨f, 0, none⟩), .pointer (some ⟨gm, 0, none⟩), .pointer (some ⟨gp, 0, none⟩)] w fun e w' => e = .returned (.bool (handZ l m.code.length pool h)) ∧ Ext w w' := by
  obtain ⟨xf, xt, xa, xc⟩ := h
  have HB := Lib.hid (fun t => begins_any t g l (w.alloc (.cells #[.int .i64 xf, .int .i64 xt, .int .i64 xa, .int .i64 xc] 58)) (hg.ext ((Ext.refl w).alloc _)) ha)
  have HC := Lib.hid (fun vk W (e : Ext w W) (hk : Row W .i64 vk [4]) => isConst_any vp pool xc vk [4] W (hp.ext e) hk)
  have hb1 := HB.out xf
  have hb2 := HB.out xa
  have hb3 := HB.out xt
  rw [isKs_one] at HC
  obtain ⟨r1, hr1⟩ : ∃ r, hasAt l xf = r := ⟨_, rfl⟩
  obtain ⟨r2, hr2⟩ : ∃ r, hasAt l xa = r := ⟨_, rfl⟩
  obtain ⟨r3, hr3⟩ : ∃ r, hasAt l xt = r := ⟨_, rfl⟩
  obtain ⟨r4, hr4⟩ : ∃ r, isKZ pool xc 4 4 = r := ⟨_, rfl⟩
  obtain ⟨n, hn⟩ : ∃ n, m.code.length = n := ⟨_, rfl⟩
  obtain ⟨Z, hZ⟩ : ∃ Z, handZ l m.code.length pool ⟨xf, xt, xa, xc⟩ = Z := ⟨_, rfl⟩
  have HZ : Hid (Z = (r1 && (r2 && (decide (xf < xt) && ((r3 || decide (xt = (n : Int))) && (decide (xc = 0) || r4)))))) := Lib.hid (by rw [← hZ]; unfold handZ; rw [hr1, hr2, hr3, hr4, hn])
  rw [hr1] at hb1
  rw [hr2] at hb2
  rw [hr3] at hb3
  rw [hr4] at HC
  rw [hZ]
  have H1 := Lib.hid hb1
  have H2 := Lib.hid hb2
  have H3 := Lib.hid hb3
  obtain ⟨Ac, cc, rfl, -⟩ := id hmr.2.1
  obtain ⟨Ap, cp, rfl, -⟩ := hp.cut
  have yf := hf.cell
  have ym := hm.cells.2.2.2.2.2.2.2.2.1
  have yp := hpv.1
  have lf := lt_of_get hf
  have lm := hm.lt
  have lp := hpv.2
  have nf : ¬ f = w.heap.size := by omega
  have nm : ¬ gm = w.heap.size := by omega
  have np : ¬ gp = w.heap.size := by omega
  rw [hn] at ym
  unfold Hd.vals
  clear hb1 hb2 hb3 hr1 hr2 hr3 hr4 hn hZ hf hg ha hm hmr hpv hp HB
  go_enter Tryz.func207, Tryz.ntmps207
  go_wp2_with fail
  refine H1.out.mono ?_
  rintro e w1 ⟨rfl, rfl⟩
  cases r1
  · go_wp2
    go_ret
    exact ⟨by rw [HZ.out]; rfl, (Ext.refl w).alloc _⟩
  go_wp2_with fail
  refine H2.out.mono ?_
  rintro e w1 ⟨rfl, rfl⟩
  cases r2
  · go_wp2
    go_ret
    exact ⟨by rw [HZ.out]; rfl, (Ext.refl w).alloc _⟩
  by_cases hlt : xf < xt
  case neg =>
    rw [decide_eq_false hlt] at HZ
    go_wp2
    go_ret
    exact ⟨by rw [HZ.out]; rfl, (Ext.refl w).alloc _⟩
  rw [decide_eq_true hlt] at HZ
  go_wp2_with fail
  refine H3.out.mono ?_
  rintro e w1 ⟨rfl, rfl⟩
  have last : ∀ (s : Bool), r3 = s → (s = true ∨ (s = false ∧ (xt == (n : Int)) = true)) → (r3 || decide (xt = (n : Int))) = true := by
    rintro s rfl (h | ⟨h, h2⟩)
    · rw [h]; rfl
    · rw [h]; simpa using h2
  cases r3
  · by_cases htn : xt = (n : Int)
    · have bt : (xt == (n : Int)) = true := by simpa using htn
      rw [decide_eq_true htn] at HZ
      clear last htn
      by_cases hc : xc = 0
      · have bc : (xc == 0) = true := by simpa using hc
        rw [decide_eq_true hc] at HZ
        clear hc
        go_wp2
        go_ret
        exact ⟨by rw [HZ.out]; rfl, (Ext.refl w).alloc _⟩
      · have bc : (xc == 0) = false := by simpa using hc
        rw [decide_eq_false hc] at HZ
        clear hc
        go_wp2_with fail
        refine (HC.out (.slice (some ⟨w.heap.size + 1, 0, none⟩) 1 1) _ (((Ext.refl w).alloc _).alloc _) (row_lit1 w _ _ 4 (by decide))).mono ?_
        rintro e w1 ⟨rfl, rfl⟩
        go_wp2
        go_ret
        exact ⟨by rw [HZ.out]; simp, ((Ext.refl w).alloc _).alloc _⟩
    · have bt : (xt == (n : Int)) = false := by simpa using htn
      rw [decide_eq_false htn] at HZ
      clear last htn
      go_wp2
      go_ret
      exact ⟨by rw [HZ.out]; simp, (Ext.refl w).alloc _⟩
  · clear last
    by_cases hc : xc = 0
    · have bc : (xc == 0) = true := by simpa using hc
      rw [decide_eq_true hc] at HZ
      clear hc
      go_wp2
      go_ret
      exact ⟨by rw [HZ.out]; simp, (Ext.refl w).alloc _⟩
    · have bc : (xc == 0) = false := by simpa using hc
      rw [decide_eq_false hc] at HZ
      clear hc
      go_wp2_with fail
      refine (HC.out (.slice (some ⟨w.heap.size + 1, 0, none⟩) 1 1) _ (((Ext.refl w).alloc _).alloc _) (row_lit1 w _ _ 4 (by decide))).mono ?_
      rintro e w1 ⟨rfl, rfl⟩
      go_wp2
      go_ret
      exact ⟨by rw [HZ.out]; simp, ((Ext.refl w).alloc _).alloc _⟩
def FH (w : World) (f2 f gm gp : Nat) : Prop := One w f2 (.func (.func 207) #[] #[.pointer (some ⟨f, 0, none⟩), .pointer (some ⟨gm, 0, none⟩), .pointer (some ⟨gp, 0, none⟩)])
set_option maxRecDepth 100000 in
set_option maxHeartbeats 4000000 in
theorem hand2_any (h : Hd) (f2 f gm gp : Nat) (r : Bool) (w : World) (hf : FH w f2 f gm gp)
    (hc : ∀ W, Ext w W → Calls Tryz.prog 207 #[.agg h.vals, .pointer (some ⟨f, 0, none⟩), .pointer (some ⟨gm, 0, none⟩), .pointer (some ⟨gp, 0, none⟩)] W fun e w' => e = .returned (.bool r) ∧ Ext W w') :
    Calls Tryz.prog 210 #[.agg h.vals, .pointer (some ⟨f2, 0, none⟩)] w fun e w' => e = .returned (.bool (!r)) ∧ Ext w w' := by
  have HC := Lib.hid hc
  have y0 := hf.1
  have l0 := hf.2
  have n0 : ¬ f2 = w.heap.size := by omega
  unfold Hd.vals at HC ⊢
  clear hf hc
  go_enter Tryz.func210, Tryz.ntmps210
  go_wp2_with fail
  refine (HC.out _ ((Ext.refl w).alloc _)).mono ?_
  rintro e w1 ⟨rfl, x1⟩
  go_wp2
  go_ret
  exact ⟨rfl, ((Ext.refl w).alloc _).trans x1⟩
set_option maxRecDepth 100000 in
set_option maxHeartbeats 4000000 in
theorem indexH_any (fid : FuncId) (caps : Array Value) (p : Hd → Bool) (v : Value) (l : List Hd) (w : World) (h : ShH.Row w v l)
    (hc : ∀ args W, (callFunc fid args).run Tryz.prog W = .ok (.enter fid args) W)
    (hp : ∀ W, Ext w W → ∀ x ∈ l, Calls Tryz.prog fid (#[.agg x.vals] ++ caps) W fun e w' => e = .returned (.bool (p x)) ∧ Ext W w') :
    Calls Tryz.prog 241 #[v, .func (.func fid) #[] caps] w fun e w' => e = .returned (.int .i64 (idxP p l 0)) ∧ Ext w w' := by
  have H := Lib.hid h
  obtain ⟨A, c, rfl, hc0, hm, -⟩ := h.cut
  unfold maxLen at hm
  obtain ⟨n, hn⟩ : ∃ n, n = l.length := ⟨_, rfl⟩
  rw [← hn] at hc0 H ⊢
  have Hn := Lib.hid hn
  have HP := Lib.hid hp
  obtain ⟨F, hF⟩ : ∃ F, idxP p l 0 = F := ⟨_, rfl⟩
  have HF := Lib.hid hF
  rw [hF]
  clear hn h hp hF
  go_enter Tryz.func241, Tryz.ntmps241
  go_wp2
  go_loopw [8] (fun i wr => ∃ (k : Nat), i = .int .i64 k ∧ k ≤ n ∧ Hid (F = idxP p (l.drop k) k) ∧ Hid (Ext w wr)) (fun i _ => n - (intOf i).toNat)
  case atStart => exact ⟨0, rfl, by omega, Lib.hid HF.out.symm, Lib.hid (Ext.refl w)⟩
  case round =>
    obtain ⟨k, rfl, hk, HQ, HX⟩ := hrel
    by_cases hlt : k < n
    · have hkl : k < l.length := by have := Hn.out; omega
      obtain ⟨b, o, rfl, hat⟩ := rowH_at H.out (by omega)
      obtain ⟨y0, y1, y2, y3⟩ := hat _ HX.out k hkl
      have HC := Lib.hid (HP.out wr HX.out _ (gh_mem hkl))
      have hN : p (gh l k) = false → F = idxP p (l.drop (k + 1)) (k + 1) := fun e => HQ.out.trans (idxP_next (gh_some hkl) e)
      have hH : p (gh l k) = true → F = k := fun e => HQ.out.trans (idxP_here (gh_some hkl) e)
      obtain ⟨x, hx⟩ : ∃ x, gh l k = x := ⟨_, rfl⟩
      rw [hx] at y0 y1 y2 y3 HC hN hH
      unfold Hd.vals at HC
      obtain ⟨r, hr⟩ : ∃ r, p x = r := ⟨_, rfl⟩
      rw [hr] at HC hN hH
      have HN := Lib.hid hN
      have HH := Lib.hid hH
      clear hat hx hkl hr hN hH
      go_wp2_with fail
      refine HC.out.mono ?_
      rintro e w1 ⟨rfl, x1⟩
      have X1 := Lib.hid x1
      clear x1
      cases r
      · have HE := Lib.hid (HN.out rfl)
        go_wp2_with fail
        go_roundw
        case rel => exact ⟨k + 1, by go_num, by omega, HE, Lib.hid (HX.out.trans X1.out)⟩
        case measure => simp [intOf]; omega
      · have HE := Lib.hid (HH.out rfl)
        go_wp2
        go_ret
        exact ⟨by rw [HE.out]; rfl, HX.out.trans X1.out⟩
    · have HE := Lib.hid (show F = -1 by rw [HQ.out, List.drop_of_length_le (by have := Hn.out; omega)]; rfl)
      go_wp2
      go_ret
      exact ⟨by rw [HE.out]; rfl, HX.out⟩
set_option maxRecDepth 100000 in
theorem containsH_any (fid : FuncId) (caps : Array Value) (p : Hd → Bool) (v : Value) (l : List Hd) (w : World) (h : ShH.Row w v l)
    (hc : ∀ args W, (callFunc fid args).run Tryz.prog W = .ok (.enter fid args) W)
    (hp : ∀ W, Ext w W → ∀ x ∈ l, Calls Tryz.prog fid (#[.agg x.vals] ++ caps) W fun e w' => e = .returned (.bool (p x)) ∧ Ext W w') :
    Calls Tryz.prog 209 #[v, .func (.func fid) #[] caps] w fun e w' => e = .returned (.bool (l.any p)) ∧ Ext w w' := by
  have HI := Lib.hid (indexH_any fid caps p v l w h hc hp)
  rw [← idxP_any (p := p) (l := l) (k := 0)]
  obtain ⟨A, c, rfl, -⟩ := h.cut
  obtain ⟨R, hR⟩ : ∃ R, idxP p l 0 = R := ⟨_, rfl⟩
  rw [hR] at HI ⊢
  clear hR h hp
  go_enter Tryz.func209, Tryz.ntmps209
  go_wp2_with fail
  refine HI.out.mono ?_
  rintro e w1 ⟨rfl, x1⟩
  go_wp2
  go_ret
  exact ⟨rfl, x1⟩
theorem any_notH {s : List Hd} {p : Hd → Bool} : (!s.any fun t => !p t) = s.all p := by
  induction s with
  | nil => rfl
  | cons x s ih => rw [List.any_cons, List.all_cons, ← ih]; cases p x <;> simp
set_option maxRecDepth 100000 in
set_option maxHeartbeats 4000000 in
theorem handlersFit_any (v : Value) (l : List In) (m : Me) (va vc vh vp : Value) (pool : List Cst) (w : World) (h : RowI w v l) (ha : Within l) (hm : MeAt w m va vc vh) (hp : ShC.Row w vp pool) :
    Calls Tryz.prog 173 #[.agg (m.vals va vc vh), v, vp] w fun e w' => e = .returned (.bool (handsZ l m pool)) ∧ Ext w w' := by
  have HM := Lib.hid hm
  obtain ⟨A, c, rfl, -⟩ := h.cut
  obtain ⟨Aa, ca, rfl, -⟩ := hm.1.cut
  obtain ⟨Ac, cc, rfl, -⟩ := id hm.2.1
  obtain ⟨Ah, ch, rfl, hch, hmh, -⟩ := hm.2.2.cut
  unfold maxLen at hmh
  obtain ⟨Ap, cp, rfl, -⟩ := hp.cut
  have HB := Lib.hid (fun W (e : Ext w W) => beginnings_any _ l W (h.ext e) ha)
  have HMB := Lib.hid (fun W (e : Ext (w.alloc (.cells (m.vals (.slice Aa m.args.length ca) (.slice Ac m.code.length cc) (.slice Ah m.hs.length ch)) 47)) W) => (MeB.new w m (.slice Aa m.args.length ca) (.slice Ac m.code.length cc) (.slice Ah m.hs.length ch)).ext e)
  obtain ⟨q, hq⟩ : ∃ q, m.hs.length = q := ⟨_, rfl⟩
  by_cases hbig : 256 < q
  · rw [show handsZ l m pool = false by unfold handsZ; rw [decide_eq_false (by omega)]; simp]
    rw [hq]
    unfold Me.vals
    clear hm hp h ha hq
    go_enter Tryz.func173, Tryz.ntmps173
    go_wp2
    go_ret
    exact ⟨rfl, ((Ext.refl w).alloc _).alloc _⟩
  · have HF := Lib.hid (fun W (e : Ext w W) f2 f g gm gp (h2 : FH W f2 f gm gp) (hf : FB W f g) (hg : BG W g l) (hb : MeB W gm m (.slice Aa m.args.length ca) (.slice Ac m.code.length cc) (.slice Ah m.hs.length ch)) (ho : One W gp (.slice Ap pool.length cp)) =>
      containsH_any 210 #[.pointer (some ⟨f2, 0, none⟩)] (fun x => !handZ l m.code.length pool x) _ m.hs W (HM.out.2.2.ext e) (fun args W => Tryz.call210 args W)
      (fun W' e' x hx => hand2_any x f2 f gm gp _ W' (One.ext h2 e') (fun W2 e2 => hand1_any x f g gm gp l m _ _ _ _ pool W2 (hf.ext (e'.trans e2)) (hg.ext (e'.trans e2)) ha (hb.ext (e'.trans e2)) (HM.out.ext (e.trans (e'.trans e2))) (ho.ext (e'.trans e2)) (hp.ext (e.trans (e'.trans e2))))))
    rw [show handsZ l m pool = !(m.hs.any fun x => !handZ l m.code.length pool x) by unfold handsZ; rw [decide_eq_true (show m.hs.length ≤ 256 by omega), Bool.and_true, any_notH]]
    obtain ⟨r, hr⟩ : ∃ r, (m.hs.any fun x => !handZ l m.code.length pool x) = r := ⟨_, rfl⟩
    rw [hr] at HF ⊢
    rw [hq] at HF HMB ⊢
    unfold Me.vals at HMB ⊢
    clear hm hp h ha hq hr HM
    go_enter Tryz.func173, Tryz.ntmps173
    go_wp2_with fail
    refine (HB.out _ (((Ext.refl w).alloc _).alloc _)).mono ?_
    rintro e w1 ⟨g, rfl, hg, hs, x1⟩
    have X1 := Lib.hid x1
    have HG := Lib.hid hg
    clear hg x1
    have hmb := HMB.out _ (((Ext.refl _).alloc _).trans X1.out)
    have y9 := hmb.cells.2.2.2.2.2.2.2.2.2
    have hlt := hmb.lt
    have n1 : ¬ w.heap.size = w1.heap.size := by omega
    have n2 : ¬ w.heap.size = w1.heap.size + 1 := by omega
    have HM2 := Lib.hid hmb
    clear hmb
    go_wp2_with fail
    refine (HF.out _ ((((((Ext.refl w).alloc _).alloc _).trans X1.out).alloc _).alloc _) (w1.heap.size + 1) w1.heap.size g w.heap.size (w.heap.size + 1) (One.new2 w1 _ _ _) ((heap_alloc_old _ _ (by simp)).trans (heap_alloc_new w1 _)) (HG.out.ext (((Ext.refl w1).alloc _).alloc _)) (HM2.out.ext (((Ext.refl w1).alloc _).alloc _)) ((One.new2 w _ _ _).ext ((X1.out.alloc _).alloc _))).mono ?_
    rintro e w2 ⟨rfl, x2⟩
    go_wp2
    go_ret
    exact ⟨rfl, ((((((Ext.refl w).alloc _).alloc _).trans X1.out).alloc _).alloc _).trans x2⟩
end Go.Proofs.YtokmeomjdpfknaaGreatDoor
