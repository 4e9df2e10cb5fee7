/- Several texts of this proof, one behind the other. -/
import Derived.Test.YtokmeomjdpfknaaGreatDoorZbB
import Derived.Tactics
import Derived.Test.YtokmeomjdpfknaaGreatDoorShelf2
import Derived.Test.YtokmeomjdpfknaaGreatDoorZbD
import Derived.Test.YtokmeomjdpfknaaGreatDoorZbC
namespace Go.Proofs.YtokmeomjdpfknaaGreatDoor
open Go.RowKit
set_option linter.unusedVariables false

def Texts (l : List Cst) : Prop := ∀ y ∈ l, y.t.size ≤ 140737488351232
theorem Texts.at_ {l : List Cst} (h : Texts l) (j : Nat) : (gc l j).t.size ≤ 140737488351232 := by
  by_cases hj : j < l.length
  · exact h _ (gc_mem hj)
  · rw [gc_past (by omega)]
    exact Nat.zero_le _
theorem is_any (v : Value) (l : List Cst) (i k : Int) (w : World) (h : RowC w v l) (hi : I64 i) (hk : I64 k) (hz : (gc l 0).k = 0) (hk0 : ¬ k = 0) :
    Calls Tryz.prog 161 #[v, .int .i64 i, .int .i64 k] w fun e w' => e = .returned (.bool (isK l i k)) ∧ w = w' := by
  obtain ⟨hi0, hi1⟩ := hi
  obtain ⟨A, c, rfl, h2, h3, h4, h5, h6⟩ := h
  unfold maxLen at h3
  by_cases h1 : 0 ≤ i
  · obtain ⟨j, rfl⟩ : ∃ j : Nat, i = j := ⟨i.toNat, by omega⟩
    by_cases hlt : (j : Int) < l.length
    · obtain ⟨b, o, rfl, _, hc⟩ := h6 (by omega)
      obtain ⟨a0, a1, a2, a3, a4, a5⟩ := hc j (by omega)
      have e : isK l j k = ((gc l j).k == k) := by
        by_cases hj : j = 0
        · subst hj
          rw [hz]
          have : (0 == k) = false := by simpa using (fun e => hk0 e.symm)
          rw [this]
          simp [isK]
        · have : (1 : Int) ≤ j := by omega
          simp [isK, this, hlt]
          rfl
      rw [e]
      clear hc h6 e hz hk0
      go_enter Tryz.func161, Tryz.ntmps161
      go_wp2
      go_ret
      exact ⟨rfl, rfl⟩
    · have e : isK l j k = false := by simp [isK]; omega
      rw [e]
      clear h6 e hz hk0
      go_enter Tryz.func161, Tryz.ntmps161
      go_wp2
      go_ret
      exact ⟨rfl, rfl⟩
  · have e : isK l i k = false := by simp [isK]; omega
    rw [e]
    clear h6 e hz hk0
    go_enter Tryz.func161, Tryz.ntmps161
    go_wp2
    go_ret
    exact ⟨rfl, rfl⟩

theorem namesTexts_any (v : Value) (l : List Cst) (x : Cst) (w : World) (h : RowC w v l) (hx : x.ok) (hz : (gc l 0).k = 0) :
    Calls Tryz.prog 162 #[v, .agg x.vals] w fun e w' => e = .returned (.bool (isK l x.b 1 && isK l x.c 1)) ∧ Ext w w' := by
  obtain ⟨k, t, n, a, b, c⟩ := x
  obtain ⟨-, -, -, ok_b, ok_c⟩ := hx
  simp only at ok_b ok_c ⊢
  unfold Cst.vals
  simp only
  obtain ⟨e1, he1⟩ : ∃ e1, isK l b 1 = e1 := ⟨_, rfl⟩
  obtain ⟨e2, he2⟩ : ∃ e2, isK l c 1 = e2 := ⟨_, rfl⟩
  rw [he1, he2]
  have H1 := Lib.hid he1
  have H2 := Lib.hid he2
  clear he1 he2
  cases e1
  · go_enter Tryz.func162, Tryz.ntmps162
    go_wp2_with fail
    refine (is_any _ l _ _ _ (by exact h.ext ((Ext.refl _).alloc _)) ok_b (by unfold I64; omega) hz (by decide)).mono ?_
    rw [H1.out]
    rintro e w1 ⟨rfl, rfl⟩
    go_wp2
    go_ret
    exact ⟨rfl, (Ext.refl _).alloc _⟩
  · go_enter Tryz.func162, Tryz.ntmps162
    go_wp2_with fail
    refine (is_any _ l _ _ _ (by exact h.ext ((Ext.refl _).alloc _)) ok_b (by unfold I64; omega) hz (by decide)).mono ?_
    rw [H1.out]
    rintro e w1 ⟨rfl, rfl⟩
    go_wp2_with fail
    refine (is_any _ l _ _ _ (by exact h.ext ((Ext.refl _).alloc _)) ok_c (by unfold I64; omega) hz (by decide)).mono ?_
    rw [H2.out]
    rintro e w1 ⟨rfl, rfl⟩
    go_wp2
    go_ret
    exact ⟨rfl, (Ext.refl _).alloc _⟩

end Go.Proofs.YtokmeomjdpfknaaGreatDoor
namespace Go.Proofs.YtokmeomjdpfknaaGreatDoor
open Go.RowKit
set_option linter.unusedVariables false

def namedC (x : Cst) : Cst :=
  if x.k = 1 then ⟨x.k, x.t, 0, 0, 0, 0⟩ else if x.k = 2 ∨ x.k = 3 then ⟨x.k, .empty, x.n, 0, 0, 0⟩ else if x.k = 4 then ⟨x.k, .empty, 0, x.a, 0, 0⟩
  else if x.k = 5 ∨ x.k = 6 then ⟨x.k, .empty, 0, x.a, x.b, x.c⟩ else c0
theorem ext_twoP' (w : World) (o p : Obj) : Ext w ((w.alloc o).alloc p) := ((Ext.refl w).alloc o).alloc p
set_option maxHeartbeats 2000000 in
theorem named_any (x : Cst) (w : World) : Calls Tryz.prog 112 #[.agg x.vals] w fun e w' => e = .returned (.agg (namedC x).vals) ∧ Ext w w' := by
  obtain ⟨k, t, n, a, b, c⟩ := x
  by_cases k1 : k = 1
  · subst k1
    rw [show namedC ⟨1, t, n, a, b, c⟩ = ⟨1, t, 0, 0, 0, 0⟩ by simp [namedC]]
    unfold Cst.vals
    go_enter Tryz.func112, Tryz.ntmps112
    go_wp2
    exact bodyPost_ret (v := .agg (Cst.vals ⟨1, t, 0, 0, 0, 0⟩)) (by unfold Cst.vals; simp [results, Tryz.results112, go_sem]; try rfl) rfl ⟨rfl, ext_twoP' _ _ _⟩
  by_cases k2 : k = 2
  · subst k2
    rw [show namedC ⟨2, t, n, a, b, c⟩ = ⟨2, .empty, n, 0, 0, 0⟩ by simp [namedC]]
    unfold Cst.vals
    go_enter Tryz.func112, Tryz.ntmps112
    go_wp2
    exact bodyPost_ret (v := .agg (Cst.vals ⟨2, .empty, n, 0, 0, 0⟩)) (by unfold Cst.vals; simp [results, Tryz.results112, go_sem]; try rfl) rfl ⟨rfl, ext_twoP' _ _ _⟩
  by_cases k3 : k = 3
  · subst k3
    rw [show namedC ⟨3, t, n, a, b, c⟩ = ⟨3, .empty, n, 0, 0, 0⟩ by simp [namedC]]
    unfold Cst.vals
    go_enter Tryz.func112, Tryz.ntmps112
    go_wp2
    exact bodyPost_ret (v := .agg (Cst.vals ⟨3, .empty, n, 0, 0, 0⟩)) (by unfold Cst.vals; simp [results, Tryz.results112, go_sem]; try rfl) rfl ⟨rfl, ext_twoP' _ _ _⟩
  by_cases k4 : k = 4
  · subst k4
    rw [show namedC ⟨4, t, n, a, b, c⟩ = ⟨4, .empty, 0, a, 0, 0⟩ by simp [namedC]]
    unfold Cst.vals
    go_enter Tryz.func112, Tryz.ntmps112
    go_wp2
    exact bodyPost_ret (v := .agg (Cst.vals ⟨4, .empty, 0, a, 0, 0⟩)) (by unfold Cst.vals; simp [results, Tryz.results112, go_sem]; try rfl) rfl ⟨rfl, ext_twoP' _ _ _⟩
  by_cases k5 : k = 5
  · subst k5
    rw [show namedC ⟨5, t, n, a, b, c⟩ = ⟨5, .empty, 0, a, b, c⟩ by simp [namedC]]
    unfold Cst.vals
    go_enter Tryz.func112, Tryz.ntmps112
    go_wp2
    exact bodyPost_ret (v := .agg (Cst.vals ⟨5, .empty, 0, a, b, c⟩)) (by unfold Cst.vals; simp [results, Tryz.results112, go_sem]; try rfl) rfl ⟨rfl, ext_twoP' _ _ _⟩
  by_cases k6 : k = 6
  · subst k6
    rw [show namedC ⟨6, t, n, a, b, c⟩ = ⟨6, .empty, 0, a, b, c⟩ by simp [namedC]]
    unfold Cst.vals
    go_enter Tryz.func112, Tryz.ntmps112
    go_wp2
    exact bodyPost_ret (v := .agg (Cst.vals ⟨6, .empty, 0, a, b, c⟩)) (by unfold Cst.vals; simp [results, Tryz.results112, go_sem]; try rfl) rfl ⟨rfl, ext_twoP' _ _ _⟩
  rw [show namedC ⟨k, t, n, a, b, c⟩ = c0 by simp [namedC, k1, k2, k3, k4, k5, k6]]
  have n1 : (k == 1) = false := by simpa using k1
  have n2 : (k == 2) = false := by simpa using k2
  have n3 : (k == 3) = false := by simpa using k3
  have n4 : (k == 4) = false := by simpa using k4
  have n5 : (k == 5) = false := by simpa using k5
  have n6 : (k == 6) = false := by simpa using k6
  unfold Cst.vals
  go_enter Tryz.func112, Tryz.ntmps112
  go_wp2
  exact bodyPost_ret (v := .agg (Cst.vals c0)) (by unfold Cst.vals c0; simp [results, Tryz.results112, go_sem]; try rfl) rfl ⟨rfl, ext_twoP' _ _ _⟩

end Go.Proofs.YtokmeomjdpfknaaGreatDoor
namespace Go.Proofs.YtokmeomjdpfknaaGreatDoor
open Go.RowKit
set_option linter.unusedVariables false

def PRP (w0 w : World) (g : Nat) (l : List Int) (e : Int) : Prop :=
  ∃ v, w.heap[g]? = some (.cells #[v, .int .i64 e] 216 (0, 0)) ∧ Row w0 .u8 v l ∧ Ext w0 w ∧ w0.heap.size ≤ g
theorem PRP.lt {w0 w : World} {g : Nat} {l : List Int} {e : Int} (h : PRP w0 w g l e) : g < w.heap.size := by
  obtain ⟨v, hg, _⟩ := h
  exact lt_of_get hg
theorem PRP.base {w0 w : World} {g : Nat} {l : List Int} {e : Int} (h : PRP w0 w g l e) : w0.heap.size ≤ g := by
  obtain ⟨v, hg, _, _, h4⟩ := h
  exact h4
theorem PRP.ext0 {w0 w : World} {g : Nat} {l : List Int} {e : Int} (h : PRP w0 w g l e) : Ext w0 w := by
  obtain ⟨v, hg, _, h3, h4⟩ := h
  exact h3
theorem PRP.ext {w0 w w' : World} {g : Nat} {l : List Int} {e : Int} (h : PRP w0 w g l e) (he : Ext w w') : PRP w0 w' g l e := by
  obtain ⟨v, hg, h2, h3, h4⟩ := h
  exact ⟨v, (he.block g (lt_of_get hg)).trans hg, h2, h3.trans he, h4⟩
theorem PRP.kept {w0 w w' : World} {g : Nat} {l : List Int} {e : Int} {r : Option Nat} (h : PRP w0 w g l e) (hw : w.grownBy w' r) (hr : ∀ b, r = some b → b ≠ g ∧ w0.heap.size ≤ b) : PRP w0 w' g l e := by
  obtain ⟨v, hg, h2, h3, h4⟩ := h
  exact ⟨v, (hw.block g (lt_of_get hg) (fun e => (hr g e.symm).1 rfl)).trans hg, h2, h3.grown hw (fun b hb => (hr b hb).2), h4⟩
theorem PRP.cells {w0 w : World} {g : Nat} {l : List Int} {e : Int} (h : PRP w0 w g l e) :
    ∃ A c, l.length ≤ c ∧ c ≤ maxLen ∧ Row w0 .u8 (.slice A l.length c) l ∧ w.cell? ⟨g, 0, none⟩ = some (.slice A l.length c) ∧ w.cell? ⟨g, 1, none⟩ = some (.int .i64 e) ∧ w.frozen? ⟨g, 0, none⟩ = false ∧ w.frozen? ⟨g, 1, none⟩ = false := by
  obtain ⟨v, hg, hr, h3, h4⟩ := h
  have hr' := hr
  obtain ⟨A, c, rfl, h5, h6, _⟩ := hr'
  exact ⟨A, c, h5, h6, hr, by rw [cell_of_row w g 0 _ _ (0, 0) hg]; rfl, by rw [cell_of_row w g 1 _ _ (0, 0) hg]; rfl, by simp [World.frozen?, hg], by simp [World.frozen?, hg]⟩
theorem PRP.setErr {w0 w : World} {g : Nat} {l : List Int} {e : Int} (h : PRP w0 w g l e) (x : Int) : PRP w0 (w.setCell ⟨g, 1, none⟩ (.int .i64 x)) g l x := by
  obtain ⟨v, hg, hr, h3, h4⟩ := h
  have h1 := heap_setCell_same w g 1 _ 216 (.int .i64 x) hg
  exact ⟨v, by rw [h1]; rfl, hr, h3.set_ h4 _, h4⟩
theorem PRP.setRow {w0 w : World} {g : Nat} {l m : List Int} {e : Int} (h : PRP w0 w g l e) {v : Value} (hv : Row w0 .u8 v m) : PRP w0 (w.setCell ⟨g, 0, none⟩ v) g m e := by
  obtain ⟨v0, hg, hr, h3, h4⟩ := h
  have h1 := heap_setCell_same w g 0 _ 216 v hg
  exact ⟨v, by rw [h1]; rfl, hv, h3.set_ h4 _, h4⟩
def PRetP (w0 w : World) (g : Nat) (v : Value) (l : List Int) (e : Int) (x : Ending) (w' : World) : Prop := x = .returned v ∧ PRP w0 w' g l e ∧ w.grownBy w' (some g)

theorem grown_thenP' {w w1 w2 : World} {r : Option Nat} (h : w.grownBy w1 r) (e : Ext w1 w2) : w.grownBy w2 r :=
  ⟨e.os.trans h.os, e.tape.trans h.tape, e.output.trans h.output, Nat.le_trans h.size e.size, fun i hi hne => (e.block i (Nat.lt_of_lt_of_le hi h.size)).trans (h.block i hi hne)⟩
theorem grown_twoP' {w w1 w2 : World} {r : Option Nat} (h : w.grownBy w1 r) (e : w1.grownBy w2 r) : w.grownBy w2 r :=
  ⟨e.os.trans h.os, e.tape.trans h.tape, e.output.trans h.output, Nat.le_trans h.size e.size, fun i hi hne => (e.block i (Nat.lt_of_lt_of_le hi h.size) hne).trans (h.block i hi hne)⟩
theorem ext_grownP {w w' : World} (h : Ext w w') (g : Option Nat) : w.grownBy w' g := ⟨h.os, h.tape, h.output, h.size, fun i hi _ => h.block i hi⟩

theorem results_tmp0 {fn : Func} (h : fn.results = #[]) (tmps : Array Value) (P : Program) (w : World) : (results fn tmps).run P w = .ok (.tuple #[]) w := by simp [results, h]
def errP (e x : Int) : Int := if e = 0 then x else e
theorem fail_any (w0 w : World) (g : Nat) (l : List Int) (e x : Int) (h : PRP w0 w g l e) :
    Calls Tryz.prog 221 #[.pointer (some ⟨g, 0, none⟩), .int .i64 x] w (PRetP w0 w g (.tuple #[]) l (errP e x)) := by
  obtain ⟨A, c, hc1, hc2, hrow, a0, a1, f0, f1⟩ := h.cells
  unfold errP
  have HH := Lib.hid h
  have HS := Lib.hid (h.setErr x)
  clear h hrow
  by_cases he : e = 0
  · subst he
    rw [if_pos rfl]
    go_enter Tryz.func221, Tryz.ntmps221
    go_wp2
    refine bodyPost_ret (results_tmp0 rfl _ _ _) rfl ?_
    exact ⟨rfl, HS.out, only_set (World.grownBy.refl w _) 1 _⟩
  · rw [if_neg he]
    have hb : (e == 0) = false := by simpa using he
    go_enter Tryz.func221, Tryz.ntmps221
    go_wp2
    refine bodyPost_ret (results_tmp0 rfl _ _ _) rfl ?_
    exact ⟨rfl, HH.out, World.grownBy.refl w _⟩

theorem first_any (w0 w : World) (g : Nat) (l : List Int) (e : Int) (n : Nat) (hn : n ≤ 9223372036854775807) (h : PRP w0 w g l e) :
    Calls Tryz.prog 246 #[.pointer (some ⟨g, 0, none⟩), .int .i64 n] w fun x w' => ∃ v m, x = .returned v ∧ Row w0 .u8 v (l.take n) ∧ w' = w.drewN m := by
  obtain ⟨A, c, hc1, hc2, hrow, a0, a1, f0, f1⟩ := h.cells
  unfold maxLen at hc2
  by_cases hle : n ≤ l.length
  · obtain ⟨v3, s3, s3', hh⟩ := head_slice hrow n hle
    have HH := Lib.hid hh
    have hmin : min (n : Int) (l.length : Int) = n := by omega
    clear hh hrow h
    go_enter Tryz.func246, Tryz.ntmps246
    go_wp2
    go_quiet (fail)
    go_wp2
    go_ret
    exact ⟨_, _, rfl, HH.out, rfl⟩
  · have e1 : l.take n = l := List.take_of_length_le (by omega)
    rw [e1]
    obtain ⟨v3, s3, s3', hh⟩ := head_slice hrow l.length (Nat.le_refl _)
    rw [List.take_length] at hh
    have HH := Lib.hid hh
    have hmin : min (n : Int) (l.length : Int) = l.length := by omega
    clear hh hrow h
    go_enter Tryz.func246, Tryz.ntmps246
    go_wp2
    go_quiet (fail)
    go_wp2
    go_ret
    exact ⟨_, _, rfl, HH.out, rfl⟩

theorem drop_any (w0 w : World) (g : Nat) (l : List Int) (e : Int) (n : Nat) (hn : n ≤ l.length) (h : PRP w0 w g l e) :
    Calls Tryz.prog 247 #[.pointer (some ⟨g, 0, none⟩), .int .i64 n] w (PRetP w0 w g (.tuple #[]) (l.drop n) e) := by
  obtain ⟨A, c, hc1, hc2, hrow, a0, a1, f0, f1⟩ := h.cells
  unfold maxLen at hc2
  obtain ⟨v4, t4, t4', ht⟩ := tail_slice hrow n hn
  have HT := Lib.hid (h.setRow ht)
  obtain ⟨A4, c4, hv4, _⟩ := id ht
  rw [List.length_drop] at hv4
  subst hv4
  clear ht hrow h
  go_enter Tryz.func247, Tryz.ntmps247
  go_wp2
  refine bodyPost_ret (results_tmp0 rfl _ _ _) rfl ?_
  exact ⟨rfl, HT.out, only_set (World.grownBy.refl w _) 0 _⟩
theorem first_anyI (w0 w : World) (g : Nat) (l : List Int) (e n : Int) (h0 : 0 ≤ n) (hn : n ≤ 9223372036854775807) (h : PRP w0 w g l e) :
    Calls Tryz.prog 246 #[.pointer (some ⟨g, 0, none⟩), .int .i64 n] w fun x w' => ∃ v m, x = .returned v ∧ Row w0 .u8 v (l.take n.toNat) ∧ w' = w.drewN m := by
  obtain ⟨k, rfl⟩ := Int.eq_ofNat_of_zero_le h0
  rw [Int.toNat_natCast]
  exact first_any w0 w g l e k (by omega) h
theorem drop_anyI (w0 w : World) (g : Nat) (l : List Int) (e n : Int) (h0 : 0 ≤ n) (hn : n ≤ l.length) (h : PRP w0 w g l e) :
    Calls Tryz.prog 247 #[.pointer (some ⟨g, 0, none⟩), .int .i64 n] w (PRetP w0 w g (.tuple #[]) (l.drop n.toNat) e) := by
  obtain ⟨k, rfl⟩ := Int.eq_ofNat_of_zero_le h0
  rw [Int.toNat_natCast]
  exact drop_any w0 w g l e k (by omega) h

def tkP (l : List Int) (e : Int) (n : Nat) : List Int × List Int × Int := if e = 0 then (if l.length < n then ([], l, 3) else (l.take n, l.drop n, 0)) else ([], l, e)
set_option maxHeartbeats 2000000 in
theorem rtake_any (w0 w : World) (g : Nat) (l : List Int) (e : Int) (n : Nat) (hn : n ≤ 9223372036854775807) (h : PRP w0 w g l e) :
    Calls Tryz.prog 222 #[.pointer (some ⟨g, 0, none⟩), .int .i64 n] w fun x w' => ∃ v, PRetP w0 w g v (tkP l e n).2.1 (tkP l e n).2.2 x w' ∧ Row w0 .u8 v (tkP l e n).1 := by
  have hll := h.cells
  obtain ⟨A, c, hc1, hc2, -⟩ := hll
  unfold maxLen at hc2
  have HH := Lib.hid h
  by_cases hlt : l.length < n
  · have e1 : l.take n = l := List.take_of_length_le (by omega)
    have E1 := Lib.hid e1
    obtain ⟨e9, he9⟩ : ∃ e9, errP e 3 = e9 := ⟨_, rfl⟩
    have hne : ¬ e9 = 0 := by
      rw [← he9]
      unfold errP
      split
      · decide
      · assumption
    have e2 : tkP l e n = ([], l, e9) := by
      rw [← he9]
      unfold tkP errP
      by_cases h0 : e = 0
      · rw [if_pos h0, if_pos h0, if_pos hlt]
      · rw [if_neg h0, if_neg h0]
    rw [e2]
    have HE := Lib.hid he9
    have hb : (e9 != 0) = true := by simpa using hne
    clear e1 e2 he9 hne
    go_enter Tryz.func222, Tryz.ntmps222
    go_wp2_with fail
    refine (first_any w0 _ g l e n hn (by exact h)).mono ?_
    rintro x w1 ⟨v3, m1, rfl, hh, rfl⟩
    rw [E1.out] at hh
    obtain ⟨A3, c3, rfl, -⟩ := hh
    have h1 := HH.out.ext ((Ext.refl w).drewN m1)
    go_wp2_with fail
    refine (fail_any w0 _ g l e 3 (by exact h1)).mono ?_
    rw [HE.out]
    rintro x w2 ⟨rfl, h2, g2⟩
    obtain ⟨A4, c4, -, -, -, b0, b1, f0, f1⟩ := h2.cells
    have G2 := Lib.hid (grown_twoP' (ext_grownP ((Ext.refl w).drewN m1) (some g)) g2)
    have HH2 := Lib.hid h2
    clear h1 h2 g2
    go_wp2
    go_ret
    exact ⟨_, ⟨rfl, HH2.out, G2.out⟩, (Own.nil 0 w0 5 .u8).row⟩
  · have hlen : (l.take n).length = n := by rw [List.length_take]; omega
    have HL := Lib.hid hlen
    clear hlen
    by_cases he : e = 0
    · subst he
      have e2 : tkP l 0 n = (l.take n, l.drop n, 0) := by unfold tkP; rw [if_pos rfl, if_neg hlt]
      rw [e2]
      clear e2
      go_enter Tryz.func222, Tryz.ntmps222
      go_wp2_with fail
      refine (first_any w0 _ g l 0 n hn (by exact h)).mono ?_
      rintro x w1 ⟨v3, m1, rfl, hh, rfl⟩
      have HH3 := Lib.hid hh
      obtain ⟨A3, c3, hv3, -⟩ := hh
      rw [HL.out] at hv3
      subst hv3
      have h1 := HH.out.ext ((Ext.refl w).drewN m1)
      obtain ⟨A4, c4, -, -, -, b0, b1, f0, f1⟩ := h1.cells
      have HH1 := Lib.hid h1
      clear h1
      go_wp2_with fail
      refine (drop_any w0 _ g l 0 n (by omega) (by exact HH1.out)).mono ?_
      rintro x w2 ⟨rfl, h2, g2⟩
      go_wp2
      go_ret
      exact ⟨_, ⟨rfl, h2, grown_twoP' (ext_grownP ((Ext.refl w).drewN m1) (some g)) g2⟩, HH3.out⟩
    · have e2 : tkP l e n = ([], l, e) := by unfold tkP; rw [if_neg he]
      rw [e2]
      have hb : (e != 0) = true := by simpa using he
      clear e2
      go_enter Tryz.func222, Tryz.ntmps222
      go_wp2_with fail
      refine (first_any w0 _ g l e n hn (by exact h)).mono ?_
      rintro x w1 ⟨v3, m1, rfl, hh, rfl⟩
      obtain ⟨A3, c3, hv3, -⟩ := hh
      rw [HL.out] at hv3
      subst hv3
      have h1 := HH.out.ext ((Ext.refl w).drewN m1)
      obtain ⟨A4, c4, -, -, -, b0, b1, f0, f1⟩ := h1.cells
      have HH1 := Lib.hid h1
      clear h1
      go_wp2
      go_ret
      exact ⟨_, ⟨rfl, HH1.out, ext_grownP ((Ext.refl w).drewN m1) (some g)⟩, (Own.nil 0 w0 5 .u8).row⟩
theorem rtake_anyI (w0 w : World) (g : Nat) (l : List Int) (e n : Int) (h0 : 0 ≤ n) (hn : n ≤ 9223372036854775807) (h : PRP w0 w g l e) :
    Calls Tryz.prog 222 #[.pointer (some ⟨g, 0, none⟩), .int .i64 n] w fun x w' => ∃ v, PRetP w0 w g v (tkP l e n.toNat).2.1 (tkP l e n.toNat).2.2 x w' ∧ Row w0 .u8 v (tkP l e n.toNat).1 := by
  obtain ⟨k, rfl⟩ := Int.eq_ofNat_of_zero_le h0
  rw [Int.toNat_natCast]
  exact rtake_any w0 w g l e k (by omega) h
end Go.Proofs.YtokmeomjdpfknaaGreatDoor
