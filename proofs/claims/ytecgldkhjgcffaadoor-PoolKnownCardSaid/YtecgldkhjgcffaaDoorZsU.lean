/- Several texts of this proof, one behind the other. -/
import Derived.Test.YtecgldkhjgcffaaDoorZsM
import Derived.Test.YtecgldkhjgcffaaDoorZsN
import Derived.Test.YtecgldkhjgcffaaDoorZsA
import Derived.Test.YtecgldkhjgcffaaDoorZsB
import Derived.Test.YtecgldkhjgcffaaDoorZsR
import Derived.Laws.EntriesVeiled
import Derived.Test.YtecgldkhjgcffaaDoorZsS
/- The program's reader of bytes, walked. -/
namespace Go.Proofs.YtecgldkhjgcffaaDoor
open Go.RowKit
set_option linter.unusedVariables false

/-- The program's reader in block g: what is left of a row that was there at the beginning (w0), and the first error. -/
def PR (w0 w : World) (g : Nat) (l : List Int) (e : Int) : Prop :=
  ∃ v, w.heap[g]? = some (.cells #[v, .int .i64 e] 55 (0, 0)) ∧ Row w0 .u8 v l ∧ Ext w0 w ∧ w0.heap.size ≤ g
theorem PR.lt {w0 w : World} {g : Nat} {l : List Int} {e : Int} (h : PR w0 w g l e) : g < w.heap.size := by
  obtain ⟨v, hg, _⟩ := h
  exact lt_of_get hg
theorem PR.base {w0 w : World} {g : Nat} {l : List Int} {e : Int} (h : PR w0 w g l e) : w0.heap.size ≤ g := by
  obtain ⟨v, hg, _, _, h4⟩ := h
  exact h4
theorem PR.ext0 {w0 w : World} {g : Nat} {l : List Int} {e : Int} (h : PR w0 w g l e) : Ext w0 w := by
  obtain ⟨v, hg, _, h3, h4⟩ := h
  exact h3
theorem PR.ext {w0 w w' : World} {g : Nat} {l : List Int} {e : Int} (h : PR w0 w g l e) (he : Ext w w') : PR w0 w' g l e := by
  obtain ⟨v, hg, h2, h3, h4⟩ := h
  exact ⟨v, (he.block g (lt_of_get hg)).trans hg, h2, h3.trans he, h4⟩
/-- Another block from the beginning's end on is written: the reader stays. -/
theorem PR.kept {w0 w w' : World} {g : Nat} {l : List Int} {e : Int} {r : Option Nat} (h : PR w0 w g l e) (hw : w.grownBy w' r) (hr : ∀ b, r = some b → b ≠ g ∧ w0.heap.size ≤ b) : PR w0 w' g l e := by
  obtain ⟨v, hg, h2, h3, h4⟩ := h
  exact ⟨v, (hw.block g (lt_of_get hg) (fun e => (hr g e.symm).1 rfl)).trans hg, h2, h3.grown hw (fun b hb => (hr b hb).2), h4⟩
theorem PR.cells {w0 w : World} {g : Nat} {l : List Int} {e : Int} (h : PR w0 w g l e) :
    ∃ A c, l.length ≤ c ∧ c ≤ maxLen ∧ Row w0 .u8 (.slice A l.length c) l ∧ w.cell? ⟨g, 0, none⟩ = some (.slice A l.length c) ∧ w.cell? ⟨g, 1, none⟩ = some (.int .i64 e) ∧ w.frozen? ⟨g, 0, none⟩ = false ∧ w.frozen? ⟨g, 1, none⟩ = false := by
  obtain ⟨v, hg, hr, h3, h4⟩ := h
  have hr' := hr
  obtain ⟨A, c, rfl, h5, h6, _⟩ := hr'
  exact ⟨A, c, h5, h6, hr, by rw [cell_of_row w g 0 _ _ (0, 0) hg]; rfl, by rw [cell_of_row w g 1 _ _ (0, 0) hg]; rfl, by simp [World.frozen?, hg], by simp [World.frozen?, hg]⟩
theorem PR.setErr {w0 w : World} {g : Nat} {l : List Int} {e : Int} (h : PR w0 w g l e) (x : Int) : PR w0 (w.setCell ⟨g, 1, none⟩ (.int .i64 x)) g l x := by
  obtain ⟨v, hg, hr, h3, h4⟩ := h
  have h1 := heap_setCell_same w g 1 _ 55 (.int .i64 x) hg
  exact ⟨v, by rw [h1]; rfl, hr, h3.set_ h4 _, h4⟩
theorem PR.setRow {w0 w : World} {g : Nat} {l m : List Int} {e : Int} (h : PR w0 w g l e) {v : Value} (hv : Row w0 .u8 v m) : PR w0 (w.setCell ⟨g, 0, none⟩ v) g m e := by
  obtain ⟨v0, hg, hr, h3, h4⟩ := h
  have h1 := heap_setCell_same w g 0 _ 55 v hg
  exact ⟨v, by rw [h1]; rfl, hv, h3.set_ h4 _, h4⟩
/-- What a call of a reader's method leaves. -/
def PRet (w0 w : World) (g : Nat) (v : Value) (l : List Int) (e : Int) (x : Ending) (w' : World) : Prop := x = .returned v ∧ PR w0 w' g l e ∧ w.grownBy w' (some g)

theorem grown_then' {w w1 w2 : World} {r : Option Nat} (h : w.grownBy w1 r) (e : Ext w1 w2) : w.grownBy w2 r :=
  ⟨e.os.trans h.os, e.tape.trans h.tape, e.output.trans h.output, Nat.le_trans h.size e.size, fun i hi hne => (e.block i (Nat.lt_of_lt_of_le hi h.size)).trans (h.block i hi hne)⟩
theorem grown_two' {w w1 w2 : World} {r : Option Nat} (h : w.grownBy w1 r) (e : w1.grownBy w2 r) : w.grownBy w2 r :=
  ⟨e.os.trans h.os, e.tape.trans h.tape, e.output.trans h.output, Nat.le_trans h.size e.size, fun i hi hne => (e.block i (Nat.lt_of_lt_of_le hi h.size) hne).trans (h.block i hi hne)⟩
theorem ext_grown {w w' : World} (h : Ext w w') (g : Option Nat) : w.grownBy w' g := ⟨h.os, h.tape, h.output, h.size, fun i hi _ => h.block i hi⟩

theorem results_tmp0 {fn : Func} (h : fn.results = #[]) (tmps : Array Value) (P : Program) (w : World) : (results fn tmps).run P w = .ok (.tuple #[]) w := by simp [results, h]
/-- The first error is kept. -/
def errP (e x : Int) : Int := if e = 0 then x else e
theorem fail_any (w0 w : World) (g : Nat) (l : List Int) (e x : Int) (h : PR w0 w g l e) :
    Calls Tryd.prog 55 #[.pointer (some ⟨g, 0, none⟩), .int .i64 x] w (PRet w0 w g (.tuple #[]) l (errP e x)) := by
  obtain ⟨A, c, hc1, hc2, hrow, a0, a1, f0, f1⟩ := h.cells
  unfold errP
  have HH := Lib.hid h
  have HS := Lib.hid (h.setErr x)
  clear h hrow
  by_cases he : e = 0
  · subst he
    rw [if_pos rfl]
    go_enter Tryd.func55, Tryd.ntmps55
    go_wp2
    refine bodyPost_ret (results_tmp0 rfl _ _ _) rfl ?_
    exact ⟨rfl, HS.out, only_set (World.grownBy.refl w _) 1 _⟩
  · rw [if_neg he]
    have hb : (e == 0) = false := by simpa using he
    go_enter Tryd.func55, Tryd.ntmps55
    go_wp2
    refine bodyPost_ret (results_tmp0 rfl _ _ _) rfl ?_
    exact ⟨rfl, HH.out, World.grownBy.refl w _⟩

theorem first_any (w0 w : World) (g : Nat) (l : List Int) (e : Int) (n : Nat) (hn : n ≤ 9223372036854775807) (h : PR w0 w g l e) :
    Calls Tryd.prog 73 #[.pointer (some ⟨g, 0, none⟩), .int .i64 n] w fun x w' => ∃ v m, x = .returned v ∧ Row w0 .u8 v (l.take n) ∧ w' = w.drewN m := by
  obtain ⟨A, c, hc1, hc2, hrow, a0, a1, f0, f1⟩ := h.cells
  unfold maxLen at hc2
  by_cases hle : n ≤ l.length
  · obtain ⟨v3, s3, s3', hh⟩ := head_slice hrow n hle
    have HH := Lib.hid hh
    have hmin : min (n : Int) (l.length : Int) = n := by omega
    clear hh hrow h
    go_enter Tryd.func73, Tryd.ntmps73
    go_wp2
    go_quiet (fail)
    go_wp2
    go_ret
    exact ⟨_, _, rfl, HH.out, rfl⟩
  · have e1 : l.take n = l := List.take_of_length_le (by omega)
    rw [e1]
    obtain ⟨v3, s3, s3', hh⟩ := head_slice hrow l.length (Nat.le_refl _)
    rw [List.take_length] at hh
    have HH := Lib.hid hh
    have hmin : min (n : Int) (l.length : Int) = l.length := by omega
    clear hh hrow h
    go_enter Tryd.func73, Tryd.ntmps73
    go_wp2
    go_quiet (fail)
    go_wp2
    go_ret
    exact ⟨_, _, rfl, HH.out, rfl⟩

theorem drop_any (w0 w : World) (g : Nat) (l : List Int) (e : Int) (n : Nat) (hn : n ≤ l.length) (h : PR w0 w g l e) :
    Calls Tryd.prog 74 #[.pointer (some ⟨g, 0, none⟩), .int .i64 n] w (PRet w0 w g (.tuple #[]) (l.drop n) e) := by
  obtain ⟨A, c, hc1, hc2, hrow, a0, a1, f0, f1⟩ := h.cells
  unfold maxLen at hc2
  obtain ⟨v4, t4, t4', ht⟩ := tail_slice hrow n hn
  have HT := Lib.hid (h.setRow ht)
  obtain ⟨A4, c4, hv4, _⟩ := id ht
  rw [List.length_drop] at hv4
  subst hv4
  clear ht hrow h
  go_enter Tryd.func74, Tryd.ntmps74
  go_wp2
  refine bodyPost_ret (results_tmp0 rfl _ _ _) rfl ?_
  exact ⟨rfl, HT.out, only_set (World.grownBy.refl w _) 0 _⟩
theorem first_anyI (w0 w : World) (g : Nat) (l : List Int) (e n : Int) (h0 : 0 ≤ n) (hn : n ≤ 9223372036854775807) (h : PR w0 w g l e) :
    Calls Tryd.prog 73 #[.pointer (some ⟨g, 0, none⟩), .int .i64 n] w fun x w' => ∃ v m, x = .returned v ∧ Row w0 .u8 v (l.take n.toNat) ∧ w' = w.drewN m := by
  obtain ⟨k, rfl⟩ := Int.eq_ofNat_of_zero_le h0
  rw [Int.toNat_natCast]
  exact first_any w0 w g l e k (by omega) h
theorem drop_anyI (w0 w : World) (g : Nat) (l : List Int) (e n : Int) (h0 : 0 ≤ n) (hn : n ≤ l.length) (h : PR w0 w g l e) :
    Calls Tryd.prog 74 #[.pointer (some ⟨g, 0, none⟩), .int .i64 n] w (PRet w0 w g (.tuple #[]) (l.drop n.toNat) e) := by
  obtain ⟨k, rfl⟩ := Int.eq_ofNat_of_zero_le h0
  rw [Int.toNat_natCast]
  exact drop_any w0 w g l e k (by omega) h

/-- What taking so many bytes leaves. -/
def tkP (l : List Int) (e : Int) (n : Nat) : List Int × List Int × Int := if e = 0 then (if l.length < n then ([], l, 3) else (l.take n, l.drop n, 0)) else ([], l, e)
set_option maxHeartbeats 2000000 in
theorem rtake_any (w0 w : World) (g : Nat) (l : List Int) (e : Int) (n : Nat) (hn : n ≤ 9223372036854775807) (h : PR w0 w g l e) :
    Calls Tryd.prog 56 #[.pointer (some ⟨g, 0, none⟩), .int .i64 n] w fun x w' => ∃ v, PRet w0 w g v (tkP l e n).2.1 (tkP l e n).2.2 x w' ∧ Row w0 .u8 v (tkP l e n).1 := by
  have hll := h.cells
  obtain ⟨A, c, hc1, hc2, -⟩ := hll
  unfold maxLen at hc2
  have HH := Lib.hid h
  by_cases hlt : l.length < n
  · have e1 : l.take n = l := List.take_of_length_le (by omega)
    have E1 := Lib.hid e1
    obtain ⟨e9, he9⟩ : ∃ e9, errP e 3 = e9 := ⟨_, rfl⟩
    have hne : ¬ e9 = 0 := by
      rw [← he9]
      unfold errP
      split
      · decide
      · assumption
    have e2 : tkP l e n = ([], l, e9) := by
      rw [← he9]
      unfold tkP errP
      by_cases h0 : e = 0
      · rw [if_pos h0, if_pos h0, if_pos hlt]
      · rw [if_neg h0, if_neg h0]
    rw [e2]
    have HE := Lib.hid he9
    have hb : (e9 != 0) = true := by simpa using hne
    clear e1 e2 he9 hne
    go_enter Tryd.func56, Tryd.ntmps56
    go_wp2_with fail
    refine (first_any w0 _ g l e n hn (by exact h)).mono ?_
    rintro x w1 ⟨v3, m1, rfl, hh, rfl⟩
    rw [E1.out] at hh
    obtain ⟨A3, c3, rfl, -⟩ := hh
    have h1 := HH.out.ext ((Ext.refl w).drewN m1)
    go_wp2_with fail
    refine (fail_any w0 _ g l e 3 (by exact h1)).mono ?_
    rw [HE.out]
    rintro x w2 ⟨rfl, h2, g2⟩
    obtain ⟨A4, c4, -, -, -, b0, b1, f0, f1⟩ := h2.cells
    have G2 := Lib.hid (grown_two' (ext_grown ((Ext.refl w).drewN m1) (some g)) g2)
    have HH2 := Lib.hid h2
    clear h1 h2 g2
    go_wp2
    go_ret
    exact ⟨_, ⟨rfl, HH2.out, G2.out⟩, (Own.nil 0 w0 5 .u8).row⟩
  · have hlen : (l.take n).length = n := by rw [List.length_take]; omega
    have HL := Lib.hid hlen
    clear hlen
    by_cases he : e = 0
    · subst he
      have e2 : tkP l 0 n = (l.take n, l.drop n, 0) := by unfold tkP; rw [if_pos rfl, if_neg hlt]
      rw [e2]
      clear e2
      go_enter Tryd.func56, Tryd.ntmps56
      go_wp2_with fail
      refine (first_any w0 _ g l 0 n hn (by exact h)).mono ?_
      rintro x w1 ⟨v3, m1, rfl, hh, rfl⟩
      have HH3 := Lib.hid hh
      obtain ⟨A3, c3, hv3, -⟩ := hh
      rw [HL.out] at hv3
      subst hv3
      have h1 := HH.out.ext ((Ext.refl w).drewN m1)
      obtain ⟨A4, c4, -, -, -, b0, b1, f0, f1⟩ := h1.cells
      have HH1 := Lib.hid h1
      clear h1
      go_wp2_with fail
      refine (drop_any w0 _ g l 0 n (by omega) (by exact HH1.out)).mono ?_
      rintro x w2 ⟨rfl, h2, g2⟩
      go_wp2
      go_ret
      exact ⟨_, ⟨rfl, h2, grown_two' (ext_grown ((Ext.refl w).drewN m1) (some g)) g2⟩, HH3.out⟩
    · have e2 : tkP l e n = ([], l, e) := by unfold tkP; rw [if_neg he]
      rw [e2]
      have hb : (e != 0) = true := by simpa using he
      clear e2
      go_enter Tryd.func56, Tryd.ntmps56
      go_wp2_with fail
      refine (first_any w0 _ g l e n hn (by exact h)).mono ?_
      rintro x w1 ⟨v3, m1, rfl, hh, rfl⟩
      obtain ⟨A3, c3, hv3, -⟩ := hh
      rw [HL.out] at hv3
      subst hv3
      have h1 := HH.out.ext ((Ext.refl w).drewN m1)
      obtain ⟨A4, c4, -, -, -, b0, b1, f0, f1⟩ := h1.cells
      have HH1 := Lib.hid h1
      clear h1
      go_wp2
      go_ret
      exact ⟨_, ⟨rfl, HH1.out, ext_grown ((Ext.refl w).drewN m1) (some g)⟩, (Own.nil 0 w0 5 .u8).row⟩
theorem rtake_anyI (w0 w : World) (g : Nat) (l : List Int) (e n : Int) (h0 : 0 ≤ n) (hn : n ≤ 9223372036854775807) (h : PR w0 w g l e) :
    Calls Tryd.prog 56 #[.pointer (some ⟨g, 0, none⟩), .int .i64 n] w fun x w' => ∃ v, PRet w0 w g v (tkP l e n.toNat).2.1 (tkP l e n.toNat).2.2 x w' ∧ Row w0 .u8 v (tkP l e n.toNat).1 := by
  obtain ⟨k, rfl⟩ := Int.eq_ofNat_of_zero_le h0
  rw [Int.toNat_natCast]
  exact rtake_any w0 w g l e k (by omega) h
end Go.Proofs.YtecgldkhjgcffaaDoor
/- The program's reader of bytes, walked: numbers, kinds, constants. -/
namespace Go.Proofs.YtecgldkhjgcffaaDoor
open Go.RowKit
set_option linter.unusedVariables false

theorem PR.set_o {w0 w : World} {g : Nat} {l : List Int} {e : Int} (h : PR w0 w g l e) {q : Addr} (hq : q.block ≠ g) (hb : w0.heap.size ≤ q.block) (u : Value) : PR w0 (w.setCell q u) g l e := by
  obtain ⟨v, hg, h2, h3, h4⟩ := h
  exact ⟨v, (Below.heap_setCell w q u g (fun e => hq (by rw [e]))).trans hg, h2, h3.set_ hb _, h4⟩
theorem grown_new {w w2 : World} {r : Option Nat} (h : w.grownBy w2 r) {q : Addr} (hq : w.heap.size ≤ q.block) (u : Value) : w.grownBy (w2.setCell q u) r := by
  refine ⟨h.os, h.tape, h.output, by simpa [World.setCell] using h.size, fun i hi hne => ?_⟩
  rw [Below.heap_setCell w2 q u i (by omega)]
  exact h.block i hi hne
/-- A struct's six cells in another block are written. -/
theorem PR.six {w0 w : World} {g s : Nat} {l : List Int} {e : Int} (h : PR w0 w g l e) (hs : s ≠ g) (hb : w0.heap.size ≤ s) (o : Nat) (u0 u1 u2 u3 u4 u5 : Value) :
    PR w0 ((((((w.setCell ⟨s, o, none⟩ u0).setCell ⟨s, o + 1, none⟩ u1).setCell ⟨s, o + 2, none⟩ u2).setCell ⟨s, o + 3, none⟩ u3).setCell ⟨s, o + 4, none⟩ u4).setCell ⟨s, o + 5, none⟩ u5) g l e :=
  (((((h.set_o (q := ⟨s, o, none⟩) hs hb u0).set_o (q := ⟨s, o + 1, none⟩) hs hb u1).set_o (q := ⟨s, o + 2, none⟩) hs hb u2).set_o (q := ⟨s, o + 3, none⟩) hs hb u3).set_o (q := ⟨s, o + 4, none⟩) hs hb u4).set_o (q := ⟨s, o + 5, none⟩) hs hb u5
theorem grown_six {w w2 : World} {r : Option Nat} {s : Nat} (h : w.grownBy w2 r) (hs : w.heap.size ≤ s) (o : Nat) (u0 u1 u2 u3 u4 u5 : Value) :
    w.grownBy ((((((w2.setCell ⟨s, o, none⟩ u0).setCell ⟨s, o + 1, none⟩ u1).setCell ⟨s, o + 2, none⟩ u2).setCell ⟨s, o + 3, none⟩ u3).setCell ⟨s, o + 4, none⟩ u4).setCell ⟨s, o + 5, none⟩ u5) r :=
  (((((grown_new h (q := ⟨s, o, none⟩) hs u0) |> fun h => grown_new h (q := ⟨s, o + 1, none⟩) hs u1) |> fun h => grown_new h (q := ⟨s, o + 2, none⟩) hs u2) |> fun h => grown_new h (q := ⟨s, o + 3, none⟩) hs u3) |> fun h => grown_new h (q := ⟨s, o + 4, none⟩) hs u4) |> fun h => grown_new h (q := ⟨s, o + 5, none⟩) hs u5
/-- What taking a number off leaves, in one of the ways. -/
def numP (t : List Int → Int × List Int × Int) (l : List Int) (e : Int) : Int × List Int × Int :=
  if e = 0 then (if (t (l.take 16)).2.2 = 0 then ((t (l.take 16)).1, l.drop ((l.take 16).length - (t (l.take 16)).2.1.length), 0) else (0, l, (t (l.take 16)).2.2)) else (0, l, e)
def pU (l : List Int) (e : Int) : Int × List Int × Int := numP tU l e
def pS (l : List Int) (e : Int) : Int × List Int × Int := numP (tS 10 2) l e
theorem tU_short (l : List Int) : (tU l).2.1.length ≤ l.length := by
  by_cases h : (tU l).2.2 = 0
  · have := congrArg List.length (tU_ok h).2
    rw [List.length_append] at this
    omega
  · rw [(tU_err h).2]
    simp
theorem tS_short (l : List Int) : (tS 10 2 l).2.1.length ≤ l.length := by
  by_cases h : (tS 10 2 l).2.2 = 0
  · have := congrArg List.length (tS_ok h)
    rw [List.length_append] at this
    omega
  · rw [(tS_err h).2.1]
    simp

set_option maxRecDepth 100000 in
set_option maxHeartbeats 2000000 in
theorem numberU_any (w0 w : World) (g : Nat) (l : List Int) (e : Int) (h : PR w0 w g l e) :
    Calls Tryd.prog 53 #[.pointer (some ⟨g, 0, none⟩), .func (.func 54) #[] #[]] w (PRet w0 w g (.int .i64 (pU l e).1) (pU l e).2.1 (pU l e).2.2) := by
  have hlt16 : (l.take 16).length ≤ 16 := by rw [List.length_take]; omega
  have c1 := fun v W hv => TakeU_any v (l.take 16) W hv (by omega)
  have hsh := tU_short (l.take 16)
  have hll : (l.take 16).length ≤ l.length := by rw [List.length_take]; omega
  have e0 : pU l e = if e = 0 then (if (tU (l.take 16)).2.2 = 0 then ((tU (l.take 16)).1, l.drop ((l.take 16).length - (tU (l.take 16)).2.1.length), 0) else (0, l, (tU (l.take 16)).2.2)) else (0, l, e) := rfl
  obtain ⟨⟨n, r, e1⟩, ht⟩ : ∃ t, t = tU (l.take 16) := ⟨_, rfl⟩
  rw [← ht] at c1 hsh e0
  simp only at c1 hsh e0
  obtain ⟨p, hp⟩ : ∃ p, (l.take 16).length = p := ⟨_, rfl⟩
  obtain ⟨q, hq⟩ : ∃ q, r.length = q := ⟨_, rfl⟩
  rw [hp, hq] at hsh
  rw [hp] at hlt16 hll
  rw [hp, hq] at e0
  have HP := Lib.hid hp
  have HQ := Lib.hid hq
  have C1 := Lib.hid c1
  have E0 := Lib.hid e0
  clear ht c1 hp hq e0
  go_enter Tryd.func53, Tryd.ntmps53
  go_wp2_with fail
  refine (first_anyI w0 _ g l e 16 (by omega) (by omega) (by exact h)).mono ?_
  rintro x w1 ⟨v3, m1, rfl, hh, rfl⟩
  have hh : Row w0 .u8 v3 (l.take 16) := hh
  have h1 := h.ext ((Ext.refl w).drewN m1)
  have HH1 := Lib.hid h1
  obtain ⟨A3, c3, hv3, -⟩ := id hh
  rw [HP.out] at hv3
  subst hv3
  go_wp2_with fail
  refine (C1.out _ _ (by exact hh.ext HH1.out.ext0)).mono ?_
  rintro x w2 ⟨u2, rfl, ⟨b2, rfl, ho2⟩, x2⟩
  simp only at ho2 ⊢
  obtain ⟨A2, c2, hv2, -⟩ := ho2.row
  rw [HQ.out] at hv2
  subst hv2
  have h2 := HH1.out.ext x2
  have X2 := Lib.hid (((Ext.refl w).drewN m1).trans x2)
  have HH2 := Lib.hid h2
  clear hh h1 ho2 x2 h2
  go_wp2_with fail
  refine (fail_any w0 _ g l e e1 (by exact HH2.out)).mono ?_
  rintro x w3 ⟨rfl, h3, g3⟩
  have HH3 := Lib.hid h3
  have G3 := Lib.hid (grown_two' (ext_grown X2.out (some g)) g3)
  obtain ⟨A4, c4, -, -, -, b0, b1, f0, f1⟩ := h3.cells
  clear h3 g3 h
  by_cases he : e = 0
  · by_cases he1 : e1 = 0
    · subst he he1
      rw [show errP 0 0 = 0 from rfl] at b1 HH3
      have e2 : pU l 0 = (n, l.drop (p - q), 0) := by rw [E0.out]; rfl
      have E2 := Lib.hid e2
      clear e2
      go_wp2_with fail
      refine (drop_anyI w0 _ g l 0 _ (by omega) (by omega) (by exact HH3.out)).mono ?_
      rintro x w4 ⟨rfl, h4, g4⟩
      rw [show ((p : Int) - (q : Int)).toNat = p - q by omega] at h4
      go_wp2
      go_ret
      rw [E2.out]
      exact ⟨rfl, h4, grown_two' G3.out g4⟩
    · subst he
      rw [show errP 0 e1 = e1 from rfl] at b1 HH3
      have hb : (e1 != 0) = true := by simpa using he1
      have e2 : pU l 0 = (0, l, e1) := by rw [E0.out, if_pos rfl, if_neg he1]
      have E2 := Lib.hid e2
      clear e2
      go_wp2
      go_ret
      rw [E2.out]
      exact ⟨rfl, HH3.out, G3.out⟩
  · rw [show errP e e1 = e from if_neg he] at b1 HH3
    have hb : (e != 0) = true := by simpa using he
    have e2 : pU l e = (0, l, e) := by rw [E0.out, if_neg he]
    have E2 := Lib.hid e2
    clear e2
    go_wp2
    go_ret
    rw [E2.out]
    exact ⟨rfl, HH3.out, G3.out⟩

set_option maxRecDepth 100000 in
set_option maxHeartbeats 2000000 in
theorem numberS_any (w0 w : World) (g : Nat) (l : List Int) (e : Int) (h : PR w0 w g l e) :
    Calls Tryd.prog 53 #[.pointer (some ⟨g, 0, none⟩), .func (.func 72) #[] #[]] w (PRet w0 w g (.int .i64 (pS l e).1) (pS l e).2.1 (pS l e).2.2) := by
  have hlt16 : (l.take 16).length ≤ 16 := by rw [List.length_take]; omega
  have c1 := fun v W hv => TakeS_any v (l.take 16) W hv (by omega)
  have hsh := tS_short (l.take 16)
  have hll : (l.take 16).length ≤ l.length := by rw [List.length_take]; omega
  have e0 : pS l e = if e = 0 then (if (tS 10 2 (l.take 16)).2.2 = 0 then ((tS 10 2 (l.take 16)).1, l.drop ((l.take 16).length - (tS 10 2 (l.take 16)).2.1.length), 0) else (0, l, (tS 10 2 (l.take 16)).2.2)) else (0, l, e) := rfl
  obtain ⟨⟨n, r, e1⟩, ht⟩ : ∃ t, t = tS 10 2 (l.take 16) := ⟨_, rfl⟩
  rw [← ht] at c1 hsh e0
  simp only at c1 hsh e0
  obtain ⟨p, hp⟩ : ∃ p, (l.take 16).length = p := ⟨_, rfl⟩
  obtain ⟨q, hq⟩ : ∃ q, r.length = q := ⟨_, rfl⟩
  rw [hp, hq] at hsh
  rw [hp] at hlt16 hll
  rw [hp, hq] at e0
  have HP := Lib.hid hp
  have HQ := Lib.hid hq
  have C1 := Lib.hid c1
  have E0 := Lib.hid e0
  clear ht c1 hp hq e0
  go_enter Tryd.func53, Tryd.ntmps53
  go_wp2_with fail
  refine (first_anyI w0 _ g l e 16 (by omega) (by omega) (by exact h)).mono ?_
  rintro x w1 ⟨v3, m1, rfl, hh, rfl⟩
  have hh : Row w0 .u8 v3 (l.take 16) := hh
  have h1 := h.ext ((Ext.refl w).drewN m1)
  have HH1 := Lib.hid h1
  obtain ⟨A3, c3, hv3, -⟩ := id hh
  rw [HP.out] at hv3
  subst hv3
  go_wp2_with fail
  refine (C1.out _ _ (by exact hh.ext HH1.out.ext0)).mono ?_
  rintro x w2 ⟨u2, rfl, ⟨b2, rfl, ho2⟩, x2⟩
  simp only at ho2 ⊢
  obtain ⟨A2, c2, hv2, -⟩ := ho2.row
  rw [HQ.out] at hv2
  subst hv2
  have h2 := HH1.out.ext x2
  have X2 := Lib.hid (((Ext.refl w).drewN m1).trans x2)
  have HH2 := Lib.hid h2
  clear hh h1 ho2 x2 h2
  go_wp2_with fail
  refine (fail_any w0 _ g l e e1 (by exact HH2.out)).mono ?_
  rintro x w3 ⟨rfl, h3, g3⟩
  have HH3 := Lib.hid h3
  have G3 := Lib.hid (grown_two' (ext_grown X2.out (some g)) g3)
  obtain ⟨A4, c4, -, -, -, b0, b1, f0, f1⟩ := h3.cells
  clear h3 g3 h
  by_cases he : e = 0
  · by_cases he1 : e1 = 0
    · subst he he1
      rw [show errP 0 0 = 0 from rfl] at b1 HH3
      have e2 : pS l 0 = (n, l.drop (p - q), 0) := by rw [E0.out]; rfl
      have E2 := Lib.hid e2
      clear e2
      go_wp2_with fail
      refine (drop_anyI w0 _ g l 0 _ (by omega) (by omega) (by exact HH3.out)).mono ?_
      rintro x w4 ⟨rfl, h4, g4⟩
      rw [show ((p : Int) - (q : Int)).toNat = p - q by omega] at h4
      go_wp2
      go_ret
      rw [E2.out]
      exact ⟨rfl, h4, grown_two' G3.out g4⟩
    · subst he
      rw [show errP 0 e1 = e1 from rfl] at b1 HH3
      have hb : (e1 != 0) = true := by simpa using he1
      have e2 : pS l 0 = (0, l, e1) := by rw [E0.out, if_pos rfl, if_neg he1]
      have E2 := Lib.hid e2
      clear e2
      go_wp2
      go_ret
      rw [E2.out]
      exact ⟨rfl, HH3.out, G3.out⟩
  · rw [show errP e e1 = e from if_neg he] at b1 HH3
    have hb : (e != 0) = true := by simpa using he
    have e2 : pS l e = (0, l, e) := by rw [E0.out, if_neg he]
    have E2 := Lib.hid e2
    clear e2
    go_wp2
    go_ret
    rw [E2.out]
    exact ⟨rfl, HH3.out, G3.out⟩

/-- How many constants there are. -/
def cntP (l : List Int) : Int × List Int × Int := if (pU l 0).2.2 = 0 ∧ 4096 < (pU l 0).1 then (0, (pU l 0).2.1, 5) else pU l 0
theorem pU_zero {l : List Int} {e : Int} (h : ¬ (pU l e).2.2 = 0) : (pU l e).1 = 0 := by
  unfold pU numP at h ⊢
  by_cases he : e = 0
  · rw [if_pos he] at h ⊢
    by_cases h2 : (tU (l.take 16)).2.2 = 0
    · rw [if_pos h2] at h
      exact absurd rfl h
    · rw [if_neg h2]
  · rw [if_neg he]
theorem count_any (w0 w : World) (g : Nat) (l : List Int) (h : PR w0 w g l 0) :
    Calls Tryd.prog 30 #[.pointer (some ⟨g, 0, none⟩)] w (PRet w0 w g (.int .i64 (cntP l).1) (cntP l).2.1 (cntP l).2.2) := by
  have c1 := numberU_any w0 w g l 0 h
  have e0 : cntP l = if (pU l 0).2.2 = 0 ∧ 4096 < (pU l 0).1 then (0, (pU l 0).2.1, 5) else pU l 0 := rfl
  have hz := @pU_zero l 0
  obtain ⟨⟨n, r, e1⟩, ht⟩ : ∃ t, t = pU l 0 := ⟨_, rfl⟩
  rw [← ht] at c1 e0 hz
  simp only at c1 e0 hz
  have C1 := Lib.hid c1
  have E0 := Lib.hid e0
  clear ht c1 e0
  by_cases hn : 4096 < n
  · have he1 : e1 = 0 := by
      by_cases h1 : e1 = 0
      · exact h1
      · have := hz h1
        omega
    subst he1
    have e2 : cntP l = (0, r, 5) := by rw [E0.out, if_pos ⟨rfl, hn⟩]
    rw [e2]
    clear e2 hz h
    go_enter Tryd.func30, Tryd.ntmps30
    go_wp2_with fail
    refine C1.out.mono ?_
    rintro x w1 ⟨rfl, h1, g1⟩
    go_wp2_with fail
    refine (fail_any w0 _ g r 0 5 (by exact h1)).mono ?_
    rintro x w2 ⟨rfl, h2, g2⟩
    go_wp2
    go_ret
    exact ⟨rfl, h2, grown_two' g1 g2⟩
  · have e2 : cntP l = (n, r, e1) := by rw [E0.out, if_neg (fun h => hn h.2)]
    rw [e2]
    clear e2 hz h
    go_enter Tryd.func30, Tryd.ntmps30
    go_wp2_with fail
    refine C1.out.mono ?_
    rintro x w1 ⟨rfl, h1, g1⟩
    go_wp2
    go_ret
    exact ⟨rfl, h1, g1⟩

/-- A constant's kind: 0, if that is none. -/
def kndP (l : List Int) : Int × List Int × Int := if l = [] then (0, [], 3) else if 7 ≤ gi l 0 then (0, l.drop 1, 0) else (gi l 0, l.drop 1, 0)
theorem kind_any (w0 w : World) (g : Nat) (l : List Int) (h : PR w0 w g l 0) :
    Calls Tryd.prog 31 #[.pointer (some ⟨g, 0, none⟩)] w (PRet w0 w g (.int .i64 (kndP l).1) (kndP l).2.1 (kndP l).2.2) := by
  have c1 := rtake_anyI w0 w g l 0 1 (by omega) (by omega) h
  rw [show (1 : Int).toNat = 1 from rfl] at c1
  by_cases hl : l = []
  · subst hl
    rw [show tkP [] 0 1 = ([], [], 3) from rfl] at c1
    simp only at c1
    rw [show kndP [] = (0, [], 3) from rfl]
    have C1 := Lib.hid c1
    clear c1 h
    go_enter Tryd.func31, Tryd.ntmps31
    go_wp2_with fail
    refine C1.out.mono ?_
    rintro x w1 ⟨v1, ⟨rfl, h1, g1⟩, hr⟩
    obtain ⟨A1, k1, rfl, -⟩ := hr
    simp only [List.length_nil]
    go_wp2
    go_ret
    exact ⟨rfl, h1, g1⟩
  · have hl0 : 0 < l.length := List.length_pos_iff.2 hl
    have et : tkP l 0 1 = (l.take 1, l.drop 1, 0) := by unfold tkP; rw [if_pos rfl, if_neg (by omega)]
    rw [et] at c1
    simp only at c1
    have hl1 : (l.take 1).length = 1 := by rw [List.length_take]; omega
    have hg0 : gi (l.take 1) 0 = gi l 0 := by simp [gi]
    have ek : kndP l = if 7 ≤ gi l 0 then (0, l.drop 1, 0) else (gi l 0, l.drop 1, 0) := by unfold kndP; rw [if_neg hl]
    rw [ek]
    obtain ⟨y, hy⟩ : ∃ y, gi l 0 = y := ⟨_, rfl⟩
    rw [hy] at hg0 ⊢
    have C1 := Lib.hid c1
    have HG := Lib.hid hg0
    have HL := Lib.hid hl1
    clear c1 h et hy hg0 hl1 ek
    by_cases h7 : 7 ≤ y
    · rw [if_pos h7]
      go_enter Tryd.func31, Tryd.ntmps31
      go_wp2_with fail
      refine C1.out.mono ?_
      rintro x w1 ⟨v1, ⟨rfl, h1, g1⟩, hr⟩
      obtain ⟨A1, k1, rfl, hk1, hk2, -, hfit, h6⟩ := hr.ext h1.ext0
      rw [HL.out] at h6 hk1 ⊢
      obtain ⟨bl, o, rfl, hbl, hcell⟩ := h6 (by omega)
      have b0 := hcell 0 (by omega)
      have hb8 := hfit.u8 (gi_mem (l := l.take 1) (j := 0) (by rw [HL.out]; omega))
      rw [HG.out] at b0 hb8
      rw [Nat.add_zero] at b0
      have H1 := Lib.hid h1
      clear hcell h6 hfit hr h1
      unfold maxLen at hk2
      go_wp2
      go_ret
      exact ⟨rfl, H1.out, g1⟩
    · rw [if_neg h7]
      go_enter Tryd.func31, Tryd.ntmps31
      go_wp2_with fail
      refine C1.out.mono ?_
      rintro x w1 ⟨v1, ⟨rfl, h1, g1⟩, hr⟩
      obtain ⟨A1, k1, rfl, hk1, hk2, -, hfit, h6⟩ := hr.ext h1.ext0
      rw [HL.out] at h6 hk1 ⊢
      obtain ⟨bl, o, rfl, hbl, hcell⟩ := h6 (by omega)
      have b0 := hcell 0 (by omega)
      have hb8 := hfit.u8 (gi_mem (l := l.take 1) (j := 0) (by rw [HL.out]; omega))
      rw [HG.out] at b0 hb8
      rw [Nat.add_zero] at b0
      have H1 := Lib.hid h1
      clear hcell h6 hfit hr h1
      unfold maxLen at hk2
      go_wp2
      go_ret
      exact ⟨rfl, H1.out, g1⟩

/-- The block of a call's result, made first, stays while the reader reads. -/
theorem res_block {w w2 : World} {g : Nat} {o : Obj} (hlt : g < w.heap.size) (hg : (w.alloc o).grownBy w2 (some g)) : w2.heap[w.heap.size]? = some o ∧ w.grownBy w2 (some g) := by
  refine ⟨?_, grown_two' (ext_grown ((Ext.refl w).alloc o) _) hg⟩
  rw [hg.block w.heap.size (by simp) (fun e => by injection e; omega), heap_alloc_new]

set_option maxRecDepth 100000 in
set_option maxHeartbeats 2000000 in
theorem none_any (w0 w : World) (g : Nat) (l : List Int) (e : Int) (h : PR w0 w g l e) :
    Calls Tryd.prog 48 #[.pointer (some ⟨g, 0, none⟩)] w (PRet w0 w g (.agg c0.vals) l (errP e 4)) := by
  have hlt := h.lt
  have hbs := h.base
  have h1 := h.ext ((Ext.refl w).alloc (.cells c0.vals 44))
  have hw := h.ext0.size
  have H1 := Lib.hid h1
  clear h1 h
  go_enter Tryd.func48, Tryd.ntmps48
  go_wp2_with fail
  refine (fail_any w0 _ g l e 4 (by exact H1.out)).mono ?_
  rintro x w2 ⟨rfl, h2, g2⟩
  obtain ⟨k1, g3⟩ := res_block hlt g2
  clear g2
  obtain ⟨y0, y1, y2, y3, y4, y5⟩ := At0.of (y := c0) k1
  have fz1 : ∀ j, w2.frozen? ⟨w.heap.size, j, none⟩ = false := fun j => by simp [World.frozen?, k1]
  have HR := Lib.hid h2
  have GR := Lib.hid g3
  simp only [c0] at y0 y1 y2 y3 y4 y5
  clear k1 h2
  go_wp2
  exact bodyPost_ret (v := .agg (Cst.vals c0)) (by unfold Cst.vals c0; simp [results, Tryd.results48, go_sem, y0, y1, y2, y3, y4, y5]; try rfl) rfl ⟨rfl, HR.out.six (by omega) (by omega) 0 _ _ _ _ _ _, grown_six GR.out (Nat.le_refl _) 0 _ _ _ _ _ _⟩

set_option maxRecDepth 100000 in
set_option maxHeartbeats 2000000 in
theorem num_any (w0 w : World) (g : Nat) (l : List Int) (e : Int) (h : PR w0 w g l e) :
    Calls Tryd.prog 50 #[.pointer (some ⟨g, 0, none⟩)] w (PRet w0 w g (.agg (Cst.vals ⟨0, .empty, (pS l e).1, 0, 0, 0⟩)) (pS l e).2.1 (pS l e).2.2) := by
  have hlt := h.lt
  have hbs := h.base
  have h1 := h.ext ((Ext.refl w).alloc (.cells c0.vals 44))
  have hw := h.ext0.size
  have c1 := numberS_any w0 _ g l e h1
  obtain ⟨⟨n, r, e1⟩, ht⟩ : ∃ t, t = pS l e := ⟨_, rfl⟩
  rw [← ht] at c1 ⊢
  simp only at c1 ⊢
  have C1 := Lib.hid c1
  clear h1 h ht c1
  go_enter Tryd.func50, Tryd.ntmps50
  go_wp2_with fail
  refine C1.out.mono ?_
  rintro x w2 ⟨rfl, h2, g2⟩
  obtain ⟨k1, g3⟩ := res_block hlt g2
  clear g2
  obtain ⟨y0, y1, y2, y3, y4, y5⟩ := At0.of (y := c0) k1
  have fz1 : ∀ j, w2.frozen? ⟨w.heap.size, j, none⟩ = false := fun j => by simp [World.frozen?, k1]
  have HR := Lib.hid h2
  have GR := Lib.hid g3
  simp only [c0] at y0 y1 y2 y3 y4 y5
  clear k1 h2
  go_wp2
  exact bodyPost_ret (v := .agg (Cst.vals ⟨0, .empty, n, 0, 0, 0⟩)) (by unfold Cst.vals; simp [results, Tryd.results50, go_sem, y0, y1, y2, y3, y4, y5]; try rfl) rfl ⟨rfl, HR.out.six (by omega) (by omega) 0 _ _ _ _ _ _, grown_six GR.out (Nat.le_refl _) 0 _ _ _ _ _ _⟩

set_option maxRecDepth 100000 in
set_option maxHeartbeats 2000000 in
theorem class_any (w0 w : World) (g : Nat) (l : List Int) (e : Int) (h : PR w0 w g l e) :
    Calls Tryd.prog 51 #[.pointer (some ⟨g, 0, none⟩)] w (PRet w0 w g (.agg (Cst.vals ⟨0, .empty, 0, (pU l e).1, 0, 0⟩)) (pU l e).2.1 (pU l e).2.2) := by
  have hlt := h.lt
  have hbs := h.base
  have h1 := h.ext ((Ext.refl w).alloc (.cells c0.vals 44))
  have hw := h.ext0.size
  have c1 := numberU_any w0 _ g l e h1
  obtain ⟨⟨n, r, e1⟩, ht⟩ : ∃ t, t = pU l e := ⟨_, rfl⟩
  rw [← ht] at c1 ⊢
  simp only at c1 ⊢
  have C1 := Lib.hid c1
  clear h1 h ht c1
  go_enter Tryd.func51, Tryd.ntmps51
  go_wp2_with fail
  refine C1.out.mono ?_
  rintro x w2 ⟨rfl, h2, g2⟩
  obtain ⟨k1, g3⟩ := res_block hlt g2
  clear g2
  obtain ⟨y0, y1, y2, y3, y4, y5⟩ := At0.of (y := c0) k1
  have fz1 : ∀ j, w2.frozen? ⟨w.heap.size, j, none⟩ = false := fun j => by simp [World.frozen?, k1]
  have HR := Lib.hid h2
  have GR := Lib.hid g3
  simp only [c0] at y0 y1 y2 y3 y4 y5
  clear k1 h2
  go_wp2
  exact bodyPost_ret (v := .agg (Cst.vals ⟨0, .empty, 0, n, 0, 0⟩)) (by unfold Cst.vals; simp [results, Tryd.results51, go_sem, y0, y1, y2, y3, y4, y5]; try rfl) rfl ⟨rfl, HR.out.six (by omega) (by omega) 0 _ _ _ _ _ _, grown_six GR.out (Nat.le_refl _) 0 _ _ _ _ _ _⟩

/-- What taking three numbers off leaves. -/
def memP (l : List Int) (e : Int) : Cst × List Int × Int :=
  (⟨0, .empty, 0, (pU l e).1, (pU (pU l e).2.1 (pU l e).2.2).1, (pU (pU (pU l e).2.1 (pU l e).2.2).2.1 (pU (pU l e).2.1 (pU l e).2.2).2.2).1⟩, (pU (pU (pU l e).2.1 (pU l e).2.2).2.1 (pU (pU l e).2.1 (pU l e).2.2).2.2).2)
set_option maxRecDepth 100000 in
set_option maxHeartbeats 2000000 in
theorem member_any (w0 w : World) (g : Nat) (l : List Int) (e : Int) (h : PR w0 w g l e) :
    Calls Tryd.prog 52 #[.pointer (some ⟨g, 0, none⟩)] w (PRet w0 w g (.agg (Cst.vals (memP l e).1)) (memP l e).2.1 (memP l e).2.2) := by
  have hlt := h.lt
  have hbs := h.base
  have h1 := h.ext ((Ext.refl w).alloc (.cells c0.vals 44))
  have hw := h.ext0.size
  have c1 := numberU_any w0 _ g l e h1
  unfold memP
  obtain ⟨⟨n1, r1, e1⟩, ht1⟩ : ∃ t, t = pU l e := ⟨_, rfl⟩
  rw [← ht1] at c1 ⊢
  simp only at c1 ⊢
  have c2 := fun W hW => numberU_any w0 W g r1 e1 hW
  obtain ⟨⟨n2, r2, e2⟩, ht2⟩ : ∃ t, t = pU r1 e1 := ⟨_, rfl⟩
  rw [← ht2] at c2 ⊢
  simp only at c2 ⊢
  have c3 := fun W hW => numberU_any w0 W g r2 e2 hW
  obtain ⟨⟨n3, r3, e3⟩, ht3⟩ : ∃ t, t = pU r2 e2 := ⟨_, rfl⟩
  rw [← ht3] at c3 ⊢
  simp only at c3 ⊢
  have C1 := Lib.hid c1
  have C2 := Lib.hid c2
  have C3 := Lib.hid c3
  clear h1 h ht1 ht2 ht3 c1 c2 c3
  go_enter Tryd.func52, Tryd.ntmps52
  go_wp2_with fail
  refine C1.out.mono ?_
  rintro x w2 ⟨rfl, h2, g2⟩
  go_wp2_with fail
  refine (C2.out _ (by exact h2)).mono ?_
  rintro x w3 ⟨rfl, h3, g3⟩
  go_wp2_with fail
  refine (C3.out _ (by exact h3)).mono ?_
  rintro x w4 ⟨rfl, h4, g4⟩
  obtain ⟨k1, g5⟩ := res_block hlt (grown_two' (grown_two' g2 g3) g4)
  clear g2 g3 g4 h2 h3
  obtain ⟨y0, y1, y2, y3, y4, y5⟩ := At0.of (y := c0) k1
  have fz1 : ∀ j, w4.frozen? ⟨w.heap.size, j, none⟩ = false := fun j => by simp [World.frozen?, k1]
  have HR := Lib.hid h4
  have GR := Lib.hid g5
  simp only [c0] at y0 y1 y2 y3 y4 y5
  clear k1 h4
  go_wp2
  exact bodyPost_ret (v := .agg (Cst.vals ⟨0, .empty, 0, n1, n2, n3⟩)) (by unfold Cst.vals; simp [results, Tryd.results52, go_sem, y0, y1, y2, y3, y4, y5]; try rfl) rfl ⟨rfl, HR.out.six (by omega) (by omega) 0 _ _ _ _ _ _, grown_six GR.out (Nat.le_refl _) 0 _ _ _ _ _ _⟩

end Go.Proofs.YtecgldkhjgcffaaDoor
/- The program's reader of bytes, walked: texts, what is left, the ways by their kinds. -/
namespace Go.Proofs.YtecgldkhjgcffaaDoor
open Go.RowKit
set_option linter.unusedVariables false

theorem pU_pos (l : List Int) (e : Int) : 0 ≤ (pU l e).1 ∧ (pU l e).1 ≤ 9007199254740991 := by
  unfold pU numP
  by_cases he : e = 0
  · rw [if_pos he]
    by_cases h2 : (tU (l.take 16)).2.2 = 0
    · rw [if_pos h2]
      exact tU_pos h2
    · rw [if_neg h2]
      simp
  · rw [if_neg he]
    simp
/-- What taking a text off leaves. -/
def tP (l : List Int) (e : Int) : ByteArray × List Int × Int :=
  ((decT (tkP (pU l e).2.1 (pU l e).2.2 (pU l e).1.toNat).1).1, (tkP (pU l e).2.1 (pU l e).2.2 (pU l e).1.toNat).2.1, errP (tkP (pU l e).2.1 (pU l e).2.2 (pU l e).1.toNat).2.2 (decT (tkP (pU l e).2.1 (pU l e).2.2 (pU l e).1.toNat).1).2)
theorem tkP_le (l : List Int) (e : Int) (n : Nat) : (tkP l e n).1.length ≤ l.length := by
  unfold tkP
  split
  · split
    · simp
    · simp only [List.length_take]; omega
  · simp
theorem pU_le (l : List Int) (e : Int) : (pU l e).2.1.length ≤ l.length := by
  unfold pU numP
  split
  · split
    · simp only [List.length_drop]; omega
    · exact Nat.le_refl _
  · exact Nat.le_refl _
set_option maxRecDepth 100000 in
set_option maxHeartbeats 2000000 in
theorem rtext_any (w0 w : World) (g : Nat) (l : List Int) (e : Int) (h : PR w0 w g l e) (hl : l.length + 4 ≤ 140737488355328) :
    Calls Tryd.prog 49 #[.pointer (some ⟨g, 0, none⟩)] w (PRet w0 w g (.agg (Cst.vals ⟨0, (tP l e).1, 0, 0, 0, 0⟩)) (tP l e).2.1 (tP l e).2.2) := by
  have hlt := h.lt
  have hbs := h.base
  have h1 := h.ext ((Ext.refl w).alloc (.cells c0.vals 44))
  have hw := h.ext0.size
  have c1 := numberU_any w0 _ g l e h1
  have hp := pU_pos l e
  have hle := pU_le l e
  unfold tP
  obtain ⟨⟨n, r, e1⟩, ht⟩ : ∃ t, t = pU l e := ⟨_, rfl⟩
  rw [← ht] at c1 hp hle ⊢
  simp only at c1 hp hle ⊢
  obtain ⟨hp0, hp1⟩ := hp
  have c2 := fun W hW => rtake_anyI w0 W g r e1 n hp0 (by omega) hW
  have hle2 := tkP_le r e1 n.toNat
  obtain ⟨⟨s, r2, e2⟩, ht2⟩ : ∃ t, t = tkP r e1 n.toNat := ⟨_, rfl⟩
  rw [← ht2] at c2 hle2 ⊢
  simp only at c2 hle2 ⊢
  have C1 := Lib.hid c1
  have C2 := Lib.hid c2
  obtain ⟨d, hd⟩ : ∃ d, d = decT s := ⟨_, rfl⟩
  rw [← hd]
  have HD := Lib.hid hd
  clear h1 h ht ht2 c1 c2 hd
  obtain ⟨dt, de⟩ := d
  simp only
  go_enter Tryd.func49, Tryd.ntmps49
  go_wp2_with fail
  refine C1.out.mono ?_
  rintro x w2 ⟨rfl, h2, g2⟩
  have H2 := Lib.hid h2
  clear h2
  go_wp2_with fail
  refine (C2.out _ (by exact H2.out)).mono ?_
  rintro x w3 ⟨v3, ⟨rfl, h3, g3⟩, hr3⟩
  have H3 := Lib.hid h3
  clear h3
  go_wp2_with fail
  refine (Decode_any v3 s _ (by exact hr3.ext H3.out.ext0) (by omega)).mono ?_
  rintro x w4 ⟨u4, rfl, ha, x4⟩
  have H4 := Lib.hid (H3.out.ext x4)
  have G4 := Lib.hid (grown_then' (grown_two' g2 g3) x4)
  clear x4 g2 g3 hr3
  have hu : ∃ at4, u4 = .tuple #[.string dt, .int .i64 at4, .int .i64 de] := by
    have hd := HD.out
    unfold decT at hd
    rcases ha with ⟨hs, rfl⟩ | ⟨hs, rfl⟩
    · rw [if_pos hs] at hd
      injection hd with hd1 hd2
      exact ⟨0, by rw [hd1, hd2]⟩
    · rw [if_neg (by omega)] at hd
      injection hd with hd1 hd2
      exact ⟨_, by rw [hd1, hd2]; rfl⟩
  obtain ⟨at4, rfl⟩ := hu
  clear ha
  go_wp2_with fail
  refine (fail_any w0 _ g r2 e2 de (by exact H4.out)).mono ?_
  rintro x w5 ⟨rfl, h5, g5⟩
  obtain ⟨k1, g6⟩ := res_block hlt (grown_two' G4.out g5)
  clear g5
  obtain ⟨y0, y1, y2, y3, y4, y5⟩ := At0.of (y := c0) k1
  have fz1 : ∀ j, w5.frozen? ⟨w.heap.size, j, none⟩ = false := fun j => by simp [World.frozen?, k1]
  have HR := Lib.hid h5
  have GR := Lib.hid g6
  simp only [c0] at y0 y1 y2 y3 y4 y5
  clear k1 h5
  go_wp2
  exact bodyPost_ret (v := .agg (Cst.vals ⟨0, dt, 0, 0, 0, 0⟩)) (by unfold Cst.vals; simp [results, Tryd.results49, go_sem, y0, y1, y2, y3, y4, y5]; try rfl) rfl ⟨rfl, HR.out.six (by omega) (by omega) 0 _ _ _ _ _ _, grown_six GR.out (Nat.le_refl _) 0 _ _ _ _ _ _⟩

theorem copied_any (w0 w : World) (g : Nat) (l : List Int) (e : Int) (h : PR w0 w g l e) (hl : l.length ≤ 140737488355328) :
    Calls Tryd.prog 32 #[.pointer (some ⟨g, 0, none⟩)] w (Ret w (fun v' w' => Own w.heap.size w' 5 .u8 v' l)) := by
  obtain ⟨A, c, hc1, hc2, hrow, a0, a1, f0, f1⟩ := h.cells
  have HR := Lib.hid (hrow.ext h.ext0)
  clear hrow h
  go_enter Tryd.func32, Tryd.ntmps32
  go_wp2_with fail
  refine (clone_any _ l _ (by exact HR.out) hl).mono ?_
  rintro x w1 ⟨v1, rfl, ho1, x1⟩
  go_wp2
  go_ret
  exact Ret.mk ho1 x1

/-- The ways of reading, by their kinds. -/
def ways : Array Value := #[.func (.func 48) #[] #[], .func (.func 49) #[] #[], .func (.func 50) #[] #[], .func (.func 50) #[] #[], .func (.func 51) #[] #[], .func (.func 52) #[] #[], .func (.func 52) #[] #[]]
theorem byKind_any (w : World) : Calls Tryd.prog 29 #[] w fun e w' => e = .returned (.agg ways) ∧ Ext w w' := by
  go_enter Tryd.func29, Tryd.ntmps29
  go_wp2
  exact bodyPost_ret (v := .agg ways) (by unfold ways; simp [results, Tryd.results29, go_sem]) rfl ⟨rfl, (Ext.refl w).alloc _⟩
end Go.Proofs.YtecgldkhjgcffaaDoor
/- Reading constants, the program's way against the document's: plain mathematics. -/
namespace Go.Proofs.YtecgldkhjgcffaaDoor
open Go.RowKit
set_option linter.unusedVariables false

theorem fb_min : ∀ (l : List Int) (k : Nat), fb (l.take k) = min (fb l) k
  | [], k => by simp [fb]
  | x :: l, 0 => by simp [fb]
  | x :: l, k + 1 => by
    rw [List.take_succ_cons, fb, fb, fb_min l k]
    split <;> omega
theorem spn_short {most : Nat} (h : most ≤ 16) (l : List Int) : spn most (l.take 16) = spn most l := by
  unfold spn
  rw [fb_min, List.length_take]
  have := fb_le l
  by_cases h1 : most ≤ fb l
  · rw [if_pos h1, if_pos (by omega)]
  · rw [if_neg h1, if_neg (by omega)]
    have e : min (fb l) 16 = fb l := by omega
    rw [e]
    by_cases h2 : fb l = l.length
    · rw [if_pos h2, if_pos (by omega)]
    · rw [if_neg h2, if_neg (by omega)]
theorem tS_16 {most : Nat} (hm : most ≤ 16) (wy : Int) (l : List Int) :
    (tS most wy (l.take 16)).1 = (tS most wy l).1 ∧ (tS most wy (l.take 16)).2.2 = (tS most wy l).2.2 ∧
    ((tS most wy l).2.2 = 0 → l.drop ((l.take 16).length - (tS most wy (l.take 16)).2.1.length) = (tS most wy l).2.1) := by
  unfold tS
  rw [spn_short hm]
  by_cases h : (spn most l).2 = 0
  · obtain ⟨_, h1, h2⟩ := spn_zero h
    have e1 : fb (l.take 16) = fb l := by rw [fb_min]; omega
    have e2 : (l.take 16).take (fb l + 1) = l.take (fb l + 1) := by rw [List.take_take]; congr 1; omega
    rw [if_pos h, if_pos h, e1, e2]
    by_cases h3 : l.take (fb l + 1) = dg wy 10 (wo wy (l.take (fb l + 1)))
    · rw [if_pos h3, if_pos h3]
      refine ⟨rfl, rfl, fun _ => ?_⟩
      simp only [List.length_drop, List.length_take]
      congr 1
      omega
    · rw [if_neg h3, if_neg h3]
      exact ⟨rfl, rfl, fun h => absurd h (by simp)⟩
  · rw [if_neg h, if_neg h]
    exact ⟨rfl, rfl, fun h2 => absurd h2 h⟩
theorem tU_16 (l : List Int) :
    (tU (l.take 16)).1 = (tU l).1 ∧ (tU (l.take 16)).2.2 = (tU l).2.2 ∧ ((tU l).2.2 = 0 → l.drop ((l.take 16).length - (tU (l.take 16)).2.1.length) = (tU l).2.1) := by
  obtain ⟨h1, h2, h3⟩ := tS_16 (most := 8) (by omega) 1 l
  unfold tU
  rw [h1]
  by_cases h : 9007199254740991 < (tS 8 1 l).1
  · rw [if_pos h, if_pos h]
    exact ⟨rfl, rfl, fun h => absurd h (by simp)⟩
  · rw [if_neg h, if_neg h]
    exact ⟨h1, h2, h3⟩
/-- Both ways tell the same: the error, and where there is none the number and what is left. -/
def Same3 {α : Type} (x y : α × List Int × Int) : Prop := x.2.2 = y.2.2 ∧ (y.2.2 = 0 → x = y)
theorem pU_rd (l : List Int) (e : Int) : (pU l e).1 = (rdU l e).1 ∧ Same3 (pU l e) (rdU l e) := by
  unfold pU numP rdU Same3
  obtain ⟨h1, h2, h3⟩ := tU_16 l
  by_cases he : e = 0
  · rw [if_pos he, if_pos he, h2]
    by_cases h : (tU l).2.2 = 0
    · rw [if_pos h]
      refine ⟨h1, h.symm, fun _ => ?_⟩
      rw [h1, h3 h, ← h]
    · rw [if_neg h]
      exact ⟨(tU_err h).1.symm, rfl, fun h4 => absurd h4 h⟩
  · rw [if_neg he, if_neg he]
    exact ⟨rfl, rfl, fun _ => rfl⟩
theorem pS_rd (l : List Int) (e : Int) : (pS l e).1 = (rdS l e).1 ∧ Same3 (pS l e) (rdS l e) := by
  unfold pS numP rdS Same3
  obtain ⟨h1, h2, h3⟩ := tS_16 (most := 10) (by omega) 2 l
  by_cases he : e = 0
  · rw [if_pos he, if_pos he, h2]
    by_cases h : (tS 10 2 l).2.2 = 0
    · rw [if_pos h]
      refine ⟨h1, h.symm, fun _ => ?_⟩
      rw [h1, h3 h, ← h]
    · rw [if_neg h]
      exact ⟨(tS_err h).1.symm, rfl, fun h4 => absurd h4 h⟩
  · rw [if_neg he, if_neg he]
    exact ⟨rfl, rfl, fun _ => rfl⟩
theorem stop_nil : stop [] = 0 := by unfold stop; rw [chs_nil]; rfl
theorem decT_nil : (decT []).2 = 0 := by
  unfold decT
  rw [if_pos (by rw [stop_nil]; rfl)]
theorem tP_rd (l : List Int) (e : Int) : Same3 (tP l e) (rdT l e) := by
  unfold tP rdT Same3
  obtain ⟨h1, h2, h3⟩ := pU_rd l e
  by_cases h : (rdU l e).2.2 = 0
  · rw [h3 h, if_neg (by simpa using h), h]
    by_cases hb : ((rdU l e).2.1.length : Int) < (rdU l e).1
    · rw [if_pos hb]
      have et : tkP (rdU l e).2.1 0 (rdU l e).1.toNat = ([], (rdU l e).2.1, 3) := by
        unfold tkP
        rw [if_pos rfl, if_pos (by omega)]
      rw [et]
      simp only [decT_nil]
      exact ⟨rfl, fun h => absurd h (by simp)⟩
    · rw [if_neg hb]
      have et : tkP (rdU l e).2.1 0 (rdU l e).1.toNat = ((rdU l e).2.1.take (rdU l e).1.toNat, (rdU l e).2.1.drop (rdU l e).1.toNat, 0) := by
        unfold tkP
        rw [if_pos rfl, if_neg (by omega)]
      rw [et]
      exact ⟨rfl, fun _ => rfl⟩
  · rw [if_pos h]
    have et : tkP (pU l e).2.1 (pU l e).2.2 (pU l e).1.toNat = ([], (pU l e).2.1, (rdU l e).2.2) := by
      unfold tkP
      rw [h2, if_neg h]
    rw [et]
    simp only [decT_nil]
    exact ⟨if_neg h, fun h4 => absurd h4 h⟩
theorem pU_kept (l : List Int) {e : Int} (h : ¬ e = 0) : pU l e = (0, l, e) := by
  unfold pU numP
  rw [if_neg h]
theorem rdU_kept (l : List Int) {e : Int} (h : ¬ e = 0) : rdU l e = (0, l, e) := by
  unfold rdU
  rw [if_neg h]
/-- What reading by a kind leaves. -/
def wayP (k : Int) (l : List Int) (e : Int) : Cst × List Int × Int :=
  if k = 1 then (⟨0, (tP l e).1, 0, 0, 0, 0⟩, (tP l e).2) else if k = 2 ∨ k = 3 then (⟨0, .empty, (pS l e).1, 0, 0, 0⟩, (pS l e).2)
  else if k = 4 then (⟨0, .empty, 0, (pU l e).1, 0, 0⟩, (pU l e).2) else if k = 5 ∨ k = 6 then memP l e else (c0, l, errP e 4)
/-- One constant, the program's way. -/
def oneP (l : List Int) : Cst × List Int × Int :=
  ({ (wayP (kndP l).1 (kndP l).2.1 (kndP l).2.2).1 with k := (kndP l).1 }, (wayP (kndP l).1 (kndP l).2.1 (kndP l).2.2).2)
theorem oneP_rd {l : List Int} (hf : Fit .u8 l) : Same3 (oneP l) (rdOne l) := by
  unfold oneP rdOne
  by_cases hl : l = []
  · subst hl
    rw [if_pos rfl, show kndP [] = (0, [], 3) from rfl]
    exact ⟨rfl, fun h => absurd h (by simp)⟩
  · rw [if_neg hl]
    have hg := hf.gi 0
    have hk : kndP l = if 7 ≤ gi l 0 then (0, l.drop 1, 0) else (gi l 0, l.drop 1, 0) := by unfold kndP; rw [if_neg hl]
    obtain ⟨y, hy⟩ : ∃ y, gi l 0 = y := ⟨_, rfl⟩
    obtain ⟨m, hm⟩ : ∃ m, l.drop 1 = m := ⟨_, rfl⟩
    rw [hy] at hg hk ⊢
    rw [hm] at hk ⊢
    by_cases h7 : 7 ≤ y
    · rw [if_pos h7] at hk
      rw [hk, if_neg (by omega), if_neg (by omega), if_neg (by omega), if_neg (by omega)]
      exact ⟨rfl, fun h => absurd h (by simp)⟩
    · rw [if_neg h7] at hk
      rw [hk]
      unfold wayP
      simp only
      by_cases y1 : y = 1
      · rw [if_pos y1, if_pos y1, y1]
        obtain ⟨h1, h2⟩ := tP_rd m 0
        exact ⟨h1, fun h => by simp only at h ⊢; rw [h2 h]⟩
      · rw [if_neg y1, if_neg y1]
        by_cases y2 : y = 2 ∨ y = 3
        · rw [if_pos y2, if_pos y2]
          obtain ⟨h0, h1, h2⟩ := pS_rd m 0
          exact ⟨h1, fun h => by simp only at h ⊢; rw [h2 h]⟩
        · rw [if_neg y2, if_neg y2]
          by_cases y4 : y = 4
          · rw [if_pos y4, if_pos y4, y4]
            obtain ⟨h0, h1, h2⟩ := pU_rd m 0
            exact ⟨h1, fun h => by simp only at h ⊢; rw [h2 h]⟩
          · rw [if_neg y4, if_neg y4]
            by_cases y5 : y = 5 ∨ y = 6
            · rw [if_pos y5, if_pos y5]
              unfold memP
              obtain ⟨h0, h1, h2⟩ := pU_rd m 0
              by_cases g1 : (rdU m 0).2.2 = 0
              · rw [h2 g1]
                obtain ⟨i0, i1, i2⟩ := pU_rd (rdU m 0).2.1 (rdU m 0).2.2
                by_cases g2 : (rdU (rdU m 0).2.1 (rdU m 0).2.2).2.2 = 0
                · rw [i2 g2]
                  obtain ⟨j0, j1, j2⟩ := pU_rd (rdU (rdU m 0).2.1 (rdU m 0).2.2).2.1 (rdU (rdU m 0).2.1 (rdU m 0).2.2).2.2
                  exact ⟨j1, fun h => by simp only at h ⊢; rw [j2 h]⟩
                · have e3 : ∀ q, (pU q (pU (rdU m 0).2.1 (rdU m 0).2.2).2.2).2.2 = (rdU (rdU m 0).2.1 (rdU m 0).2.2).2.2 := fun q => by
                    rw [i1, pU_kept _ g2]
                  have e4 : ∀ q, (rdU q (rdU (rdU m 0).2.1 (rdU m 0).2.2).2.2).2.2 = (rdU (rdU m 0).2.1 (rdU m 0).2.2).2.2 := fun q => by
                    rw [rdU_kept _ g2]
                  refine ⟨?_, fun h => ?_⟩
                  · simp only
                    rw [e3, e4]
                  · simp only at h
                    rw [e4] at h
                    exact absurd h g2
              · refine ⟨?_, fun h => ?_⟩
                · simp only
                  rw [h1, pU_kept _ g1, rdU_kept _ g1]
                  simp only
                  rw [pU_kept _ g1, rdU_kept _ g1]
                · simp only at h
                  rw [rdU_kept _ g1] at h
                  simp only at h
                  rw [rdU_kept _ g1] at h
                  exact absurd h g1
            · rw [if_neg y5, if_neg y5]
              exact ⟨rfl, fun h => absurd h (by simp)⟩
/-- How many constants there are, both ways. -/
theorem cnt_rd (b : List Int) : (cntP b).2.2 = cntZ b ∧ (cntZ b = 0 → cntP b = ((tU b).1, (tU b).2.1, 0) ∧ (tU b).1 ≤ 4096) ∧ (¬ cntZ b = 0 → (cntP b).1 = 0) := by
  obtain ⟨h0, h1, h2⟩ := pU_rd b 0
  have e1 : rdU b 0 = tU b := by unfold rdU; rw [if_pos rfl]
  rw [e1] at h0 h1 h2
  unfold cntP cntZ
  by_cases h : (tU b).2.2 = 0
  · rw [h2 h]
    by_cases h4 : 4096 < (tU b).1
    · rw [if_pos ⟨h, h4⟩, if_pos ⟨h, h4⟩]
      exact ⟨rfl, fun h => absurd h (by simp), fun _ => rfl⟩
    · rw [if_neg (fun h => h4 h.2), if_neg (fun h => h4 h.2)]
      refine ⟨rfl, fun _ => ⟨?_, by omega⟩, fun h3 => absurd h h3⟩
      rw [← h]
  · rw [if_neg (fun h3 => h (h1.symm.trans h3.1)), if_neg (fun h3 => h h3.1)]
    exact ⟨h1, fun h3 => absurd h3 h, fun _ => by rw [h0]; exact (tU_err h).1⟩
end Go.Proofs.YtecgldkhjgcffaaDoor
