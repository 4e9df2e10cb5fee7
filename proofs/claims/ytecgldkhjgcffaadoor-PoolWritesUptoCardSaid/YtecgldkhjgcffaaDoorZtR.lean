/- Several texts of this proof, one behind the other. -/
import Derived.Test.YtecgldkhjgcffaaDoorZtN
import Derived.Test.YtecgldkhjgcffaaDoorZtD
import Derived.Test.YtecgldkhjgcffaaDoorZtE
import Derived.Test.YtecgldkhjgcffaaDoorZtK
/- A reader of bytes: the document's, walked: numbers. -/
namespace Go.Proofs.YtecgldkhjgcffaaDoor
open Go.RowKit
set_option linter.unusedVariables false

/-- A reader in block g: what is left, and the first error. -/
def Rdr (T : TypeId) (w : World) (g : Nat) (l : List Int) (e : Int) : Prop :=
  ∃ v, w.heap[g]? = some (.cells #[v, .int .i64 e] T (0, 0)) ∧ Row w .u8 v l ∧ Typed 5 w v l

theorem Rdr.lt {T : TypeId} {w : World} {g : Nat} {l : List Int} {e : Int} (h : Rdr T w g l e) : g < w.heap.size := by
  obtain ⟨v, hg, _⟩ := h
  exact lt_of_get hg
theorem Rdr.cells {T : TypeId} {w : World} {g : Nat} {l : List Int} {e : Int} (h : Rdr T w g l e) :
    ∃ A c, l.length ≤ c ∧ c ≤ maxLen ∧ Row w .u8 (.slice A l.length c) l ∧ w.heap[g]? = some (.cells #[.slice A l.length c, .int .i64 e] T (0, 0)) ∧
      w.cell? ⟨g, 0, none⟩ = some (.slice A l.length c) ∧ w.cell? ⟨g, 1, none⟩ = some (.int .i64 e) ∧ (∀ j, w.frozen? ⟨g, j, none⟩ = false) ∧ Hid (Typed 5 w (.slice A l.length c) l) := by
  obtain ⟨v, hg, hr, hy⟩ := h
  have hr' := hr
  obtain ⟨A, c, rfl, h2, h3, _⟩ := hr'
  exact ⟨A, c, h2, h3, hr, hg, by rw [cell_of_row w g 0 _ T (0, 0) hg]; rfl, by rw [cell_of_row w g 1 _ T (0, 0) hg]; rfl, fun j => by simp [World.frozen?, hg], hy⟩
/-- A row of bytes lies in no reader's block. -/
theorem row_set {T : TypeId} {w : World} {g : Nat} {A0 : Option Addr} {n0 c0 : Nat} {e0 : Int} {v : Value} {l : List Int} (hg : w.heap[g]? = some (.cells #[.slice A0 n0 c0, .int .i64 e0] T (0, 0))) (hv : Row w .u8 v l) (hy : Typed 5 w v l) {w' : World} (hw : w.grownBy w' (some g)) : Row w' .u8 v l ∧ Typed 5 w' v l := by
  obtain ⟨A, c, h1, h2, h3, h4, h5, h6⟩ := hv
  have key : ∀ b o, A = some ⟨b, o, none⟩ → 0 < l.length → (∀ j, j < l.length → w.cell? ⟨b, o + j, none⟩ = some (.int .u8 (gi l j))) → b ≠ g := by
    intro b o ha hl hc e
    subst e
    have h0 := hc 0 hl
    rw [Nat.add_zero, cell_of_row w b o _ T (0, 0) hg] at h0
    match o with
    | 0 => simp at h0
    | 1 => simp at h0
    | o + 2 => simp at h0
  refine ⟨⟨A, c, h1, h2, h3, h4, h5, fun hl => ?_⟩, fun hl => ?_⟩
  · obtain ⟨b, o, ha, hb, hc⟩ := h6 hl
    have hbg := key b o ha hl hc
    have e := hw.block b hb (fun e => hbg (by injection e))
    exact ⟨b, o, ha, Nat.lt_of_lt_of_le hb hw.size, fun j hj => (World.cell?_of_block (w := w) (a := ⟨b, o + j, none⟩) e).trans (hc j hj)⟩
  · obtain ⟨b, o, ha, hb, hc⟩ := h6 hl
    have hbg := key b o ha hl hc
    obtain ⟨b1, o1, n1, c1, cur, e1, e2⟩ := hy hl
    rw [h1, ha] at e1
    injection e1 with e1
    injection e1 with e1
    injection e1 with e1 e3
    subst e1
    exact ⟨b, o, _, _, cur, by rw [h1, ha], (hw.block b hb (fun e => hbg (by injection e))).trans e2⟩
/-- Both cells are written anew. -/
theorem Rdr.both {T : TypeId} {w : World} {g : Nat} {A0 : Option Addr} {n0 c0 : Nat} {e0 e : Int} {v : Value} {l : List Int} (hg : w.heap[g]? = some (.cells #[.slice A0 n0 c0, .int .i64 e0] T (0, 0))) (hv : Row w .u8 v l) (hy : Hid (Typed 5 w v l)) :
    Rdr T ((w.setCell ⟨g, 1, none⟩ (.int .i64 e)).setCell ⟨g, 0, none⟩ v) g l e := by
  have h1 := heap_setCell_same w g 1 _ T (.int .i64 e) hg
  have h2 := heap_setCell_same (w.setCell ⟨g, 1, none⟩ (.int .i64 e)) g 0 _ T v h1
  exact ⟨v, by rw [h2]; rfl, row_set hg hv hy.out (only_set (only_set (World.grownBy.refl w (some g)) 1 _) 0 _)⟩
/-- The error is written anew. -/
theorem Rdr.err {T : TypeId} {w : World} {g : Nat} {A0 : Option Addr} {n0 c0 : Nat} {e0 e : Int} {l : List Int} (hg : w.heap[g]? = some (.cells #[.slice A0 n0 c0, .int .i64 e0] T (0, 0))) (hv : Row w .u8 (.slice A0 n0 c0) l) (hy : Hid (Typed 5 w (.slice A0 n0 c0) l)) :
    Rdr T (w.setCell ⟨g, 1, none⟩ (.int .i64 e)) g l e := by
  have h1 := heap_setCell_same w g 1 _ T (.int .i64 e) hg
  exact ⟨_, by rw [h1]; rfl, row_set hg hv hy.out (only_set (World.grownBy.refl w (some g)) 1 _)⟩
/-- What is left is written anew. -/
theorem Rdr.rest {T : TypeId} {w : World} {g : Nat} {A0 : Option Addr} {n0 c0 : Nat} {e0 : Int} {v : Value} {l : List Int} (hg : w.heap[g]? = some (.cells #[.slice A0 n0 c0, .int .i64 e0] T (0, 0))) (hv : Row w .u8 v l) (hy : Hid (Typed 5 w v l)) :
    Rdr T (w.setCell ⟨g, 0, none⟩ v) g l e0 := by
  have h1 := heap_setCell_same w g 0 _ T v hg
  exact ⟨_, by rw [h1]; rfl, row_set hg hv hy.out (only_set (World.grownBy.refl w (some g)) 0 _)⟩

/-- What taking a number off leaves: the number, what is left, the first error. -/
def rdU (l : List Int) (e : Int) : Int × List Int × Int := if e = 0 then tU l else (0, l, e)
def rdS (l : List Int) (e : Int) : Int × List Int × Int := if e = 0 then tS 10 2 l else (0, l, e)
/-- What a call of a reader's method leaves. -/
def RdrRet (T : TypeId) (w : World) (g : Nat) (v : Value) (l : List Int) (e : Int) (x : Ending) (w' : World) : Prop := x = .returned v ∧ Rdr T w' g l e ∧ w.grownBy w' (some g)
theorem grown_ext {w w' : World} (h : Ext w w') (g : Option Nat) : w.grownBy w' g := ⟨h.os, h.tape, h.output, h.size, fun i hi _ => h.block i hi⟩
theorem rdr_grown {T : TypeId} {w : World} {g : Nat} {l : List Int} {e : Int} {w' : World} (h : Rdr T w g l e) (hx : Ext w w') : Rdr T w' g l e := by
  obtain ⟨v, hg, hr, hy⟩ := h
  exact ⟨v, (hx.block g (lt_of_get hg)).trans hg, hr.ext hx, hy.ext hx⟩

set_option maxHeartbeats 1000000 in
theorem refRdrU (g : Nat) (l : List Int) (e : Int) (w : World) (h : Rdr 64 w g l e) (hl : l.length ≤ 140737488355328) :
    Calls Tryd.prog 33 #[.pointer (some ⟨g, 0, none⟩)] w (RdrRet 64 w g (.int .i64 (rdU l e).1) (rdU l e).2.1 (rdU l e).2.2) := by
  have hlt := h.lt
  obtain ⟨A, c, hc1, hc2, hrow, hg, a0, a1, hf, hty⟩ := h.cells
  have f0 := hf 0
  have f1 := hf 1
  clear hf
  unfold maxLen at hc2
  by_cases he : e = 0
  · subst he
    have e1 : rdU l 0 = tU l := by unfold rdU; rw [if_pos rfl]
    rw [e1]
    have HG := Lib.hid hg
    have HH := Lib.hid h
    clear e1 hg h
    go_enter Tryd.func33, Tryd.ntmps33
    go_wp2_with fail
    refine (refTakeU_any _ l _ (by exact hrow) hl).mono ?_
    rintro x w1 ⟨v1, rfl, ⟨b1, rfl, ho1⟩, he1⟩
    obtain ⟨A1, c1, hb1, _⟩ := ho1.row
    subst hb1
    have g1 := (he1.block g hlt).trans HG.out
    have y0 := (he1.cell (p := ⟨g, 0, none⟩) hlt).trans a0
    have y1 := (he1.cell (p := ⟨g, 1, none⟩) hlt).trans a1
    have z0 : w1.frozen? ⟨g, 0, none⟩ = false := by simp [World.frozen?, g1]
    have z1 : w1.frozen? ⟨g, 1, none⟩ = false := by simp [World.frozen?, g1]
    have R := Lib.hid (Rdr.both (e := (tU l).2.2) g1 ho1.row ho1.typed)
    have X : Hid (w.grownBy ((w1.setCell ⟨g, 1, none⟩ (.int .i64 (tU l).2.2)).setCell ⟨g, 0, none⟩ (.slice A1 (tU l).2.1.length c1)) (some g)) := only_set (only_set (grown_ext he1 _) 1 _) 0 _
    clear g1 ho1 he1 a0 a1 f0 f1
    go_wp2
    go_ret
    exact ⟨rfl, R.out, X.out⟩
  · have e1 : rdU l e = (0, l, e) := by unfold rdU; rw [if_neg he]
    rw [e1]
    have hb : (e != 0) = true := by simpa using he
    have HH := Lib.hid h
    clear e1 hg h hrow
    go_enter Tryd.func33, Tryd.ntmps33
    go_wp2
    go_ret
    exact ⟨rfl, HH.out, World.grownBy.refl _ _⟩

set_option maxHeartbeats 1000000 in
theorem refRdrS (g : Nat) (l : List Int) (e : Int) (w : World) (h : Rdr 64 w g l e) (hl : l.length ≤ 140737488355328) :
    Calls Tryd.prog 60 #[.pointer (some ⟨g, 0, none⟩)] w (RdrRet 64 w g (.int .i64 (rdS l e).1) (rdS l e).2.1 (rdS l e).2.2) := by
  have hlt := h.lt
  obtain ⟨A, c, hc1, hc2, hrow, hg, a0, a1, hf, hty⟩ := h.cells
  have f0 := hf 0
  have f1 := hf 1
  clear hf
  unfold maxLen at hc2
  by_cases he : e = 0
  · subst he
    have e1 : rdS l 0 = tS 10 2 l := by unfold rdS; rw [if_pos rfl]
    rw [e1]
    have HG := Lib.hid hg
    have HH := Lib.hid h
    clear e1 hg h
    go_enter Tryd.func60, Tryd.ntmps60
    go_wp2_with fail
    refine (refTakeS_any _ l _ (by exact hrow) hl).mono ?_
    rintro x w1 ⟨v1, rfl, ⟨b1, rfl, ho1⟩, he1⟩
    obtain ⟨A1, c1, hb1, _⟩ := ho1.row
    subst hb1
    have g1 := (he1.block g hlt).trans HG.out
    have y0 := (he1.cell (p := ⟨g, 0, none⟩) hlt).trans a0
    have y1 := (he1.cell (p := ⟨g, 1, none⟩) hlt).trans a1
    have z0 : w1.frozen? ⟨g, 0, none⟩ = false := by simp [World.frozen?, g1]
    have z1 : w1.frozen? ⟨g, 1, none⟩ = false := by simp [World.frozen?, g1]
    have R := Lib.hid (Rdr.both (e := (tS 10 2 l).2.2) g1 ho1.row ho1.typed)
    have X : Hid (w.grownBy ((w1.setCell ⟨g, 1, none⟩ (.int .i64 (tS 10 2 l).2.2)).setCell ⟨g, 0, none⟩ (.slice A1 (tS 10 2 l).2.1.length c1)) (some g)) := only_set (only_set (grown_ext he1 _) 1 _) 0 _
    clear g1 ho1 he1 a0 a1 f0 f1
    go_wp2
    go_ret
    exact ⟨rfl, R.out, X.out⟩
  · have e1 : rdS l e = (0, l, e) := by unfold rdS; rw [if_neg he]
    rw [e1]
    have hb : (e != 0) = true := by simpa using he
    have HH := Lib.hid h
    clear e1 hg h hrow
    go_enter Tryd.func60, Tryd.ntmps60
    go_wp2
    go_ret
    exact ⟨rfl, HH.out, World.grownBy.refl _ _⟩
end Go.Proofs.YtecgldkhjgcffaaDoor
/- A reader of bytes: the document's, walked: texts. -/
namespace Go.Proofs.YtecgldkhjgcffaaDoor
open Go.RowKit
set_option linter.unusedVariables false

/-- What decoding leaves: the text, and the error. -/
def decT (p : List Int) : ByteArray × Int := if stop p = p.length then (⟨(utf (chs p)).toArray⟩, 0) else (.empty, 20)
/-- What taking a text off leaves: the text, what is left, the first error. -/
def rdT (l : List Int) (e : Int) : ByteArray × List Int × Int :=
  if ¬ (rdU l e).2.2 = 0 then (.empty, (rdU l e).2.1, (rdU l e).2.2)
  else if ((rdU l e).2.1.length : Int) < (rdU l e).1 then (.empty, (rdU l e).2.1, 3)
  else ((decT ((rdU l e).2.1.take (rdU l e).1.toNat)).1, (rdU l e).2.1.drop (rdU l e).1.toNat, (decT ((rdU l e).2.1.take (rdU l e).1.toNat)).2)
theorem tU_pos {l : List Int} (h : (tU l).2.2 = 0) : 0 ≤ (tU l).1 ∧ (tU l).1 ≤ 9007199254740991 := by
  have h1 := (tU_ok h).1
  unfold uS at h1
  by_cases hc : (tU l).1 < 0 ∨ 9007199254740991 < (tU l).1
  · rw [if_pos hc] at h1
    have := congrArg Prod.snd h1
    simp at this
  · omega
theorem tU_len (l : List Int) : (tU l).2.1.length ≤ l.length := by
  by_cases h : (tU l).2.2 = 0
  · have := congrArg List.length (tU_ok h).2
    rw [List.length_append] at this
    omega
  · rw [(tU_err h).2]
    simp
theorem rdU_len (l : List Int) (e : Int) : (rdU l e).2.1.length ≤ l.length := by
  unfold rdU
  split
  · exact tU_len l
  · exact Nat.le_refl _
theorem rdU_pos {l : List Int} {e : Int} (h : (rdU l e).2.2 = 0) : 0 ≤ (rdU l e).1 ∧ (rdU l e).1 ≤ 9007199254740991 := by
  unfold rdU at h ⊢
  split
  · rename_i h0
    rw [if_pos h0] at h
    exact tU_pos h
  · exact ⟨Int.le_refl _, by simp⟩

set_option maxRecDepth 100000 in
set_option maxHeartbeats 2000000 in
theorem refRdrT (g : Nat) (l : List Int) (e : Int) (w : World) (h : Rdr 64 w g l e) (hl : l.length + 4 ≤ 140737488355328) :
    Calls Tryd.prog 59 #[.pointer (some ⟨g, 0, none⟩)] w (RdrRet 64 w g (.string (rdT l e).1) (rdT l e).2.1 (rdT l e).2.2) := by
  have hE := Lib.hid (show rdT l e = rdT l e from rfl)
  unfold rdT
  have hlen := rdU_len l e
  have hpos := rdU_pos (l := l) (e := e)
  have c1 := refRdrU g l e w h (by omega)
  obtain ⟨r, hr⟩ : ∃ r, r = rdU l e := ⟨_, rfl⟩
  rw [← hr] at hlen hpos c1 ⊢
  obtain ⟨n, l1, e1⟩ := r
  simp only at hlen hpos c1 ⊢
  clear hr hE
  have C1 := Lib.hid c1
  clear c1
  by_cases he : e1 = 0
  · subst he
    obtain ⟨hn0, hn1⟩ := hpos rfl
    rw [if_neg (by simp)]
    by_cases hbig : (l1.length : Int) < n
    · rw [if_pos hbig]
      clear hpos
      go_enter Tryd.func59, Tryd.ntmps59
      go_wp2_with fail
      refine C1.out.mono ?_
      rintro x w1 ⟨rfl, hr1, hg1⟩
      obtain ⟨A, c, hc1, hc2, hrow, hg, a0, a1, hf, hty⟩ := hr1.cells
      have f1 := hf 1
      have R := Lib.hid (Rdr.err (e := 3) hg hrow hty)
      have X := Lib.hid (only_set hg1 1 (.int .i64 3))
      clear hf hr1 hg1 hrow hg
      go_wp2
      go_ret
      exact ⟨rfl, R.out, X.out⟩
    · rw [if_neg hbig]
      obtain ⟨q, rfl⟩ : ∃ q : Nat, n = q := ⟨n.toNat, by omega⟩
      rw [Int.toNat_natCast]
      have hq : q ≤ l1.length := by omega
      clear hpos
      go_enter Tryd.func59, Tryd.ntmps59
      go_wp2_with fail
      refine C1.out.mono ?_
      rintro x w1 ⟨rfl, hr1, hg1⟩
      have hlt := hr1.lt
      obtain ⟨A, c, hc1, hc2, hrow, hg, a0, a1, hf, hty⟩ := hr1.cells
      unfold maxLen at hc2
      obtain ⟨v3, r3, r3', hh⟩ := head_slice hrow q hq
      obtain ⟨v4, t4, t4', ht, hts⟩ := tail_sliceT hrow q hq
      have hyt := hts _ hty.out
      clear hts
      obtain ⟨A4, c4, hv4, _⟩ := id ht
      rw [List.length_drop] at hv4
      subst hv4
      have HG := Lib.hid hg
      have X := Lib.hid hg1
      clear hf hr1 hg1 hrow hg
      go_wp2_with fail
      refine (refDecode_any v3 (l1.take q) _ (by exact hh) (by rw [List.length_take]; omega)).mono ?_
      rintro x w2 ⟨v5, rfl, hd, he2⟩
      have g2 := (he2.block g hlt).trans HG.out
      have y0 := (he2.cell (p := ⟨g, 0, none⟩) hlt).trans a0
      have y1 := (he2.cell (p := ⟨g, 1, none⟩) hlt).trans a1
      have z0 : w2.frozen? ⟨g, 0, none⟩ = false := by simp [World.frozen?, g2]
      have z1 : w2.frozen? ⟨g, 1, none⟩ = false := by simp [World.frozen?, g2]
      have ht2 := ht.ext he2
      have hy2 := Lib.hid (hyt.out.ext he2)
      have X2 := Lib.hid (show w.grownBy w2 (some g) from ⟨he2.os.trans X.out.os, he2.tape.trans X.out.tape, he2.output.trans X.out.output, Nat.le_trans X.out.size he2.size, fun i hi hne => (he2.block i (Nat.lt_of_lt_of_le hi X.out.size)).trans (X.out.block i hi hne)⟩)
      rcases hd with ⟨hs, rfl⟩ | ⟨hs, rfl⟩
      · have hD := Lib.hid (show decT (l1.take q) = (⟨(utf (chs (l1.take q))).toArray⟩, 0) by rw [decT, if_pos hs])
        have R := Lib.hid (Rdr.both (e := 0) g2 ht2 hy2)
        have X3 := Lib.hid (only_set (only_set X2.out 1 (.int .i64 0)) 0 (.slice A4 (l1.length - q) c4))
        clear g2 ht2 hs ht a0 a1 he2 hh
        go_wp2
        go_ret
        rw [hD.out]
        exact ⟨rfl, R.out, X3.out⟩
      · have hD := Lib.hid (show decT (l1.take q) = (.empty, 20) by rw [decT, if_neg (by omega)])
        have R := Lib.hid (Rdr.both (e := 20) g2 ht2 hy2)
        have X3 := Lib.hid (only_set (only_set X2.out 1 (.int .i64 20)) 0 (.slice A4 (l1.length - q) c4))
        clear g2 ht2 hs ht a0 a1 he2 hh
        go_wp2
        go_ret
        rw [hD.out]
        exact ⟨rfl, R.out, X3.out⟩
  · rw [if_pos he]
    have hb : (e1 != 0) = true := by simpa using he
    clear hpos he
    go_enter Tryd.func59, Tryd.ntmps59
    go_wp2_with fail
    refine C1.out.mono ?_
    rintro x w1 ⟨rfl, hr1, hg1⟩
    obtain ⟨A, c, hc1, hc2, hrow, hg, a0, a1, hf, hty⟩ := hr1.cells
    have R := Lib.hid hr1
    have X := Lib.hid hg1
    clear hf hr1 hg1 hrow hg
    go_wp2
    go_ret
    exact ⟨rfl, R.out, X.out⟩
end Go.Proofs.YtecgldkhjgcffaaDoor
