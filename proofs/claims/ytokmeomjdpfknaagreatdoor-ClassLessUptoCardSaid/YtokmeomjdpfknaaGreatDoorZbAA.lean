/- Several texts of this proof, one behind the other. -/
import Derived.Test.YtokmeomjdpfknaaGreatDoorZbK
import Derived.Test.YtokmeomjdpfknaaGreatDoorZbZ
import Derived.Test.YtokmeomjdpfknaaGreatDoorZbF
import Derived.LoopN
import Derived.Test.YtokmeomjdpfknaaGreatDoorZbN
import Derived.Test.YtokmeomjdpfknaaGreatDoorZbM
namespace Go.Proofs.YtokmeomjdpfknaaGreatDoor
open Go.RowKit
set_option linter.unusedVariables false

def DecAns (B : Nat) (r : In × Int × Int) (v : Value) (w' : World) : Prop :=
  ∃ v1 v2, v = .tuple #[.agg (r.1.vals v1 v2), .int .i64 r.2.1, .int .i64 r.2.2] ∧ Own B w' 3 .i64 v1 r.1.to ∧ Own B w' 3 .i64 v2 r.1.ks
theorem res6 {w W : World} {a b c d e f : Value} {T : TypeId} (x : Ext (w.alloc (.cells #[a, b, c, d, e, f] T)) W) : W.heap[w.heap.size]? = some (.cells #[a, b, c, d, e, f] T (0, 0)) ∧
    W.cell? ⟨w.heap.size, 0, none⟩ = some a ∧ W.cell? ⟨w.heap.size, 1, none⟩ = some b ∧ W.cell? ⟨w.heap.size, 2, none⟩ = some c ∧ W.cell? ⟨w.heap.size, 3, none⟩ = some d ∧ W.cell? ⟨w.heap.size, 4, none⟩ = some e ∧ W.cell? ⟨w.heap.size, 5, none⟩ = some f := by
  have h := (x.block w.heap.size (by simp)).trans (heap_alloc_new w (.cells #[a, b, c, d, e, f] T))
  exact ⟨h, room6 h (Ext.refl _)⟩
theorem res_free {w W : World} {cs : Array Value} {T : TypeId} (x : Ext (w.alloc (.cells cs T)) W) (j : Nat) : W.frozen? ⟨w.heap.size, j, none⟩ = false := by
  have h := (x.block w.heap.size (by simp)).trans (heap_alloc_new w (.cells cs T))
  simp [World.frozen?, h]
theorem pr_new (w : World) (L : Obj) (V : Value) (k : Int) : PR ((w.alloc L).alloc (.cells #[V, .int .i64 k, .bool false] 273)) (w.heap.size + 1) V k false := by
  have h := heap_alloc_new (w.alloc L) (.cells #[V, .int .i64 k, .bool false] 273)
  rwa [show (w.alloc L).heap.size = w.heap.size + 1 by simp] at h
theorem PR.kept {w W : World} {g c : Nat} {v : Value} {a : Int} {en : Bool} (h : PR w g v a en) (hg : w.grownBy W (some c)) (hne : some g ≠ some c) : PR W g v a en := (hg.block g (lt_of_get h) hne).trans h
theorem dec_some {a o : Int} {l r : List Int} {x : In} (h : insM true a o (l, false) = (x, r, false)) : body a o l = some (x, r) := by
  have hb := insM_body (st := true) (a := a) (o := o) (l := l)
  cases hy : body a o l with
  | none => rw [hy, h] at hb; cases hb
  | some y =>
    rw [hy] at hb
    simp only at hb
    rw [h] at hb
    injection hb with e1 e2
    injection e2 with e2 e3
    rw [e1, e2]
theorem dec_none {a o : Int} {l r : List Int} {x : In} (h : insM true a o (l, false) = (x, r, true)) : body a o l = none := by
  have hb := insM_body (st := true) (a := a) (o := o) (l := l)
  cases hy : body a o l with
  | none => rfl
  | some y =>
    rw [hy] at hb
    simp only at hb
    rw [h] at hb
    injection hb with e1 e2
    injection e2 with e2 e3
    cases e3
theorem drew_cell (w : World) (a : Addr) : w.drew.cell? a = w.cell? a := rfl
theorem drew_ext (w : World) : Ext w w.drew := (Ext.refl w).drew
set_option maxRecDepth 100000 in
set_option maxHeartbeats 2000000 in
theorem Decode_out (v : Value) (l : List Int) (k : Int) (w : World) (h : Row w .u8 v l) (hk : k < 0 ∨ (l.length : Int) ≤ k ∨ 8192 ≤ k) :
    Calls Tryz.prog 234 #[v, .int .i64 k] w (Ret w (DecAns w.heap.size (i0, 0, 9))) := by
  obtain ⟨A, c, rfl, -⟩ := h
  have hc : k < 0 ∨ (¬ k < 0 ∧ (l.length : Int) ≤ k) ∨ (¬ k < 0 ∧ ¬ (l.length : Int) ≤ k ∧ 8192 ≤ k) := by omega
  clear hk
  rcases hc with hc | ⟨hc, hd⟩ | ⟨hc, hd, he⟩
  all_goals
    go_enter Tryz.func234, Tryz.ntmps234
    go_wp2
    refine bodyPost_ret (v := .tuple #[.agg #[.int .i64 0, .int .i64 0, .int .i64 0, .int .i64 0, .slice none 0 0, .slice none 0 0], .int .i64 0, .int .i64 9]) (by simp [results, Tryz.results234, go_sem]) rfl ?_
    exact Ret.mk ⟨_, _, rfl, Own.nil _ _ _ _, Own.nil _ _ _ _⟩ ((Ext.refl w).alloc _)
theorem drop_at {l : List Int} {k : Nat} (h : k < l.length) : l.drop k = gi l k :: l.drop (k + 1) := by
  rw [List.drop_eq_getElem_cons h]
  simp [gi, h]
def decB (l : List Int) (m : Option (In × List Int)) : In × Int × Int := match m with
  | none => (i0, 0, 3)
  | some (x, r) => if mayI x = true then (x, (l.length : Int) - r.length, 0) else (i0, 0, 4)
theorem dec_at {l : List Int} {k : Nat} (h : k < l.length) (h2 : k < 8192) : opsDec l k = if 89 < gi l k then (i0, 0, 60) else decB l (body k (gi l k) (l.drop (k + 1))) := by
  unfold opsDec decB
  rw [if_neg (by omega), Int.toNat_natCast, drop_at h]
  simp only
  split
  · rfl
  · cases body k (gi l k) (l.drop (k + 1)) <;> rfl
set_option maxRecDepth 100000 in
set_option maxHeartbeats 4000000 in
theorem Decode_op (v : Value) (l : List Int) (k : Nat) (w : World) (h : Row w .u8 v l) (hk : k < l.length) (hk2 : k < 8192) (ho : 89 < gi l k) :
    Calls Tryz.prog 234 #[v, .int .i64 k] w (Ret w (DecAns w.heap.size (i0, 0, 60))) := by
  have H0 := Lib.hid h
  obtain ⟨A, c, rfl, hc, hm, -⟩ := h
  unfold maxLen at hm
  have hb := H0.out.fit.u8 (gi_mem hk)
  obtain ⟨b, o, rfl, hat⟩ := H0.out.all (by omega)
  have X0 := (Ext.refl w).alloc (.cells #[.int .i64 0, .int .i64 0, .int .i64 0, .int .i64 0, .slice none 0 0, .slice none 0 0] 182)
  have y0 := hat _ X0 k hk
  have hop : inOp (gi l k) = false := by unfold inOp; simp; omega
  have HO := Lib.hid hop
  have hk0 : ¬ ((k : Int) < 0) := by omega
  have hk3 : ¬ (8192 ≤ (k : Int)) := by omega
  obtain ⟨op, hop'⟩ : ∃ op, gi l k = op := ⟨_, rfl⟩
  rw [hop'] at y0 HO hb ho
  have hwo : IntKind.i64.wrap op = op := by rw [IntKind.wrap_i64]; omega
  clear hat hop hop'
  go_enter Tryz.func234, Tryz.ntmps234
  go_wp2_with fail
  refine (lineOf_any _ _).mono ?_
  rintro e w1 ⟨rfl, x1⟩
  rw [HO.out]
  obtain ⟨-, c0, c1, c2, c3, c4, c5⟩ := res6 (x1.alloc (.cells #[.string (nameZ op), .int .i64 (shapeZ op), .bool (endsZ op)] 261))
  have fz := res_free (x1.alloc (.cells #[.string (nameZ op), .int .i64 (shapeZ op), .bool (endsZ op)] 261))
  go_wp2
  refine bodyPost_ret (v := .tuple #[.agg #[.int .i64 0, .int .i64 0, .int .i64 0, .int .i64 0, .slice none 0 0, .slice none 0 0], .int .i64 0, .int .i64 60]) (by simp [results, Tryz.results234, go_sem, c0, c1, c2, c3, c4, c5]) rfl ?_
  refine Ret.mk ⟨_, _, rfl, Own.nil _ _ _ _, Own.nil _ _ _ _⟩ ?_
  exact (X0.trans (x1.alloc _)).grown (six_set _ _ _ _ _ _ _) (fun g hg => by injection hg with hg; omega)
set_option maxRecDepth 100000 in
set_option maxHeartbeats 2000000 in
theorem Decode_in (v : Value) (l : List Int) (k : Nat) (w : World) (h : Row w .u8 v l) (hk : k < l.length) (hk2 : k < 8192) (ho : gi l k ≤ 89) :
    Calls Tryz.prog 234 #[v, .int .i64 k] w (Ret w (DecAns w.heap.size (opsDec l k))) := by
  rw [dec_at hk hk2, if_neg (by omega)]
  have H0 := Lib.hid h
  obtain ⟨A, c, rfl, hc, hm, -⟩ := h
  unfold maxLen at hm
  have hb := H0.out.fit.u8 (gi_mem hk)
  obtain ⟨b, o, rfl, hat⟩ := H0.out.all (by omega)
  have X0 := (Ext.refl w).alloc (.cells #[.int .i64 0, .int .i64 0, .int .i64 0, .int .i64 0, .slice none 0 0, .slice none 0 0] 182)
  have y0 := hat _ X0 k hk
  have hop : inOp (gi l k) = true := by unfold inOp; simp; omega
  have HO := Lib.hid hop
  have hk0 : ¬ ((k : Int) < 0) := by omega
  have hk3 : ¬ (8192 ≤ (k : Int)) := by omega
  have hw1 : IntKind.i64.wrap ((k : Int) + 1) = k + 1 := by rw [IntKind.wrap_i64]; omega
  obtain ⟨op, hop'⟩ : ∃ op, gi l k = op := ⟨_, rfl⟩
  rw [hop'] at y0 HO hb ho ⊢
  have hwo : IntKind.i64.wrap op = op := by rw [IntKind.wrap_i64]; omega
  have hcap : k + 1 < c ∨ k + 1 = c := by omega
  obtain ⟨q, hq⟩ : ∃ q, l.drop (k + 1) = q := ⟨_, rfl⟩
  have hql : q.length = l.length - (k + 1) := by rw [← hq, List.length_drop]
  rw [hq]
  have ht : (k + 1 < c ∧ Row w .u8 (.slice (some ⟨b, o + (k + 1), none⟩) (l.length - (k + 1)) (c - (k + 1))) q) ∨ (k + 1 = c ∧ Row w .u8 (.slice (some ⟨b, o, none⟩) 0 0) q) := by
    rcases hcap with hcap | hcap
    · exact .inl ⟨hcap, hq ▸ H0.out.tail (k + 1) (by omega)⟩
    · refine .inr ⟨hcap, ?_⟩
      have : q = [] := List.eq_nil_of_length_eq_zero (by omega)
      rw [this]
      exact Row.none_ _ _ _
  clear hat hop hop' hcap
  rcases ht with ⟨hcap, ht⟩ | ⟨hcap, ht⟩
  all_goals
    have HT := Lib.hid ht
    clear ht
    go_enter Tryz.func234, Tryz.ntmps234
    go_wp2_with fail
    refine (lineOf_any _ _).mono ?_
    rintro e w1 ⟨rfl, x1⟩
    rw [HO.out]
    go_wp2_with fail
    have hi := ins_any (w1.alloc (.cells #[.string (nameZ op), .int .i64 (shapeZ op), .bool (endsZ op)] 261)) _ (w1.heap.size + 1) _ k op (q, false) (pr_new w1 _ _ k) (HT.out.ext (X0.trans (x1.alloc _))) ((Ext.refl _).alloc _) (by simp) ⟨by omega, by omega⟩
    obtain ⟨X, hX⟩ : ∃ X, insM true k op (q, false) = X := ⟨_, rfl⟩
    rw [hX] at hi
    have HX := Lib.hid hX
    clear hX
    refine hi.mono ?_
    rintro e w2 ⟨u1, u2, v3, rfl, o1, o2, hp2, hr2, x2⟩
    obtain ⟨A1, n1, k1, rfl⟩ := o1.slice
    obtain ⟨A2, n2, k2, rfl⟩ := o2.slice
    have X2 := (x1.alloc _).trans x2
    obtain ⟨hres, c0, c1, c2, c3, c4, c5⟩ := res6 X2
    have fz := res_free X2
    obtain ⟨p0, p1, p2, -, -, -⟩ := hp2.cells
    have hle := x1.size
    have hne : w.heap.size ≠ w1.heap.size + 1 := by simp at hle; omega
    have hne' : w1.heap.size + 1 ≠ w.heap.size := fun e => hne e.symm
    have hs6 := six_set (W := w2) w.heap.size (.int .i64 X.1.a) (.int .i64 X.1.o) (.int .i64 X.1.n) (.int .i64 X.1.m) (.slice A1 n1 k1) (.slice A2 n2 k2)
    have o1' := (o1.kept hs6 (fun g hg e => by injection e with e; subst e; exact own_ne o1 hres (by decide) hg)).base (show w.heap.size ≤ _ by simp at hle ⊢; omega)
    have o2' := (o2.kept hs6 (fun g hg e => by injection e with e; subst e; exact own_ne o2 hres (by decide) hg)).base (show w.heap.size ≤ _ by simp at hle ⊢; omega)
    have hx3 := six_xp (y := i0) (u1 := .slice none 0 0) (u2 := .slice none 0 0) hres X.1 (.slice A1 n1 k1) (.slice A2 n2 k2)
    have hp3 := hp2.kept hs6 (fun e => by injection e with e; exact hne' e)
    have X3 : Ext w _ := (X0.trans X2).grown hs6 (fun g hg => by injection hg with hg; omega)
    unfold In.vals
    obtain ⟨⟨xa, xo, xn, xm, xt, xk⟩, qr, en⟩ := X
    simp only at o1 o2 hp2 hr2 p0 p1 p2 o1' o2' hx3 hp3 X3 ⊢
    cases en
    · have HBO := Lib.hid (dec_some HX.out)
      go_wp2_with fail
      obtain ⟨W3, hW3⟩ : ∃ W3, W3 = (((((w2.setCell ⟨w.heap.size, 0, none⟩ (.int .i64 xa)).setCell ⟨w.heap.size, 1, none⟩ (.int .i64 xo)).setCell ⟨w.heap.size, 2, none⟩ (.int .i64 xn)).setCell ⟨w.heap.size, 3, none⟩ (.int .i64 xm)).setCell ⟨w.heap.size, 4, none⟩ (.slice A1 n1 k1)).setCell ⟨w.heap.size, 5, none⟩ (.slice A2 n2 k2) := ⟨_, rfl⟩
      rw [← hW3] at o1' o2' hx3 hp3 X3 ⊢
      clear hW3 hs6 hp2 p0 p1 p2 c0 c1 c2 c3 c4 c5 fz hres o1 o2
      have hmb := mayBe_any ⟨xa, xo, xn, xm, xt, xk⟩ _ _ W3 o1'.row o2'.row
      unfold In.vals at hmb
      refine hmb.mono ?_
      rintro e w4 ⟨rfl, x4⟩
      obtain ⟨c0, c1, c2, c3, c4, c5⟩ := XP.cells (h := w.heap.size) (show XP w4 w.heap.size _ _ _ from (x4.block _ hx3.lt).trans hx3)
      have fz := XP.free (h := w.heap.size) (show XP w4 w.heap.size _ _ _ from (x4.block _ hx3.lt).trans hx3)
      obtain ⟨p0, p1, p2, -, -, -⟩ := (hp3.ext x4).cells
      simp only at c0 c1 c2 c3
      by_cases hm : mayI ⟨xa, xo, xn, xm, xt, xk⟩ = true
      · have HD := Lib.hid (show decB l (some (⟨xa, xo, xn, xm, xt, xk⟩, qr)) = (⟨xa, xo, xn, xm, xt, xk⟩, (l.length : Int) - qr.length, 0) by unfold decB; simp [hm])
        rw [hm]
        clear hm
        obtain ⟨A3, k3, rfl, h30, h31, -⟩ := hr2
        unfold maxLen at h31
        have hsub : IntKind.i64.wrap ((l.length : Int) - qr.length) = l.length - qr.length := by rw [IntKind.wrap_i64]; omega
        have hxd : XP w4 w.heap.size ⟨xa, xo, xn, xm, xt, xk⟩ (.slice A1 n1 k1) (.slice A2 n2 k2) := (x4.block _ hx3.lt).trans hx3
        have hp5 := (PR.kept (W := (((((w4.setCell ⟨w.heap.size, 0, none⟩ (.int .i64 xa)).setCell ⟨w.heap.size, 1, none⟩ (.int .i64 xo)).setCell ⟨w.heap.size, 2, none⟩ (.int .i64 xn)).setCell ⟨w.heap.size, 3, none⟩ (.int .i64 xm)).setCell ⟨w.heap.size, 4, none⟩ (.slice A1 n1 k1)).setCell ⟨w.heap.size, 5, none⟩ (.slice A2 n2 k2)) (hp3.ext x4) (six_set _ _ _ _ _ _ _) (fun e => by injection e with e; exact hne' e)).cells.1
        have hs5 := six_set (W := w4) w.heap.size (.int .i64 xa) (.int .i64 xo) (.int .i64 xn) (.int .i64 xm) (.slice A1 n1 k1) (.slice A2 n2 k2)
        have o15 := (o1'.ext x4).kept hs5 (fun g hg e => by injection e with e; subst e; exact own_ne o1' hx3 (by decide) hg)
        have o25 := (o2'.ext x4).kept hs5 (fun g hg e => by injection e with e; subst e; exact own_ne o2' hx3 (by decide) hg)
        have X5 : Ext w _ := (X3.trans x4).grown hs5 (fun g hg => by injection hg with hg; omega)
        have hx5 := six_xp hxd ⟨xa, xo, xn, xm, xt, xk⟩ (.slice A1 n1 k1) (.slice A2 n2 k2)
        obtain ⟨e0, e1, e2, e3, e4, e5⟩ := hx5.cells
        simp only at e0 e1 e2 e3
        have E1 : (w4.drew.cell? ⟨w.heap.size, 0, none⟩ = some (.int .i64 xa) ∧ w4.drew.cell? ⟨w.heap.size, 1, none⟩ = some (.int .i64 xo) ∧ w4.drew.cell? ⟨w.heap.size, 2, none⟩ = some (.int .i64 xn) ∧ w4.drew.cell? ⟨w.heap.size, 3, none⟩ = some (.int .i64 xm) ∧ w4.drew.cell? ⟨w.heap.size, 4, none⟩ = some (.slice A1 n1 k1) ∧ w4.drew.cell? ⟨w.heap.size, 5, none⟩ = some (.slice A2 n2 k2) ∧ w4.drew.cell? ⟨w1.heap.size + 1, 0, none⟩ = some (.slice A3 qr.length k3)) := ⟨(drew_cell _ _).trans c0, (drew_cell _ _).trans c1, (drew_cell _ _).trans c2, (drew_cell _ _).trans c3, (drew_cell _ _).trans c4, (drew_cell _ _).trans c5, (drew_cell _ _).trans p0⟩
        have E2 : (((((((w4.setCell ⟨w.heap.size, 0, none⟩ (.int .i64 xa)).setCell ⟨w.heap.size, 1, none⟩ (.int .i64 xo)).setCell ⟨w.heap.size, 2, none⟩ (.int .i64 xn)).setCell ⟨w.heap.size, 3, none⟩ (.int .i64 xm)).setCell ⟨w.heap.size, 4, none⟩ (.slice A1 n1 k1)).setCell ⟨w.heap.size, 5, none⟩ (.slice A2 n2 k2)).drew.cell? ⟨w.heap.size, 0, none⟩ = some (.int .i64 xa) ∧ ((((((w4.setCell ⟨w.heap.size, 0, none⟩ (.int .i64 xa)).setCell ⟨w.heap.size, 1, none⟩ (.int .i64 xo)).setCell ⟨w.heap.size, 2, none⟩ (.int .i64 xn)).setCell ⟨w.heap.size, 3, none⟩ (.int .i64 xm)).setCell ⟨w.heap.size, 4, none⟩ (.slice A1 n1 k1)).setCell ⟨w.heap.size, 5, none⟩ (.slice A2 n2 k2)).drew.cell? ⟨w.heap.size, 1, none⟩ = some (.int .i64 xo) ∧ ((((((w4.setCell ⟨w.heap.size, 0, none⟩ (.int .i64 xa)).setCell ⟨w.heap.size, 1, none⟩ (.int .i64 xo)).setCell ⟨w.heap.size, 2, none⟩ (.int .i64 xn)).setCell ⟨w.heap.size, 3, none⟩ (.int .i64 xm)).setCell ⟨w.heap.size, 4, none⟩ (.slice A1 n1 k1)).setCell ⟨w.heap.size, 5, none⟩ (.slice A2 n2 k2)).drew.cell? ⟨w.heap.size, 2, none⟩ = some (.int .i64 xn) ∧ ((((((w4.setCell ⟨w.heap.size, 0, none⟩ (.int .i64 xa)).setCell ⟨w.heap.size, 1, none⟩ (.int .i64 xo)).setCell ⟨w.heap.size, 2, none⟩ (.int .i64 xn)).setCell ⟨w.heap.size, 3, none⟩ (.int .i64 xm)).setCell ⟨w.heap.size, 4, none⟩ (.slice A1 n1 k1)).setCell ⟨w.heap.size, 5, none⟩ (.slice A2 n2 k2)).drew.cell? ⟨w.heap.size, 3, none⟩ = some (.int .i64 xm) ∧ ((((((w4.setCell ⟨w.heap.size, 0, none⟩ (.int .i64 xa)).setCell ⟨w.heap.size, 1, none⟩ (.int .i64 xo)).setCell ⟨w.heap.size, 2, none⟩ (.int .i64 xn)).setCell ⟨w.heap.size, 3, none⟩ (.int .i64 xm)).setCell ⟨w.heap.size, 4, none⟩ (.slice A1 n1 k1)).setCell ⟨w.heap.size, 5, none⟩ (.slice A2 n2 k2)).drew.cell? ⟨w.heap.size, 4, none⟩ = some (.slice A1 n1 k1) ∧ ((((((w4.setCell ⟨w.heap.size, 0, none⟩ (.int .i64 xa)).setCell ⟨w.heap.size, 1, none⟩ (.int .i64 xo)).setCell ⟨w.heap.size, 2, none⟩ (.int .i64 xn)).setCell ⟨w.heap.size, 3, none⟩ (.int .i64 xm)).setCell ⟨w.heap.size, 4, none⟩ (.slice A1 n1 k1)).setCell ⟨w.heap.size, 5, none⟩ (.slice A2 n2 k2)).drew.cell? ⟨w.heap.size, 5, none⟩ = some (.slice A2 n2 k2) ∧ ((((((w4.setCell ⟨w.heap.size, 0, none⟩ (.int .i64 xa)).setCell ⟨w.heap.size, 1, none⟩ (.int .i64 xo)).setCell ⟨w.heap.size, 2, none⟩ (.int .i64 xn)).setCell ⟨w.heap.size, 3, none⟩ (.int .i64 xm)).setCell ⟨w.heap.size, 4, none⟩ (.slice A1 n1 k1)).setCell ⟨w.heap.size, 5, none⟩ (.slice A2 n2 k2)).drew.cell? ⟨w1.heap.size + 1, 0, none⟩ = some (.slice A3 qr.length k3)) := ⟨(drew_cell _ _).trans e0, (drew_cell _ _).trans e1, (drew_cell _ _).trans e2, (drew_cell _ _).trans e3, (drew_cell _ _).trans e4, (drew_cell _ _).trans e5, (drew_cell _ _).trans hp5⟩
        have F2 := drew_ext ((((((w4.setCell ⟨w.heap.size, 0, none⟩ (.int .i64 xa)).setCell ⟨w.heap.size, 1, none⟩ (.int .i64 xo)).setCell ⟨w.heap.size, 2, none⟩ (.int .i64 xn)).setCell ⟨w.heap.size, 3, none⟩ (.int .i64 xm)).setCell ⟨w.heap.size, 4, none⟩ (.slice A1 n1 k1)).setCell ⟨w.heap.size, 5, none⟩ (.slice A2 n2 k2))
        clear hmb hi
        go_wp2_with fail
        go_region_held3 (fun w' => w'.cell? ⟨w.heap.size, 0, none⟩ = some (.int .i64 xa) ∧ w'.cell? ⟨w.heap.size, 1, none⟩ = some (.int .i64 xo) ∧ w'.cell? ⟨w.heap.size, 2, none⟩ = some (.int .i64 xn) ∧ w'.cell? ⟨w.heap.size, 3, none⟩ = some (.int .i64 xm) ∧ w'.cell? ⟨w.heap.size, 4, none⟩ = some (.slice A1 n1 k1) ∧ w'.cell? ⟨w.heap.size, 5, none⟩ = some (.slice A2 n2 k2) ∧ w'.cell? ⟨w1.heap.size + 1, 0, none⟩ = some (.slice A3 qr.length k3)) (first | with_reducible exact E1 | with_reducible exact E2) (first | (fail))
        all_goals
          go_wp2
          refine bodyPost_ret (v := .tuple #[.agg #[.int .i64 xa, .int .i64 xo, .int .i64 xn, .int .i64 xm, .slice A1 n1 k1, .slice A2 n2 k2], .int .i64 ((l.length : Int) - qr.length), .int .i64 0]) (by simp [results, Tryz.results234, go_sem, e0, e1, e2, e3, e4, e5]) rfl ?_
          rw [HBO.out, HD.out]
          exact Ret.mk ⟨_, _, rfl, o15.ext F2, o25.ext F2⟩ (X5.trans F2)
      · have hm' : mayI ⟨xa, xo, xn, xm, xt, xk⟩ = false := by simpa using hm
        rw [hm']
        have HD := Lib.hid (show decB l (some (⟨xa, xo, xn, xm, xt, xk⟩, qr)) = (i0, 0, 4) by unfold decB; simp [hm'])
        clear hm hm'
        go_wp2
        refine bodyPost_ret (v := .tuple #[.agg #[.int .i64 0, .int .i64 0, .int .i64 0, .int .i64 0, .slice none 0 0, .slice none 0 0], .int .i64 0, .int .i64 4]) (by simp [results, Tryz.results234, go_sem, c0, c1, c2, c3, c4, c5]) rfl ?_
        rw [HBO.out, HD.out]
        refine Ret.mk ⟨_, _, rfl, Own.nil _ _ _ _, Own.nil _ _ _ _⟩ ?_
        exact (X3.trans x4).grown (six_set _ _ _ _ _ _ _) (fun g hg => by injection hg with hg; omega)
    · have HBO := Lib.hid (dec_none HX.out)
      go_wp2
      have hx4 := six_xp hx3 i0 (.slice none 0 0) (.slice none 0 0)
      obtain ⟨e0, e1, e2, e3, e4, e5⟩ := hx4.cells
      simp only [i0] at e0 e1 e2 e3 e4 e5
      refine bodyPost_ret (v := .tuple #[.agg #[.int .i64 0, .int .i64 0, .int .i64 0, .int .i64 0, .slice none 0 0, .slice none 0 0], .int .i64 0, .int .i64 3]) (by simp [results, Tryz.results234, go_sem, e0, e1, e2, e3, e4, e5]) rfl ?_
      rw [HBO.out]
      refine Ret.mk ⟨_, _, rfl, Own.nil _ _ _ _, Own.nil _ _ _ _⟩ ?_
      exact X3.grown (six_set _ _ _ _ _ _ _) (fun g hg => by injection hg with hg; omega)
theorem Decode_any (v : Value) (l : List Int) (k : Int) (w : World) (h : Row w .u8 v l) :
    Calls Tryz.prog 234 #[v, .int .i64 k] w (Ret w (DecAns w.heap.size (opsDec l k))) := by
  by_cases hk : k < 0 ∨ (l.length : Int) ≤ k ∨ 8192 ≤ k
  · rw [show opsDec l k = (i0, 0, 9) by unfold opsDec; rw [if_pos hk]]
    exact Decode_out v l k w h hk
  · obtain ⟨n, rfl⟩ : ∃ n : Nat, k = n := ⟨k.toNat, by omega⟩
    by_cases ho : 89 < gi l n
    · rw [dec_at (by omega) (by omega), if_pos ho]
      exact Decode_op v l n w h (by omega) (by omega) ho
    · exact Decode_in v l n w h (by omega) (by omega) (by omega)
end Go.Proofs.YtokmeomjdpfknaaGreatDoor
namespace Go.Proofs.YtokmeomjdpfknaaGreatDoor
open Go.RowKit
set_option linter.unusedVariables false

theorem two_at' (w : World) (A B : Obj) : ((w.alloc A).alloc B).heap[w.heap.size + 1]? = some B := by
  have h := heap_alloc_new (w.alloc A) B
  rwa [show (w.alloc A).heap.size = w.heap.size + 1 by simp] at h
end Go.Proofs.YtokmeomjdpfknaaGreatDoor
namespace Go.Proofs.YtokmeomjdpfknaaGreatDoor
open Go.RowKit
set_option linter.unusedVariables false

def CutAns (B : Nat) (r : List In × Int × Int) (v : Value) (w' : World) : Prop := ∃ u, v = .tuple #[u, .int .i64 r.2.1, .int .i64 r.2.2] ∧ OwnI B w' u r.1
theorem bytes_row {w : World} {v : Value} {b : List Int} (h : Row w .u8 v b) : Bytes b := fun c hc => h.fit.u8 hc
theorem CutAns.bad {w : World} {B : Nat} {R : List In × Int × Int} {k e : Int} (h : R = ([], k, e)) : CutAns B R (.tuple #[.slice none 0 0, .int .i64 k, .int .i64 e]) w := by
  subst h
  exact ⟨_, rfl, OwnI.nil _ _⟩
theorem CutAns.good {w : World} {B : Nat} {R : List In × Int × Int} {u : Value} {l : List In} (h : R = (l, 0, 0)) (ho : OwnI B w u l) : CutAns B R (.tuple #[u, .int .i64 0, .int .i64 0]) w := by
  subst h
  exact ⟨_, rfl, ho⟩
set_option maxRecDepth 100000 in
set_option maxHeartbeats 4000000 in
theorem decodeAll_any (v : Value) (b : List Int) (w : World) (h : Row w .u8 v b) (hl : b.length ≤ 8192) :
    Calls Tryz.prog 199 #[v] w (Ret w (CutAns w.heap.size (cutF b 0))) := by
  have H := Lib.hid h
  have HB := Lib.hid (bytes_row h)
  obtain ⟨A, c, rfl, hc, hm, -⟩ := h
  unfold maxLen at hm
  obtain ⟨R, hR⟩ : ∃ R, cutF b 0 = R := ⟨_, rfl⟩
  have HC : Hid (Come b R [] 0) := Lib.hid (hR ▸ Come.start b)
  rw [hR]
  clear hR
  obtain ⟨n, hn⟩ : ∃ n, n = b.length := ⟨_, rfl⟩
  rw [← hn] at hc hl H ⊢
  have Hn := Lib.hid hn
  clear hn
  go_enter Tryz.func199, Tryz.ntmps199
  go_wp2
  go_loopw [2, 3] (fun u i wr => ∃ (k : Nat) (acc : List In), i = .int .i64 k ∧ k ≤ n ∧ acc.length ≤ k ∧ Hid (OwnI w.heap.size wr u acc) ∧ Hid (Come b R acc k) ∧ Hid (Ext w wr)) (fun _ i _ => n - (intOf i).toNat)
  case atStart => exact ⟨0, [], rfl, by omega, by simp, Lib.hid (OwnI.nil _ _), HC, Lib.hid (Ext.refl w)⟩
  case round =>
    obtain ⟨k, acc, rfl, hk, hak, HO, HCk, HX⟩ := hrel
    by_cases hlt : k < n
    · have hd := Decode_any _ b k wr (H.out.ext HX.out)
      obtain ⟨D, hD⟩ : ∃ D, opsDec b k = D := ⟨_, rfl⟩
      rw [hD] at hd
      obtain ⟨x, j, er⟩ := D
      have HD := Lib.hid hd
      by_cases he : er = 0
      · subst he
        obtain ⟨i, hi1, hi2, hi3⟩ := dec_next HB.out (k := k) (by rw [hD])
        rw [hD] at hi1
        simp only at hi1
        subst hi1
        have HN := Lib.hid (HCk.out.next HB.out (by have := Hn.out; omega) hD)
        rw [← Hn.out] at hi3
        clear hd hD
        go_wp2_with fail
        refine HD.out.mono ?_
        rintro e w1 ⟨v', rfl, ⟨u1, u2, rfl, o1, o2⟩, x1⟩
        obtain ⟨B1, n1, c1, rfl⟩ := o1.slice
        obtain ⟨B2, n2, c2, rfl⟩ := o2.slice
        have O1 := Lib.hid o1
        have O2 := Lib.hid o2
        have X1 := Lib.hid x1
        have hsz := HX.out.size
        have hsz1 := x1.size
        clear o1 o2 x1
        unfold In.vals
        go_wp2_with (at_builtin; go_loud (refine wpList_appI _ rfl _ _ w.heap.size rfl _ acc rfl ((HO.out.ext X1.out).ext (((Ext.refl _).alloc _).alloc _)) (w1.heap.size + 1) x (.slice B1 n1 c1) (.slice B2 n2 c2) 182 rfl (two_at' _ _ _) ((O1.out.base hsz).ext (((Ext.refl _).alloc _).alloc _)) ((O2.out.base hsz).ext (((Ext.refl _).alloc _).alloc _)) (by omega) (by simp; omega) ?_); intro u' w2 ho2 hg2 _)
        have X2 := Lib.hid ((((HX.out.trans X1.out).alloc (.cells #[.int .i64 x.a, .int .i64 x.o, .int .i64 x.n, .int .i64 x.m, .slice B1 n1 c1, .slice B2 n2 c2] 182)).alloc (.cells #[.int .i64 x.a, .int .i64 x.o, .int .i64 x.n, .int .i64 x.m, .slice B1 n1 c1, .slice B2 n2 c2] 182)).grown hg2 (fun g hg => HO.out.low g hg))
        have HO2 := Lib.hid ho2
        clear ho2 hg2
        go_wp2_with fail
        go_roundw
        case rel => exact ⟨i, acc ++ [x], rfl, hi3, by simp; omega, HO2, HN, X2⟩
        case measure => simp [intOf]; omega
      · have HE := Lib.hid (HCk.out.bad (by have := Hn.out; omega) (by rw [hD]; exact he))
        rw [hD] at HE
        have hb : (er != 0) = true := by simpa using he
        clear hd hD
        go_wp2_with fail
        refine HD.out.mono ?_
        rintro e w1 ⟨v', rfl, ⟨u1, u2, rfl, o1, o2⟩, x1⟩
        obtain ⟨B1, n1, c1, rfl⟩ := o1.slice
        obtain ⟨B2, n2, c2, rfl⟩ := o2.slice
        have X1 := Lib.hid x1
        clear o1 o2 x1
        unfold In.vals
        go_wp2
        go_ret3
        exact Ret.mk (CutAns.bad HE.out) ((HX.out.trans X1.out).alloc _)
    · have HE := Lib.hid (HCk.out.end_ (by have := Hn.out; omega))
      go_wp2
      go_ret3
      exact Ret.mk (CutAns.good HE.out HO.out) HX.out
end Go.Proofs.YtokmeomjdpfknaaGreatDoor
namespace Go.Proofs.YtokmeomjdpfknaaGreatDoor
open Go.RowKit
set_option linter.unusedVariables false

def BG (w : World) (g : Nat) (l : List In) : Prop := ∃ C : Array Value, w.heap[g]? = some (.cells C 264 (0, 0)) ∧ C.size = 8192 ∧ ∀ j : Nat, j < 8192 → C[j]? = some (.bool (hasAt l j))
theorem BG.lt {w : World} {g : Nat} {l : List In} (h : BG w g l) : g < w.heap.size := by
  obtain ⟨C, h, -⟩ := h
  exact lt_of_get h
theorem BG.ext {w w' : World} {g : Nat} {l : List In} (h : BG w g l) (e : Ext w w') : BG w' g l := by
  obtain ⟨C, h1, h2⟩ := h
  exact ⟨C, (e.block g (lt_of_get h1)).trans h1, h2⟩
theorem BG.at {w : World} {g : Nat} {l : List In} (h : BG w g l) {p : Nat} (hp : p < 8192) : w.cell? ⟨g, p, none⟩ = some (.bool (hasAt l p)) ∧ w.frozen? ⟨g, p, none⟩ = false := by
  obtain ⟨C, h1, h2, h3⟩ := h
  refine ⟨?_, by simp [World.frozen?, h1]⟩
  rw [cell_of_row w g p C _ (0, 0) h1]
  exact h3 p hp
theorem BG.new (w : World) : BG (w.alloc (.cells Tryz.zeroCells264 264)) w.heap.size [] := by
  refine ⟨_, heap_alloc_new w _, Tryz.zeroCells264_size, fun j hj => ?_⟩
  rw [marks_at hj]
  rfl
theorem hasAt_one (l : List In) (x : In) (t : Int) : hasAt (l ++ [x]) t = (hasAt l t || decide (x.a = t)) := by simp [hasAt]
theorem BG.put {w : World} {g : Nat} {l : List In} (h : BG w g l) {p : Nat} (hp : p < 8192) {x : In} (hx : x.a = p) : BG (w.setCell ⟨g, p, none⟩ (.bool true)) g (l ++ [x]) := by
  obtain ⟨C, h1, h2, h3⟩ := h
  refine ⟨C.setIfInBounds p (.bool true), heap_setCell_same w g p C _ (.bool true) h1, by simpa using h2, fun j hj => ?_⟩
  rw [hasAt_one, hx]
  by_cases e : p = j
  · subst e
    rw [Array.getElem?_setIfInBounds_self_of_lt (by omega)]
    simp
  · rw [Array.getElem?_setIfInBounds_ne e, h3 j hj]
    have : ¬ (p : Int) = j := by omega
    simp [this]
theorem take_next {l : List In} {k : Nat} (h : k < l.length) : l.take (k + 1) = l.take k ++ [gn l k] := by
  rw [List.take_succ_eq_append_getElem h, gn_get h]
def Within (l : List In) : Prop := ∀ x ∈ l, 0 ≤ x.a ∧ x.a < 8192
set_option maxRecDepth 100000 in
set_option maxHeartbeats 4000000 in
theorem beginnings_any (v : Value) (l : List In) (w : World) (h : RowI w v l) (ha : Within l) :
    Calls Tryz.prog 206 #[v] w fun e w' => ∃ g, e = .returned (.func (.func 239) #[] #[.pointer (some ⟨g, 0, none⟩)]) ∧ BG w' g l ∧ w.heap.size ≤ g ∧ Ext w w' := by
  have H := Lib.hid h
  obtain ⟨A, c, rfl, hc, hm, -⟩ := h.cut
  unfold maxLen at hm
  obtain ⟨n, hn⟩ : ∃ n, n = l.length := ⟨_, rfl⟩
  rw [← hn] at hc H ⊢
  have Hn := Lib.hid hn
  have HA := Lib.hid ha
  clear hn h ha
  go_enter Tryz.func206, Tryz.ntmps206
  go_wp2
  go_loopw [8] (fun i wr => ∃ (k : Nat), i = .int .i64 k ∧ k ≤ n ∧ Hid (BG wr w.heap.size (l.take k)) ∧ Hid (Ext w wr)) (fun i _ => n - (intOf i).toNat)
  case atStart => exact ⟨0, rfl, by omega, Lib.hid (BG.new w), Lib.hid ((Ext.refl w).alloc _)⟩
  case round =>
    obtain ⟨k, rfl, hk, HP, HX⟩ := hrel
    by_cases hlt : k < n
    · have hkl : k < l.length := by have := Hn.out; omega
      obtain ⟨b, o, rfl, hat⟩ := H.out.at (by omega)
      obtain ⟨v1, v2, hat⟩ := hat k hkl
      obtain ⟨A1, c1, rfl, -⟩ := (hat _ HX.out).2.1
      obtain ⟨A2, c2, rfl, -⟩ := (hat _ HX.out).2.2
      obtain ⟨y0, y1, y2, y3, y4, y5⟩ := (hat _ HX.out).1
      have hw := HA.out _ (gn_mem hkl)
      have HT := Lib.hid (take_next hkl)
      obtain ⟨x, hx⟩ : ∃ x, gn l k = x := ⟨_, rfl⟩
      rw [hx] at y0 y1 y2 y3 y4 y5 hw HT
      obtain ⟨p, hp⟩ : ∃ p : Nat, x.a = p := ⟨x.a.toNat, by omega⟩
      have hp8 : p < 8192 := by omega
      obtain ⟨m1, m2⟩ := HP.out.at hp8
      have hlg := HP.out.lt
      have hne : ¬ w.heap.size = wr.heap.size := by omega
      rw [hp] at y0
      have HPX := Lib.hid hp
      clear hat hx hkl hw hp
      go_wp2_with fail
      go_roundw
      case rel => exact ⟨k + 1, by go_num, by omega, Lib.hid (by rw [HT.out]; exact (HP.out.put hp8 HPX.out).ext ((Ext.refl _).alloc _)), Lib.hid ((HX.out.set_ (p := ⟨w.heap.size, p, none⟩) (Nat.le_refl _) _).alloc _)⟩
      case measure => simp [intOf]; omega
    · obtain rfl : k = n := by omega
      go_wp2
      go_ret
      exact ⟨_, rfl, by have := HP.out; rwa [Hn.out, List.take_length] at this, Nat.le_refl _, HX.out⟩
theorem hasAt_out {l : List In} (ha : Within l) {t : Int} (h : ¬ (0 ≤ t ∧ t < 8192)) : hasAt l t = false := by
  rw [Bool.eq_false_iff]
  intro e
  obtain ⟨x, hx, rfl⟩ := hasAt_iff.1 e
  exact h (ha x hx)
set_option maxRecDepth 100000 in
set_option maxHeartbeats 4000000 in
theorem begins_any (t : Int) (g : Nat) (l : List In) (w : World) (h : BG w g l) (ha : Within l) :
    Calls Tryz.prog 239 #[.int .i64 t, .pointer (some ⟨g, 0, none⟩)] w fun e w' => e = .returned (.bool (hasAt l t)) ∧ w = w' := by
  by_cases h0 : 0 ≤ t
  · by_cases h1 : t < 8192
    · obtain ⟨p, rfl⟩ : ∃ p : Nat, t = p := ⟨t.toNat, by omega⟩
      obtain ⟨m1, m2⟩ := h.at (p := p) (by omega)
      obtain ⟨r, hr⟩ : ∃ r, hasAt l p = r := ⟨_, rfl⟩
      rw [hr] at m1 ⊢
      clear hr h ha
      go_enter Tryz.func239, Tryz.ntmps239
      go_wp2
      go_ret
      exact ⟨rfl, rfl⟩
    · rw [hasAt_out ha (by omega)]
      clear h ha
      go_enter Tryz.func239, Tryz.ntmps239
      go_wp2
      go_ret
      exact ⟨rfl, rfl⟩
  · rw [hasAt_out ha (by omega)]
    clear h ha
    go_enter Tryz.func239, Tryz.ntmps239
    go_wp2
    go_ret
    exact ⟨rfl, rfl⟩
end Go.Proofs.YtokmeomjdpfknaaGreatDoor
namespace Go.Proofs.YtokmeomjdpfknaaGreatDoor
open Go.RowKit
set_option linter.unusedVariables false

theorem ret_place {a b : Int × Bool} (h : a = b) : Ending.returned (.tuple #[.int .i64 a.1, .bool a.2]) = .returned (.tuple #[.int .i64 b.1, .bool b.2]) := by rw [h]
end Go.Proofs.YtokmeomjdpfknaaGreatDoor
