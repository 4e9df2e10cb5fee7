/- The project's Decode, whole. -/
import Derived.Test.YthobicnhophdlaaOpsT
import Derived.Test.YthobicnhophdlaaOpsV5
namespace Go.Proofs.Ythobicnhophdlaa
open Go.RowKit
set_option linter.unusedVariables false

/-- What Decode answers. -/
def DecAns (B : Nat) (r : In × Int × Int) (v : Value) (w' : World) : Prop :=
  ∃ v1 v2, v = .tuple #[.agg (r.1.vals v1 v2), .int .i64 r.2.1, .int .i64 r.2.2] ∧ Own B w' 3 .i64 v1 r.1.to ∧ Own B w' 3 .i64 v2 r.1.ks
/-- The result's variable, later. -/
theorem res6 {w W : World} {a b c d e f : Value} {T : TypeId} (x : Ext (w.alloc (.cells #[a, b, c, d, e, f] T)) W) : W.heap[w.heap.size]? = some (.cells #[a, b, c, d, e, f] T (0, 0)) ∧
    W.cell? ⟨w.heap.size, 0, none⟩ = some a ∧ W.cell? ⟨w.heap.size, 1, none⟩ = some b ∧ W.cell? ⟨w.heap.size, 2, none⟩ = some c ∧ W.cell? ⟨w.heap.size, 3, none⟩ = some d ∧ W.cell? ⟨w.heap.size, 4, none⟩ = some e ∧ W.cell? ⟨w.heap.size, 5, none⟩ = some f := by
  have h := (x.block w.heap.size (by simp)).trans (heap_alloc_new w (.cells #[a, b, c, d, e, f] T))
  exact ⟨h, room6 h (Ext.refl _)⟩
theorem res_free {w W : World} {cs : Array Value} {T : TypeId} (x : Ext (w.alloc (.cells cs T)) W) (j : Nat) : W.frozen? ⟨w.heap.size, j, none⟩ = false := by
  have h := (x.block w.heap.size (by simp)).trans (heap_alloc_new w (.cells cs T))
  simp [World.frozen?, h]
theorem pr_new (w : World) (L : Obj) (V : Value) (k : Int) : PR ((w.alloc L).alloc (.cells #[V, .int .i64 k, .bool false] 64)) (w.heap.size + 1) V k false := by
  have h := heap_alloc_new (w.alloc L) (.cells #[V, .int .i64 k, .bool false] 64)
  rwa [show (w.alloc L).heap.size = w.heap.size + 1 by simp] at h
theorem PR.kept {w W : World} {g c : Nat} {v : Value} {a : Int} {en : Bool} (h : PR w g v a en) (hg : w.grownBy W (some c)) (hne : some g ≠ some c) : PR W g v a en := (hg.block g (lt_of_get h) hne).trans h
theorem dec_some {a o : Int} {l r : List Int} {x : In} (h : insM true a o (l, false) = (x, r, false)) : body a o l = some (x, r) := by
  have hb := insM_body (st := true) (a := a) (o := o) (l := l)
  cases hy : body a o l with
  | none => rw [hy, h] at hb; cases hb
  | some y =>
    rw [hy] at hb
    simp only at hb
    rw [h] at hb
    injection hb with e1 e2
    injection e2 with e2 e3
    rw [e1, e2]
theorem dec_none {a o : Int} {l r : List Int} {x : In} (h : insM true a o (l, false) = (x, r, true)) : body a o l = none := by
  have hb := insM_body (st := true) (a := a) (o := o) (l := l)
  cases hy : body a o l with
  | none => rfl
  | some y =>
    rw [hy] at hb
    simp only at hb
    rw [h] at hb
    injection hb with e1 e2
    injection e2 with e2 e3
    cases e3
theorem drew_cell (w : World) (a : Addr) : w.drew.cell? a = w.cell? a := rfl
theorem drew_ext (w : World) : Ext w w.drew := (Ext.refl w).drew
theorem i0_vals : i0.vals (.slice none 0 0) (.slice none 0 0) = #[.int .i64 0, .int .i64 0, .int .i64 0, .int .i64 0, .slice none 0 0, .slice none 0 0] := rfl
theorem DecAns.bad {w : World} (n e : Int) : DecAns w.heap.size (i0, n, e) (.tuple #[.agg #[.int .i64 0, .int .i64 0, .int .i64 0, .int .i64 0, .slice none 0 0, .slice none 0 0], .int .i64 n, .int .i64 e]) w := ⟨_, _, rfl, Own.nil _ _ _ _, Own.nil _ _ _ _⟩
set_option maxRecDepth 100000 in
set_option maxHeartbeats 2000000 in
theorem Decode_out (v : Value) (l : List Int) (k : Int) (w : World) (h : Row w .u8 v l) (hk : k < 0 ∨ (l.length : Int) ≤ k ∨ 8192 ≤ k) :
    Calls Try.prog 14 #[v, .int .i64 k] w (Ret w (DecAns w.heap.size (i0, 0, 9))) := by
  obtain ⟨A, c, rfl, -⟩ := h
  have hc : k < 0 ∨ (¬ k < 0 ∧ (l.length : Int) ≤ k) ∨ (¬ k < 0 ∧ ¬ (l.length : Int) ≤ k ∧ 8192 ≤ k) := by omega
  clear hk
  rcases hc with hc | ⟨hc, hd⟩ | ⟨hc, hd, he⟩
  all_goals
    go_enter Try.func14, Try.ntmps14
    go_wp2
    refine bodyPost_ret (v := .tuple #[.agg #[.int .i64 0, .int .i64 0, .int .i64 0, .int .i64 0, .slice none 0 0, .slice none 0 0], .int .i64 0, .int .i64 9]) (by simp [results, Try.results14, go_sem]) rfl ?_
    exact Ret.mk ⟨_, _, rfl, Own.nil _ _ _ _, Own.nil _ _ _ _⟩ ((Ext.refl w).alloc _)
theorem drop_at {l : List Int} {k : Nat} (h : k < l.length) : l.drop k = gi l k :: l.drop (k + 1) := by
  rw [List.drop_eq_getElem_cons h]
  simp [gi, h]
def decB (l : List Int) (m : Option (In × List Int)) : In × Int × Int := match m with
  | none => (i0, 0, 3)
  | some (x, r) => if mayI x = true then (x, (l.length : Int) - r.length, 0) else (i0, 0, 4)
theorem dec_at {l : List Int} {k : Nat} (h : k < l.length) (h2 : k < 8192) : opsDec l k = if 89 < gi l k then (i0, 0, 60) else decB l (body k (gi l k) (l.drop (k + 1))) := by
  unfold opsDec decB
  rw [if_neg (by omega), Int.toNat_natCast, drop_at h]
  simp only
  split
  · rfl
  · cases body k (gi l k) (l.drop (k + 1)) <;> rfl
set_option maxRecDepth 100000 in
set_option maxHeartbeats 4000000 in
theorem Decode_op (v : Value) (l : List Int) (k : Nat) (w : World) (h : Row w .u8 v l) (hk : k < l.length) (hk2 : k < 8192) (ho : 89 < gi l k) :
    Calls Try.prog 14 #[v, .int .i64 k] w (Ret w (DecAns w.heap.size (i0, 0, 60))) := by
  have H0 := Lib.hid h
  obtain ⟨A, c, rfl, hc, hm, -⟩ := h
  unfold maxLen at hm
  have hb := H0.out.fit.u8 (gi_mem hk)
  obtain ⟨b, o, rfl, hat⟩ := H0.out.all (by omega)
  have X0 := (Ext.refl w).alloc (.cells #[.int .i64 0, .int .i64 0, .int .i64 0, .int .i64 0, .slice none 0 0, .slice none 0 0] 32)
  have y0 := hat _ X0 k hk
  have hop : inOp (gi l k) = false := by unfold inOp; simp; omega
  have HO := Lib.hid hop
  have hk0 : ¬ ((k : Int) < 0) := by omega
  have hk3 : ¬ (8192 ≤ (k : Int)) := by omega
  obtain ⟨op, hop'⟩ : ∃ op, gi l k = op := ⟨_, rfl⟩
  rw [hop'] at y0 HO hb ho
  have hwo : IntKind.i64.wrap op = op := by rw [IntKind.wrap_i64]; omega
  clear hat hop hop'
  go_enter Try.func14, Try.ntmps14
  go_wp2_with fail
  refine (lineOf_any _ _).mono ?_
  rintro e w1 ⟨rfl, x1⟩
  rw [HO.out]
  obtain ⟨-, c0, c1, c2, c3, c4, c5⟩ := res6 (x1.alloc (.cells #[.string (nameZ op), .int .i64 (shapeZ op), .bool (endsZ op)] 55))
  have fz := res_free (x1.alloc (.cells #[.string (nameZ op), .int .i64 (shapeZ op), .bool (endsZ op)] 55))
  go_wp2
  refine bodyPost_ret (v := .tuple #[.agg #[.int .i64 0, .int .i64 0, .int .i64 0, .int .i64 0, .slice none 0 0, .slice none 0 0], .int .i64 0, .int .i64 60]) (by simp [results, Try.results14, go_sem, c0, c1, c2, c3, c4, c5]) rfl ?_
  refine Ret.mk ⟨_, _, rfl, Own.nil _ _ _ _, Own.nil _ _ _ _⟩ ?_
  exact (X0.trans (x1.alloc _)).grown (six_set _ _ _ _ _ _ _) (fun g hg => by injection hg with hg; omega)
set_option maxRecDepth 100000 in
set_option maxHeartbeats 2000000 in
theorem Decode_in (v : Value) (l : List Int) (k : Nat) (w : World) (h : Row w .u8 v l) (hk : k < l.length) (hk2 : k < 8192) (ho : gi l k ≤ 89) :
    Calls Try.prog 14 #[v, .int .i64 k] w (Ret w (DecAns w.heap.size (opsDec l k))) := by
  rw [dec_at hk hk2, if_neg (by omega)]
  have H0 := Lib.hid h
  obtain ⟨A, c, rfl, hc, hm, -⟩ := h
  unfold maxLen at hm
  have hb := H0.out.fit.u8 (gi_mem hk)
  obtain ⟨b, o, rfl, hat⟩ := H0.out.all (by omega)
  have X0 := (Ext.refl w).alloc (.cells #[.int .i64 0, .int .i64 0, .int .i64 0, .int .i64 0, .slice none 0 0, .slice none 0 0] 32)
  have y0 := hat _ X0 k hk
  have hop : inOp (gi l k) = true := by unfold inOp; simp; omega
  have HO := Lib.hid hop
  have hk0 : ¬ ((k : Int) < 0) := by omega
  have hk3 : ¬ (8192 ≤ (k : Int)) := by omega
  have hw1 : IntKind.i64.wrap ((k : Int) + 1) = k + 1 := by rw [IntKind.wrap_i64]; omega
  obtain ⟨op, hop'⟩ : ∃ op, gi l k = op := ⟨_, rfl⟩
  rw [hop'] at y0 HO hb ho ⊢
  have hwo : IntKind.i64.wrap op = op := by rw [IntKind.wrap_i64]; omega
  have hcap : k + 1 < c ∨ k + 1 = c := by omega
  obtain ⟨q, hq⟩ : ∃ q, l.drop (k + 1) = q := ⟨_, rfl⟩
  have hql : q.length = l.length - (k + 1) := by rw [← hq, List.length_drop]
  rw [hq]
  have ht : (k + 1 < c ∧ Row w .u8 (.slice (some ⟨b, o + (k + 1), none⟩) (l.length - (k + 1)) (c - (k + 1))) q) ∨ (k + 1 = c ∧ Row w .u8 (.slice (some ⟨b, o, none⟩) 0 0) q) := by
    rcases hcap with hcap | hcap
    · exact .inl ⟨hcap, hq ▸ H0.out.tail (k + 1) (by omega)⟩
    · refine .inr ⟨hcap, ?_⟩
      have : q = [] := List.eq_nil_of_length_eq_zero (by omega)
      rw [this]
      exact Row.none_ _ _ _
  clear hat hop hop' hcap
  rcases ht with ⟨hcap, ht⟩ | ⟨hcap, ht⟩
  all_goals
    have HT := Lib.hid ht
    clear ht
    go_enter Try.func14, Try.ntmps14
    go_wp2_with fail
    refine (lineOf_any _ _).mono ?_
    rintro e w1 ⟨rfl, x1⟩
    rw [HO.out]
    go_wp2_with fail
    have hi := ins_any (w1.alloc (.cells #[.string (nameZ op), .int .i64 (shapeZ op), .bool (endsZ op)] 55)) _ (w1.heap.size + 1) _ k op (q, false) (pr_new w1 _ _ k) (HT.out.ext (X0.trans (x1.alloc _))) ((Ext.refl _).alloc _) (by simp) ⟨by omega, by omega⟩
    obtain ⟨X, hX⟩ : ∃ X, insM true k op (q, false) = X := ⟨_, rfl⟩
    rw [hX] at hi
    have HX := Lib.hid hX
    clear hX
    refine hi.mono ?_
    rintro e w2 ⟨u1, u2, v3, rfl, o1, o2, hp2, hr2, x2⟩
    obtain ⟨A1, n1, k1, rfl⟩ := o1.slice
    obtain ⟨A2, n2, k2, rfl⟩ := o2.slice
    have X2 := (x1.alloc _).trans x2
    obtain ⟨hres, c0, c1, c2, c3, c4, c5⟩ := res6 X2
    have fz := res_free X2
    obtain ⟨p0, p1, p2, -, -, -⟩ := hp2.cells
    have hle := x1.size
    have hne : w.heap.size ≠ w1.heap.size + 1 := by simp at hle; omega
    have hne' : w1.heap.size + 1 ≠ w.heap.size := fun e => hne e.symm
    have hs6 := six_set (W := w2) w.heap.size (.int .i64 X.1.a) (.int .i64 X.1.o) (.int .i64 X.1.n) (.int .i64 X.1.m) (.slice A1 n1 k1) (.slice A2 n2 k2)
    have o1' := (o1.kept hs6 (fun g hg e => by injection e with e; subst e; exact own_ne o1 hres (by decide) hg)).base (show w.heap.size ≤ _ by simp at hle ⊢; omega)
    have o2' := (o2.kept hs6 (fun g hg e => by injection e with e; subst e; exact own_ne o2 hres (by decide) hg)).base (show w.heap.size ≤ _ by simp at hle ⊢; omega)
    have hx3 := six_xp (y := i0) (u1 := .slice none 0 0) (u2 := .slice none 0 0) hres X.1 (.slice A1 n1 k1) (.slice A2 n2 k2)
    have hp3 := hp2.kept hs6 (fun e => by injection e with e; exact hne' e)
    have X3 : Ext w _ := (X0.trans X2).grown hs6 (fun g hg => by injection hg with hg; omega)
    unfold In.vals
    obtain ⟨⟨xa, xo, xn, xm, xt, xk⟩, qr, en⟩ := X
    simp only at o1 o2 hp2 hr2 p0 p1 p2 o1' o2' hx3 hp3 X3 ⊢
    cases en
    · have HBO := Lib.hid (dec_some HX.out)
      go_wp2_with fail
      obtain ⟨W3, hW3⟩ : ∃ W3, W3 = (((((w2.setCell ⟨w.heap.size, 0, none⟩ (.int .i64 xa)).setCell ⟨w.heap.size, 1, none⟩ (.int .i64 xo)).setCell ⟨w.heap.size, 2, none⟩ (.int .i64 xn)).setCell ⟨w.heap.size, 3, none⟩ (.int .i64 xm)).setCell ⟨w.heap.size, 4, none⟩ (.slice A1 n1 k1)).setCell ⟨w.heap.size, 5, none⟩ (.slice A2 n2 k2) := ⟨_, rfl⟩
      rw [← hW3] at o1' o2' hx3 hp3 X3 ⊢
      clear hW3 hs6 hp2 p0 p1 p2 c0 c1 c2 c3 c4 c5 fz hres o1 o2
      have hmb := mayBe_any ⟨xa, xo, xn, xm, xt, xk⟩ _ _ W3 o1'.row o2'.row
      unfold In.vals at hmb
      refine hmb.mono ?_
      rintro e w4 ⟨rfl, x4⟩
      obtain ⟨c0, c1, c2, c3, c4, c5⟩ := XP.cells (h := w.heap.size) (show XP w4 w.heap.size _ _ _ from (x4.block _ hx3.lt).trans hx3)
      have fz := XP.free (h := w.heap.size) (show XP w4 w.heap.size _ _ _ from (x4.block _ hx3.lt).trans hx3)
      obtain ⟨p0, p1, p2, -, -, -⟩ := (hp3.ext x4).cells
      simp only at c0 c1 c2 c3
      by_cases hm : mayI ⟨xa, xo, xn, xm, xt, xk⟩ = true
      · have HD := Lib.hid (show decB l (some (⟨xa, xo, xn, xm, xt, xk⟩, qr)) = (⟨xa, xo, xn, xm, xt, xk⟩, (l.length : Int) - qr.length, 0) by unfold decB; simp [hm])
        rw [hm]
        clear hm
        obtain ⟨A3, k3, rfl, h30, h31, -⟩ := hr2
        unfold maxLen at h31
        have hsub : IntKind.i64.wrap ((l.length : Int) - qr.length) = l.length - qr.length := by rw [IntKind.wrap_i64]; omega
        have hxd : XP w4 w.heap.size ⟨xa, xo, xn, xm, xt, xk⟩ (.slice A1 n1 k1) (.slice A2 n2 k2) := (x4.block _ hx3.lt).trans hx3
        have hp5 := (PR.kept (W := (((((w4.setCell ⟨w.heap.size, 0, none⟩ (.int .i64 xa)).setCell ⟨w.heap.size, 1, none⟩ (.int .i64 xo)).setCell ⟨w.heap.size, 2, none⟩ (.int .i64 xn)).setCell ⟨w.heap.size, 3, none⟩ (.int .i64 xm)).setCell ⟨w.heap.size, 4, none⟩ (.slice A1 n1 k1)).setCell ⟨w.heap.size, 5, none⟩ (.slice A2 n2 k2)) (hp3.ext x4) (six_set _ _ _ _ _ _ _) (fun e => by injection e with e; exact hne' e)).cells.1
        have hs5 := six_set (W := w4) w.heap.size (.int .i64 xa) (.int .i64 xo) (.int .i64 xn) (.int .i64 xm) (.slice A1 n1 k1) (.slice A2 n2 k2)
        have o15 := (o1'.ext x4).kept hs5 (fun g hg e => by injection e with e; subst e; exact own_ne o1' hx3 (by decide) hg)
        have o25 := (o2'.ext x4).kept hs5 (fun g hg e => by injection e with e; subst e; exact own_ne o2' hx3 (by decide) hg)
        have X5 : Ext w _ := (X3.trans x4).grown hs5 (fun g hg => by injection hg with hg; omega)
        have hx5 := six_xp hxd ⟨xa, xo, xn, xm, xt, xk⟩ (.slice A1 n1 k1) (.slice A2 n2 k2)
        obtain ⟨e0, e1, e2, e3, e4, e5⟩ := hx5.cells
        simp only at e0 e1 e2 e3
        have E1 : (w4.drew.cell? ⟨w.heap.size, 0, none⟩ = some (.int .i64 xa) ∧ w4.drew.cell? ⟨w.heap.size, 1, none⟩ = some (.int .i64 xo) ∧ w4.drew.cell? ⟨w.heap.size, 2, none⟩ = some (.int .i64 xn) ∧ w4.drew.cell? ⟨w.heap.size, 3, none⟩ = some (.int .i64 xm) ∧ w4.drew.cell? ⟨w.heap.size, 4, none⟩ = some (.slice A1 n1 k1) ∧ w4.drew.cell? ⟨w.heap.size, 5, none⟩ = some (.slice A2 n2 k2) ∧ w4.drew.cell? ⟨w1.heap.size + 1, 0, none⟩ = some (.slice A3 qr.length k3)) := ⟨(drew_cell _ _).trans c0, (drew_cell _ _).trans c1, (drew_cell _ _).trans c2, (drew_cell _ _).trans c3, (drew_cell _ _).trans c4, (drew_cell _ _).trans c5, (drew_cell _ _).trans p0⟩
        have E2 : (((((((w4.setCell ⟨w.heap.size, 0, none⟩ (.int .i64 xa)).setCell ⟨w.heap.size, 1, none⟩ (.int .i64 xo)).setCell ⟨w.heap.size, 2, none⟩ (.int .i64 xn)).setCell ⟨w.heap.size, 3, none⟩ (.int .i64 xm)).setCell ⟨w.heap.size, 4, none⟩ (.slice A1 n1 k1)).setCell ⟨w.heap.size, 5, none⟩ (.slice A2 n2 k2)).drew.cell? ⟨w.heap.size, 0, none⟩ = some (.int .i64 xa) ∧ ((((((w4.setCell ⟨w.heap.size, 0, none⟩ (.int .i64 xa)).setCell ⟨w.heap.size, 1, none⟩ (.int .i64 xo)).setCell ⟨w.heap.size, 2, none⟩ (.int .i64 xn)).setCell ⟨w.heap.size, 3, none⟩ (.int .i64 xm)).setCell ⟨w.heap.size, 4, none⟩ (.slice A1 n1 k1)).setCell ⟨w.heap.size, 5, none⟩ (.slice A2 n2 k2)).drew.cell? ⟨w.heap.size, 1, none⟩ = some (.int .i64 xo) ∧ ((((((w4.setCell ⟨w.heap.size, 0, none⟩ (.int .i64 xa)).setCell ⟨w.heap.size, 1, none⟩ (.int .i64 xo)).setCell ⟨w.heap.size, 2, none⟩ (.int .i64 xn)).setCell ⟨w.heap.size, 3, none⟩ (.int .i64 xm)).setCell ⟨w.heap.size, 4, none⟩ (.slice A1 n1 k1)).setCell ⟨w.heap.size, 5, none⟩ (.slice A2 n2 k2)).drew.cell? ⟨w.heap.size, 2, none⟩ = some (.int .i64 xn) ∧ ((((((w4.setCell ⟨w.heap.size, 0, none⟩ (.int .i64 xa)).setCell ⟨w.heap.size, 1, none⟩ (.int .i64 xo)).setCell ⟨w.heap.size, 2, none⟩ (.int .i64 xn)).setCell ⟨w.heap.size, 3, none⟩ (.int .i64 xm)).setCell ⟨w.heap.size, 4, none⟩ (.slice A1 n1 k1)).setCell ⟨w.heap.size, 5, none⟩ (.slice A2 n2 k2)).drew.cell? ⟨w.heap.size, 3, none⟩ = some (.int .i64 xm) ∧ ((((((w4.setCell ⟨w.heap.size, 0, none⟩ (.int .i64 xa)).setCell ⟨w.heap.size, 1, none⟩ (.int .i64 xo)).setCell ⟨w.heap.size, 2, none⟩ (.int .i64 xn)).setCell ⟨w.heap.size, 3, none⟩ (.int .i64 xm)).setCell ⟨w.heap.size, 4, none⟩ (.slice A1 n1 k1)).setCell ⟨w.heap.size, 5, none⟩ (.slice A2 n2 k2)).drew.cell? ⟨w.heap.size, 4, none⟩ = some (.slice A1 n1 k1) ∧ ((((((w4.setCell ⟨w.heap.size, 0, none⟩ (.int .i64 xa)).setCell ⟨w.heap.size, 1, none⟩ (.int .i64 xo)).setCell ⟨w.heap.size, 2, none⟩ (.int .i64 xn)).setCell ⟨w.heap.size, 3, none⟩ (.int .i64 xm)).setCell ⟨w.heap.size, 4, none⟩ (.slice A1 n1 k1)).setCell ⟨w.heap.size, 5, none⟩ (.slice A2 n2 k2)).drew.cell? ⟨w.heap.size, 5, none⟩ = some (.slice A2 n2 k2) ∧ ((((((w4.setCell ⟨w.heap.size, 0, none⟩ (.int .i64 xa)).setCell ⟨w.heap.size, 1, none⟩ (.int .i64 xo)).setCell ⟨w.heap.size, 2, none⟩ (.int .i64 xn)).setCell ⟨w.heap.size, 3, none⟩ (.int .i64 xm)).setCell ⟨w.heap.size, 4, none⟩ (.slice A1 n1 k1)).setCell ⟨w.heap.size, 5, none⟩ (.slice A2 n2 k2)).drew.cell? ⟨w1.heap.size + 1, 0, none⟩ = some (.slice A3 qr.length k3)) := ⟨(drew_cell _ _).trans e0, (drew_cell _ _).trans e1, (drew_cell _ _).trans e2, (drew_cell _ _).trans e3, (drew_cell _ _).trans e4, (drew_cell _ _).trans e5, (drew_cell _ _).trans hp5⟩
        have F2 := drew_ext ((((((w4.setCell ⟨w.heap.size, 0, none⟩ (.int .i64 xa)).setCell ⟨w.heap.size, 1, none⟩ (.int .i64 xo)).setCell ⟨w.heap.size, 2, none⟩ (.int .i64 xn)).setCell ⟨w.heap.size, 3, none⟩ (.int .i64 xm)).setCell ⟨w.heap.size, 4, none⟩ (.slice A1 n1 k1)).setCell ⟨w.heap.size, 5, none⟩ (.slice A2 n2 k2))
        clear hmb hi
        go_wp2_with fail
        go_region_held3 (fun w' => w'.cell? ⟨w.heap.size, 0, none⟩ = some (.int .i64 xa) ∧ w'.cell? ⟨w.heap.size, 1, none⟩ = some (.int .i64 xo) ∧ w'.cell? ⟨w.heap.size, 2, none⟩ = some (.int .i64 xn) ∧ w'.cell? ⟨w.heap.size, 3, none⟩ = some (.int .i64 xm) ∧ w'.cell? ⟨w.heap.size, 4, none⟩ = some (.slice A1 n1 k1) ∧ w'.cell? ⟨w.heap.size, 5, none⟩ = some (.slice A2 n2 k2) ∧ w'.cell? ⟨w1.heap.size + 1, 0, none⟩ = some (.slice A3 qr.length k3)) (first | with_reducible exact E1 | with_reducible exact E2) (first | (fail))
        all_goals
          go_wp2
          refine bodyPost_ret (v := .tuple #[.agg #[.int .i64 xa, .int .i64 xo, .int .i64 xn, .int .i64 xm, .slice A1 n1 k1, .slice A2 n2 k2], .int .i64 ((l.length : Int) - qr.length), .int .i64 0]) (by simp [results, Try.results14, go_sem, e0, e1, e2, e3, e4, e5]) rfl ?_
          rw [HBO.out, HD.out]
          exact Ret.mk ⟨_, _, rfl, o15.ext F2, o25.ext F2⟩ (X5.trans F2)
      · have hm' : mayI ⟨xa, xo, xn, xm, xt, xk⟩ = false := by simpa using hm
        rw [hm']
        have HD := Lib.hid (show decB l (some (⟨xa, xo, xn, xm, xt, xk⟩, qr)) = (i0, 0, 4) by unfold decB; simp [hm'])
        clear hm hm'
        go_wp2
        refine bodyPost_ret (v := .tuple #[.agg #[.int .i64 0, .int .i64 0, .int .i64 0, .int .i64 0, .slice none 0 0, .slice none 0 0], .int .i64 0, .int .i64 4]) (by simp [results, Try.results14, go_sem, c0, c1, c2, c3, c4, c5]) rfl ?_
        rw [HBO.out, HD.out]
        refine Ret.mk ⟨_, _, rfl, Own.nil _ _ _ _, Own.nil _ _ _ _⟩ ?_
        exact (X3.trans x4).grown (six_set _ _ _ _ _ _ _) (fun g hg => by injection hg with hg; omega)
    · have HBO := Lib.hid (dec_none HX.out)
      go_wp2
      have hx4 := six_xp hx3 i0 (.slice none 0 0) (.slice none 0 0)
      obtain ⟨e0, e1, e2, e3, e4, e5⟩ := hx4.cells
      simp only [i0] at e0 e1 e2 e3 e4 e5
      refine bodyPost_ret (v := .tuple #[.agg #[.int .i64 0, .int .i64 0, .int .i64 0, .int .i64 0, .slice none 0 0, .slice none 0 0], .int .i64 0, .int .i64 3]) (by simp [results, Try.results14, go_sem, e0, e1, e2, e3, e4, e5]) rfl ?_
      rw [HBO.out]
      refine Ret.mk ⟨_, _, rfl, Own.nil _ _ _ _, Own.nil _ _ _ _⟩ ?_
      exact X3.grown (six_set _ _ _ _ _ _ _) (fun g hg => by injection hg with hg; omega)
theorem Decode_any (v : Value) (l : List Int) (k : Int) (w : World) (h : Row w .u8 v l) :
    Calls Try.prog 14 #[v, .int .i64 k] w (Ret w (DecAns w.heap.size (opsDec l k))) := by
  by_cases hk : k < 0 ∨ (l.length : Int) ≤ k ∨ 8192 ≤ k
  · rw [show opsDec l k = (i0, 0, 9) by unfold opsDec; rw [if_pos hk]]
    exact Decode_out v l k w h hk
  · obtain ⟨n, rfl⟩ : ∃ n : Nat, k = n := ⟨k.toNat, by omega⟩
    by_cases ho : 89 < gi l n
    · rw [dec_at (by omega) (by omega), if_pos ho]
      exact Decode_op v l n w h (by omega) (by omega) ho
    · exact Decode_in v l n w h (by omega) (by omega) (by omega)
end Go.Proofs.Ythobicnhophdlaa
