/- The document's Copy: an instruction in memory of its own. -/
import Derived.Test.YtcgajgileehbbaaOpsDe
namespace Go.Proofs.Ytcgajgileehbbaa
open Go.RowKit
set_option linter.unusedVariables false

theorem two_at' (w : World) (A B : Obj) : ((w.alloc A).alloc B).heap[w.heap.size + 1]? = some B := by
  have h := heap_alloc_new (w.alloc A) B
  rwa [show (w.alloc A).heap.size = w.heap.size + 1 by simp] at h
theorem three_at' (w : World) (A B C : Obj) : (((w.alloc A).alloc B).alloc C).heap[w.heap.size + 2]? = some C := by
  have h := heap_alloc_new ((w.alloc A).alloc B) C
  rwa [show ((w.alloc A).alloc B).heap.size = w.heap.size + 2 by simp] at h
theorem XP.at_ {w w' : World} {h : Nat} {x : In} {v1 v2 : Value} (H : XP w h x v1 v2) (e : Ext w w') : XP w' h x v1 v2 := (e.block h H.lt).trans H
/-- What a copy is. -/
def CopyAns (B : Nat) (x : In) (v : Value) (w' : World) : Prop := ∃ u1 u2, v = .agg (x.vals u1 u2) ∧ Own B w' 3 .i64 u1 x.to ∧ Own B w' 3 .i64 u2 x.ks ∧ ∀ b, u1.ownBlock = some b → u2.ownBlock ≠ some b
set_option maxRecDepth 100000 in
set_option maxHeartbeats 4000000 in
theorem refCopy_any (x : In) (v1 v2 : Value) (w : World) (h1 : Row w .i64 v1 x.to) (h2 : Row w .i64 v2 x.ks) (hb1 : x.to.length * 8 ≤ 140737488355328) (hb2 : x.ks.length * 8 ≤ 140737488355328) :
    Calls Try.prog 17 #[.agg (x.vals v1 v2)] w (Ret w (CopyAns w.heap.size x)) := by
  have H1 := Lib.hid h1
  have H2 := Lib.hid h2
  obtain ⟨A1, k1, rfl, -⟩ := h1
  obtain ⟨A2, k2, rfl, -⟩ := h2
  obtain ⟨W0, hW0⟩ : ∃ W0, W0 = ((w.alloc (.cells (x.vals (.slice A1 x.to.length k1) (.slice A2 x.ks.length k2)) 34)).alloc (.cells #[.int .i64 0, .int .i64 0, .int .i64 0, .int .i64 0, .slice none 0 0, .slice none 0 0] 34)).alloc (.cells #[.int .i64 x.a, .int .i64 x.o, .int .i64 x.n, .int .i64 x.m, .slice none 0 0, .slice none 0 0] 34) := ⟨_, rfl⟩
  have hs0 : W0.heap.size = w.heap.size + 3 := by rw [hW0]; simp
  have X0 : Ext w W0 := by rw [hW0]; exact (((Ext.refl w).alloc _).alloc _).alloc _
  have xb : XP W0 w.heap.size x (.slice A1 x.to.length k1) (.slice A2 x.ks.length k2) := by
    rw [hW0]
    exact (heap_alloc_old _ _ (by simp; omega)).trans ((heap_alloc_old _ _ (by simp)).trans (heap_alloc_new _ _))
  have xr : XP W0 (w.heap.size + 1) i0 (.slice none 0 0) (.slice none 0 0) := by
    rw [hW0]
    exact (heap_alloc_old _ _ (by simp)).trans (two_at' _ _ _)
  have xo : XP W0 (w.heap.size + 2) ⟨x.a, x.o, x.n, x.m, [], []⟩ (.slice none 0 0) (.slice none 0 0) := by
    rw [hW0]
    exact three_at' _ _ _ _
  have HB := Lib.hid xb
  have HR := Lib.hid xr
  have HO := Lib.hid xo
  obtain ⟨d0, d1, d2, d3, d4, d5⟩ := boxed (w := w) (x := x) (v1 := .slice A1 x.to.length k1) (v2 := .slice A2 x.ks.length k2) (((Ext.refl _).alloc (.cells #[.int .i64 0, .int .i64 0, .int .i64 0, .int .i64 0, .slice none 0 0, .slice none 0 0] 34)))
  have hn : ¬ w.heap.size + 1 = w.heap.size + 2 := by omega
  have hn' : ¬ w.heap.size = w.heap.size + 2 := by omega
  unfold In.vals at hW0 d0 d1 d2 d3 d4 d5 ⊢
  go_enter Try.func17, Try.ntmps17
  go_wp2_with (first
    | (at_builtin; refine wpList_app _ rfl _ _ w.heap.size 32 3 _ 8 .i64 rfl Try.underlying32 info64 rfl (by omega) (.slice none 0 0) [] rfl (Own.nil _ _ _ _) (.slice A1 x.to.length k1) x.to rfl (H1.out.ext ((((Ext.refl w).alloc _).alloc _).alloc _)) (by simp; omega) (by simp; omega) ?_; intro u1 w1 ho1 hg1 hb1; rw [← hW0] at hg1 hb1; rw [List.nil_append] at ho1; obtain ⟨A3, n3, k3, rfl⟩ := ho1.slice; have x1 : Ext W0 w1 := (Ext.refl W0).grown hg1 (fun g h => by cases h); have xb1 := HB.out.at_ x1; have xr1 := HR.out.at_ x1; have xo1 := HO.out.at_ x1; obtain ⟨b0, b1, b2, b3, b4, b5⟩ := xb1.cells; obtain ⟨r0, r1, r2, r3, r4, r5⟩ := xr1.cells; obtain ⟨q0, q1, q2, q3, q4, q5⟩ := xo1.cells; have qf := xo1.free; have rf := xr1.free; simp only at q0 q1 q2 q3)
    | (at_builtin; refine wpList_app _ rfl _ _ w.heap.size 32 3 _ 8 .i64 rfl Try.underlying32 info64 rfl (by omega) (.slice none 0 0) [] rfl (Own.nil _ _ _ _) (.slice A2 x.ks.length k2) x.ks rfl (H2.out.ext ((X0.trans x1).set_ (show w.heap.size ≤ w.heap.size + 2 by omega) _)) (by simp; omega) (by have := x1.size; simp; omega) ?_; intro u2 w2 ho2 hg2 hb2; rw [List.nil_append] at ho2; obtain ⟨A4, n4, k4, rfl⟩ := ho2.slice; have x2 : Ext _ w2 := (Ext.refl _).grown hg2 (fun g h => by cases h); have xo1' := xo1.set4 x.to (.slice A3 n3 k3); have xo2 := xo1'.at_ x2; have xr2 : XP w2 (w.heap.size + 1) i0 (.slice none 0 0) (.slice none 0 0) := XP.at_ (show XP _ (w.heap.size + 1) _ _ _ from (Below.heap_setCell w1 ⟨w.heap.size + 2, 4, none⟩ _ (w.heap.size + 1) (by simp)).trans xr1) x2; obtain ⟨s0, s1, s2, s3, s4, s5⟩ := xr2.cells; obtain ⟨t0, t1, t2, t3, t4, t5⟩ := xo2.cells; have tf := xo2.free; have sf := xr2.free; simp only at t0 t1 t2 t3))
  have xr3 : XP (w2.setCell ⟨w.heap.size + 2, 5, none⟩ (.slice A4 n4 k4)) (w.heap.size + 1) i0 (.slice none 0 0) (.slice none 0 0) := (Below.heap_setCell w2 ⟨w.heap.size + 2, 5, none⟩ _ (w.heap.size + 1) (by simp)).trans xr2
  have hx := six_xp xr3 x (.slice A3 n3 k3) (.slice A4 n4 k4)
  obtain ⟨e0, e1, e2, e3, e4, e5⟩ := hx.cells
  have g1 : w1.grownBy (w1.setCell ⟨w.heap.size + 2, 4, none⟩ (.slice A3 n3 k3)) (some (w.heap.size + 2)) := only_set (World.grownBy.refl w1 _) 4 _
  have g2 : w2.grownBy (w2.setCell ⟨w.heap.size + 2, 5, none⟩ (.slice A4 n4 k4)) (some (w.heap.size + 2)) := only_set (World.grownBy.refl w2 _) 5 _
  have g3 := six_set (W := w2.setCell ⟨w.heap.size + 2, 5, none⟩ (.slice A4 n4 k4)) (w.heap.size + 1) (.int .i64 x.a) (.int .i64 x.o) (.int .i64 x.n) (.int .i64 x.m) (.slice A3 n3 k3) (.slice A4 n4 k4)
  have p1 := ho1.kept g1 (fun b hb e => by injection e with e; subst e; exact own_ne ho1 xo1 (by decide) hb)
  have p2 := p1.ext x2
  have p3 := p2.kept g2 (fun b hb e => by injection e with e; subst e; exact own_ne p2 xo2 (by decide) hb)
  have p4 := p3.kept g3 (fun b hb e => by injection e with e; subst e; exact own_ne p3 xr3 (by decide) hb)
  have r3' := ho2.kept g2 (fun b hb e => by injection e with e; subst e; exact own_ne ho2 xo2 (by decide) hb)
  have r4' := r3'.kept g3 (fun b hb e => by injection e with e; subst e; exact own_ne r3' xr3 (by decide) hb)
  have hne : ∀ b, (Value.slice A3 n3 k3).ownBlock = some b → (Value.slice A4 n4 k4).ownBlock ≠ some b := by
    intro b hu hv
    have hlt := ho1.high b hu
    rcases hb2 with hb2 | hb2
    · rw [hb2] at hv
      cases hv
    · rw [hb2] at hv
      injection hv with hv
      have hz : ∀ p u, (w1.setCell p u).heap.size = w1.heap.size := fun p u => by simp [World.setCell]
      rw [hz] at hv
      omega
  have XF := ((((X0.trans x1).set_ (show w.heap.size ≤ w.heap.size + 2 by omega) (.slice A3 n3 k3) (p := ⟨w.heap.size + 2, 4, none⟩)).trans x2).set_ (show w.heap.size ≤ w.heap.size + 2 by omega) (.slice A4 n4 k4) (p := ⟨w.heap.size + 2, 5, none⟩)).grown g3 (fun g hg => by injection hg with hg; omega)
  refine bodyPost_ret (v := .agg #[.int .i64 x.a, .int .i64 x.o, .int .i64 x.n, .int .i64 x.m, .slice A3 n3 k3, .slice A4 n4 k4]) (by simp [results, Try.results17, go_sem, e0, e1, e2, e3, e4, e5]) rfl ?_
  exact Ret.mk ⟨_, _, rfl, p4, r4', hne⟩ XF
end Go.Proofs.Ytcgajgileehbbaa
