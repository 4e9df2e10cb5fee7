/- Several texts of this proof, one behind the other. -/
import Derived.Test.YtokmeomjdpfknaaGreatDoorZbI
import Derived.Test.YtokmeomjdpfknaaGreatDoorZbJ
import Derived.Test.YtokmeomjdpfknaaGreatDoorZbF
namespace Go.Proofs.YtokmeomjdpfknaaGreatDoor
open Go.RowKit
set_option linter.unusedVariables false

theorem ST.start {w0 w w1 : World} {g : Nat} {v : Value} {a o : Int} {q : List Int × Bool} (hp : PR w g v a q.2) (hr : Row w0 .u8 v q.1) (hx : Ext w0 w) (hg : w0.heap.size ≤ g)
    (e : Ext (((w.alloc (.cells #[.pointer (some ⟨g, 0, none⟩)] 283)).alloc (.cells #[.int .i64 0, .int .i64 0, .int .i64 0, .int .i64 0, .slice none 0 0, .slice none 0 0] 182)).alloc (.cells #[.int .i64 a, .int .i64 o, .int .i64 0, .int .i64 0, .slice none 0 0, .slice none 0 0] 182)) w1) :
    ST w0 w1 (w.heap.size + 1 + 1) w.heap.size g (w.heap.size + 1) ⟨a, o, 0, 0, [], []⟩ (.slice none 0 0) (.slice none 0 0) v q := by
  have hs := hx.size
  have h1 : (((w.alloc (.cells #[.pointer (some ⟨g, 0, none⟩)] 283)).alloc (.cells #[.int .i64 0, .int .i64 0, .int .i64 0, .int .i64 0, .slice none 0 0, .slice none 0 0] 182)).alloc (.cells #[.int .i64 a, .int .i64 o, .int .i64 0, .int .i64 0, .slice none 0 0, .slice none 0 0] 182)).heap[w.heap.size + 1 + 1]? = some (.cells #[.int .i64 a, .int .i64 o, .int .i64 0, .int .i64 0, .slice none 0 0, .slice none 0 0] 182 (0, 0)) := by
    have := heap_alloc_new ((w.alloc (.cells #[.pointer (some ⟨g, 0, none⟩)] 283)).alloc (.cells #[.int .i64 0, .int .i64 0, .int .i64 0, .int .i64 0, .slice none 0 0, .slice none 0 0] 182)) (.cells #[.int .i64 a, .int .i64 o, .int .i64 0, .int .i64 0, .slice none 0 0, .slice none 0 0] 182)
    simpa using this
  have h2 : (((w.alloc (.cells #[.pointer (some ⟨g, 0, none⟩)] 283)).alloc (.cells #[.int .i64 0, .int .i64 0, .int .i64 0, .int .i64 0, .slice none 0 0, .slice none 0 0] 182)).alloc (.cells #[.int .i64 a, .int .i64 o, .int .i64 0, .int .i64 0, .slice none 0 0, .slice none 0 0] 182)).heap[w.heap.size]? = some (.cells #[.pointer (some ⟨g, 0, none⟩)] 283 (0, 0)) := by
    rw [heap_alloc_old _ _ (by simp; omega), heap_alloc_old _ _ (by simp), heap_alloc_new]
  have h3 : (((w.alloc (.cells #[.pointer (some ⟨g, 0, none⟩)] 283)).alloc (.cells #[.int .i64 0, .int .i64 0, .int .i64 0, .int .i64 0, .slice none 0 0, .slice none 0 0] 182)).alloc (.cells #[.int .i64 a, .int .i64 o, .int .i64 0, .int .i64 0, .slice none 0 0, .slice none 0 0] 182)).heap[w.heap.size + 1]? = some (.cells #[.int .i64 0, .int .i64 0, .int .i64 0, .int .i64 0, .slice none 0 0, .slice none 0 0] 182 (0, 0)) := by
    have := heap_alloc_new (w.alloc (.cells #[.pointer (some ⟨g, 0, none⟩)] 283)) (.cells #[.int .i64 0, .int .i64 0, .int .i64 0, .int .i64 0, .slice none 0 0, .slice none 0 0] 182)
    rw [heap_alloc_old _ _ (by simp)]
    simpa using this
  exact ST.later ⟨h1, Own.nil _ _ _ _, Own.nil _ _ _ _, (fun b hb => by cases hb), h2, hp.ext ((((Ext.refl w).alloc _).alloc _).alloc _), hr, ((hx.alloc _).alloc _).alloc _, hg, by omega, hs, h3, by omega, by omega⟩ e
theorem InsAns.of {w0 : World} {g : Nat} {R S : In × List Int × Bool} {e : Ending} {w' : World} (h : InsAns w0 g S e w') (hR : Hid (S = R)) : InsAns w0 g R e w' := hR.out ▸ h
theorem six_xp {W : World} {c : Nat} {y : In} {u1 u2 : Value} (H : XP W c y u1 u2) (x : In) (v1 v2 : Value) : XP ((((((W.setCell ⟨c, 0, none⟩ (.int .i64 x.a)).setCell ⟨c, 1, none⟩ (.int .i64 x.o)).setCell ⟨c, 2, none⟩ (.int .i64 x.n)).setCell ⟨c, 3, none⟩ (.int .i64 x.m)).setCell ⟨c, 4, none⟩ v1).setCell ⟨c, 5, none⟩ v2) c x v1 v2 := by
  have h1 := heap_setCell_same W c 0 _ 182 (.int .i64 x.a) H
  have h2 := heap_setCell_same _ c 1 _ 182 (.int .i64 x.o) h1
  have h3 := heap_setCell_same _ c 2 _ 182 (.int .i64 x.n) h2
  have h4 := heap_setCell_same _ c 3 _ 182 (.int .i64 x.m) h3
  have h5 := heap_setCell_same _ c 4 _ 182 v1 h4
  have h6 := heap_setCell_same _ c 5 _ 182 v2 h5
  unfold XP
  rw [h6]
  rfl
theorem six_alloc {W : World} (o : Obj) (h c j : Nat) (u a0 a1 a2 a3 a4 a5 : Value) (hh : h < W.heap.size) (hc : c < W.heap.size) :
    (((((((W.setCell ⟨h, j, none⟩ u).setCell ⟨c, 0, none⟩ a0).setCell ⟨c, 1, none⟩ a1).setCell ⟨c, 2, none⟩ a2).setCell ⟨c, 3, none⟩ a3).setCell ⟨c, 4, none⟩ a4).setCell ⟨c, 5, none⟩ a5).alloc o =
    (((((((W.alloc o).setCell ⟨h, j, none⟩ u).setCell ⟨c, 0, none⟩ a0).setCell ⟨c, 1, none⟩ a1).setCell ⟨c, 2, none⟩ a2).setCell ⟨c, 3, none⟩ a3).setCell ⟨c, 4, none⟩ a4).setCell ⟨c, 5, none⟩ a5 := by
  simp [World.setCell_alloc_past, hh, hc]
theorem Own.slice {B : Nat} {w : World} {e : TypeId} {k : IntKind} {v : Value} {l : List Int} (h : Own B w e k v l) : ∃ A n k, v = .slice A n k := by
  obtain ⟨A, k, rfl, -⟩ := h.row
  exact ⟨_, _, _, rfl⟩
theorem ST.rbset {w0 w : World} {h r g c0 : Nat} {x : In} {v1 v2 v : Value} {q : List Int × Bool} (H : ST w0 w h r g c0 x v1 v2 v q) (u : Value) (o : Obj) : ((w.setCell ⟨h, 4, none⟩ u).alloc o).cell? ⟨r, 0, none⟩ = some (.pointer (some ⟨g, 0, none⟩)) := by
  have h1 : (w.setCell ⟨h, 4, none⟩ u).heap[r]? = _ := (Below.heap_setCell w ⟨h, 4, none⟩ u r (fun e => H.hr_ne e.symm)).trans H.rb
  have h2 := (heap_alloc_old (w.setCell ⟨h, 4, none⟩ u) o (lt_of_get h1)).trans h1
  rw [cell_of_row _ r 0 _ _ (0, 0) h2]
  rfl
theorem at_world {X : Exit → Act → World → Prop} {x : Exit} {t : Act} {W W' : World} (e : W' = W) (h : X x t W) : X x t W' := e ▸ h
theorem two_alloc {W : World} (o : Obj) (h j k : Nat) (u a0 : Value) (hh : h < W.heap.size) : ((W.setCell ⟨h, j, none⟩ u).setCell ⟨h, k, none⟩ a0).alloc o = ((W.alloc o).setCell ⟨h, j, none⟩ u).setCell ⟨h, k, none⟩ a0 := by
  simp [World.setCell_alloc_past, hh]
theorem one_alloc {W : World} (o : Obj) (h j : Nat) (u : Value) (hh : h < W.heap.size) : (W.setCell ⟨h, j, none⟩ u).alloc o = (W.alloc o).setCell ⟨h, j, none⟩ u := by
  simp [World.setCell_alloc_past, hh]
set_option maxRecDepth 20000 in
set_option maxHeartbeats 8000000 in
theorem ins_0 (w0 w : World) (g : Nat) (v : Value) (a o : Int) (q : List Int × Bool) (hp : PR w g v a q.2) (hr : Row w0 .u8 v q.1) (hx : Ext w0 w) (hg : w0.heap.size ≤ g) (ha : 0 ≤ a ∧ a < 8192) (hz : shapeZ o = 0) :
    Calls Tryz.prog 257 #[.pointer (some ⟨g, 0, none⟩), .int .i64 o] w (InsAns w0 g (insM true a o q)) := by
  obtain ⟨d0, d1, d2, f0, f1, f2⟩ := hp.cells
  have HZ := Lib.hid hz
  obtain ⟨R, hR⟩ : ∃ R, insM true a o q = R := ⟨_, rfl⟩
  rw [hR]
  unfold insM at hR
  simp [hz] at hR
  have HR := Lib.hid hR
  have HS := Lib.hid (fun w1 e => ST.start (w1 := w1) (o := o) hp hr hx hg e)
  have hbl : g < w.heap.size := hp.lt
  have w0le := hx.size
  clear hR hz hp d0 d2 f0 f1 f2
  go_enter Tryz.func257, Tryz.ntmps257
  go_wp2_with (go_at_call 267; refine (Shape_any o _).mono ?_; rintro e w1 ⟨rfl, x1⟩; rw [HZ.out]; have hs1 := HS.out _ x1; have y1 := hs1.rbcell; obtain ⟨p10, p11, p12, p13, p14, p15⟩ := hs1.xb.cells; simp only at p10 p11 p12 p13; have b1 := hs1.xb.free; obtain ⟨c10, c11, c12, c13, c14, c15⟩ := hs1.rc.cells; have m1 := hs1.rc.free; have q1 := hs1.xb.lt; have r1 := hs1.rc.lt)
  refine bodyPost_ret (v := .agg #[.int .i64 a, .int .i64 o, .int .i64 0, .int .i64 0, .slice none 0 0, .slice none 0 0]) (by simp [results, Tryz.results257, go_sem, c10, c11, c12, c13, c14, c15]) rfl ?_
  exact (hs1.out (six_set _ _ _ _ _ _ _)).of HR
set_option maxRecDepth 20000 in
set_option maxHeartbeats 8000000 in
theorem ins_1 (w0 w : World) (g : Nat) (v : Value) (a o : Int) (q : List Int × Bool) (hp : PR w g v a q.2) (hr : Row w0 .u8 v q.1) (hx : Ext w0 w) (hg : w0.heap.size ≤ g) (ha : 0 ≤ a ∧ a < 8192) (hz : shapeZ o = 1) :
    Calls Tryz.prog 257 #[.pointer (some ⟨g, 0, none⟩), .int .i64 o] w (InsAns w0 g (insM true a o q)) := by
  obtain ⟨d0, d1, d2, f0, f1, f2⟩ := hp.cells
  have HZ := Lib.hid hz
  obtain ⟨R, hR⟩ : ∃ R, insM true a o q = R := ⟨_, rfl⟩
  rw [hR]
  unfold insM at hR
  simp [hz] at hR
  have HR := Lib.hid hR
  have HS := Lib.hid (fun w1 e => ST.start (w1 := w1) (o := o) hp hr hx hg e)
  have hbl : g < w.heap.size := hp.lt
  have w0le := hx.size
  clear hR hz hp d0 d2 f0 f1 f2
  go_enter Tryz.func257, Tryz.ntmps257
  go_wp2_with (first
    | (go_at_call 267; refine (Shape_any o _).mono ?_; rintro e w1 ⟨rfl, x1⟩; rw [HZ.out]; have hs1 := HS.out _ x1; have y1 := hs1.rbcell; obtain ⟨p10, p11, p12, p13, p14, p15⟩ := hs1.xb.cells; simp only at p10 p11 p12 p13; have b1 := hs1.xb.free; obtain ⟨c10, c11, c12, c13, c14, c15⟩ := hs1.rc.cells; have m1 := hs1.rc.free; have q1 := hs1.xb.lt; have r1 := hs1.rc.lt)
    | (go_at_call 268; refine (plain_any w0 _ g _ _ a _ 1 hs1.pr hs1.row hs1.ext hs1.hg (by unfold Siz; simp)).mono ?_; rintro e w2 hp2; obtain ⟨rfl, u2, hs2⟩ := hs1.read hp2; have y2 := hs2.rbcell; obtain ⟨p20, p21, p22, p23, p24, p25⟩ := hs2.xb.cells; simp only at p20 p21 p22 p23; have b2 := hs2.xb.free; obtain ⟨c20, c21, c22, c23, c24, c25⟩ := hs2.rc.cells; have m2 := hs2.rc.free; have q2 := hs2.xb.lt; have r2 := hs2.rc.lt))
  have hs3 := hs2.field (hs2.xb.set2 (rdN true 1 false q).1) rfl rfl rfl
  refine bodyPost_ret (v := .agg #[.int .i64 a, .int .i64 o, .int .i64 (rdN true 1 false q).1, .int .i64 0, .slice none 0 0, .slice none 0 0]) (by simp [results, Tryz.results257, go_sem, c20, c21, c22, c23, c24, c25]) rfl ?_
  exact (hs3.out (six_set _ _ _ _ _ _ _)).of HR
set_option maxRecDepth 20000 in
set_option maxHeartbeats 8000000 in
theorem ins_2 (w0 w : World) (g : Nat) (v : Value) (a o : Int) (q : List Int × Bool) (hp : PR w g v a q.2) (hr : Row w0 .u8 v q.1) (hx : Ext w0 w) (hg : w0.heap.size ≤ g) (ha : 0 ≤ a ∧ a < 8192) (hz : shapeZ o = 2) :
    Calls Tryz.prog 257 #[.pointer (some ⟨g, 0, none⟩), .int .i64 o] w (InsAns w0 g (insM true a o q)) := by
  obtain ⟨d0, d1, d2, f0, f1, f2⟩ := hp.cells
  have HZ := Lib.hid hz
  obtain ⟨R, hR⟩ : ∃ R, insM true a o q = R := ⟨_, rfl⟩
  rw [hR]
  unfold insM at hR
  simp [hz] at hR
  have HR := Lib.hid hR
  have HS := Lib.hid (fun w1 e => ST.start (w1 := w1) (o := o) hp hr hx hg e)
  have hbl : g < w.heap.size := hp.lt
  have w0le := hx.size
  clear hR hz hp d0 d2 f0 f1 f2
  go_enter Tryz.func257, Tryz.ntmps257
  go_wp2_with (first
    | (go_at_call 267; refine (Shape_any o _).mono ?_; rintro e w1 ⟨rfl, x1⟩; rw [HZ.out]; have hs1 := HS.out _ x1; have y1 := hs1.rbcell; obtain ⟨p10, p11, p12, p13, p14, p15⟩ := hs1.xb.cells; simp only at p10 p11 p12 p13; have b1 := hs1.xb.free; obtain ⟨c10, c11, c12, c13, c14, c15⟩ := hs1.rc.cells; have m1 := hs1.rc.free; have q1 := hs1.xb.lt; have r1 := hs1.rc.lt)
    | (go_at_call 269; refine (signed_any w0 _ g _ _ a _ 2 hs1.pr hs1.row hs1.ext hs1.hg (by unfold Siz; simp)).mono ?_; rintro e w2 hp2; obtain ⟨rfl, u2, hs2⟩ := hs1.read hp2; have y2 := hs2.rbcell; obtain ⟨p20, p21, p22, p23, p24, p25⟩ := hs2.xb.cells; simp only at p20 p21 p22 p23; have b2 := hs2.xb.free; obtain ⟨c20, c21, c22, c23, c24, c25⟩ := hs2.rc.cells; have m2 := hs2.rc.free; have q2 := hs2.xb.lt; have r2 := hs2.rc.lt))
  have hs3 := hs2.field (hs2.xb.set2 (rdN true 2 true q).1) rfl rfl rfl
  refine bodyPost_ret (v := .agg #[.int .i64 a, .int .i64 o, .int .i64 (rdN true 2 true q).1, .int .i64 0, .slice none 0 0, .slice none 0 0]) (by simp [results, Tryz.results257, go_sem, c20, c21, c22, c23, c24, c25]) rfl ?_
  exact (hs3.out (six_set _ _ _ _ _ _ _)).of HR
set_option maxRecDepth 20000 in
set_option maxHeartbeats 8000000 in
theorem ins_3 (w0 w : World) (g : Nat) (v : Value) (a o : Int) (q : List Int × Bool) (hp : PR w g v a q.2) (hr : Row w0 .u8 v q.1) (hx : Ext w0 w) (hg : w0.heap.size ≤ g) (ha : 0 ≤ a ∧ a < 8192) (hz : shapeZ o = 3) :
    Calls Tryz.prog 257 #[.pointer (some ⟨g, 0, none⟩), .int .i64 o] w (InsAns w0 g (insM true a o q)) := by
  obtain ⟨d0, d1, d2, f0, f1, f2⟩ := hp.cells
  have HZ := Lib.hid hz
  obtain ⟨R, hR⟩ : ∃ R, insM true a o q = R := ⟨_, rfl⟩
  rw [hR]
  unfold insM at hR
  simp [hz] at hR
  have HR := Lib.hid hR
  have HS := Lib.hid (fun w1 e => ST.start (w1 := w1) (o := o) hp hr hx hg e)
  have hbl : g < w.heap.size := hp.lt
  have w0le := hx.size
  clear hR hz hp d0 d2 f0 f1 f2
  go_enter Tryz.func257, Tryz.ntmps257
  go_wp2_with (first
    | (go_at_call 267; refine (Shape_any o _).mono ?_; rintro e w1 ⟨rfl, x1⟩; rw [HZ.out]; have hs1 := HS.out _ x1; have y1 := hs1.rbcell; obtain ⟨p10, p11, p12, p13, p14, p15⟩ := hs1.xb.cells; simp only at p10 p11 p12 p13; have b1 := hs1.xb.free; obtain ⟨c10, c11, c12, c13, c14, c15⟩ := hs1.rc.cells; have m1 := hs1.rc.free; have q1 := hs1.xb.lt; have r1 := hs1.rc.lt)
    | (go_at_call 268; refine (plain_any w0 _ g _ _ a _ 2 hs1.pr hs1.row hs1.ext hs1.hg (by unfold Siz; simp)).mono ?_; rintro e w2 hp2; obtain ⟨rfl, u2, hs2⟩ := hs1.read hp2; have y2 := hs2.rbcell; obtain ⟨p20, p21, p22, p23, p24, p25⟩ := hs2.xb.cells; simp only at p20 p21 p22 p23; have b2 := hs2.xb.free; obtain ⟨c20, c21, c22, c23, c24, c25⟩ := hs2.rc.cells; have m2 := hs2.rc.free; have q2 := hs2.xb.lt; have r2 := hs2.rc.lt))
  have hs3 := hs2.field (hs2.xb.set2 (rdN true 2 false q).1) rfl rfl rfl
  refine bodyPost_ret (v := .agg #[.int .i64 a, .int .i64 o, .int .i64 (rdN true 2 false q).1, .int .i64 0, .slice none 0 0, .slice none 0 0]) (by simp [results, Tryz.results257, go_sem, c20, c21, c22, c23, c24, c25]) rfl ?_
  exact (hs3.out (six_set _ _ _ _ _ _ _)).of HR
set_option maxRecDepth 20000 in
set_option maxHeartbeats 8000000 in
theorem ins_4 (w0 w : World) (g : Nat) (v : Value) (a o : Int) (q : List Int × Bool) (hp : PR w g v a q.2) (hr : Row w0 .u8 v q.1) (hx : Ext w0 w) (hg : w0.heap.size ≤ g) (ha : 0 ≤ a ∧ a < 8192) (hz : shapeZ o = 4) :
    Calls Tryz.prog 257 #[.pointer (some ⟨g, 0, none⟩), .int .i64 o] w (InsAns w0 g (insM true a o q)) := by
  obtain ⟨d0, d1, d2, f0, f1, f2⟩ := hp.cells
  have HZ := Lib.hid hz
  obtain ⟨R, hR⟩ : ∃ R, insM true a o q = R := ⟨_, rfl⟩
  rw [hR]
  unfold insM at hR
  simp [hz] at hR
  have HR := Lib.hid hR
  have HS := Lib.hid (fun w1 e => ST.start (w1 := w1) (o := o) hp hr hx hg e)
  have hbl : g < w.heap.size := hp.lt
  have w0le := hx.size
  clear hR hz hp d0 d2 f0 f1 f2
  have hb := rdN_bound (st := true) (en := q.2) (s := 2) (sg := true) (by unfold Siz; simp) (bytes_of hr)
  rw [show (q.1, q.2) = q from rfl] at hb
  have hwf := wf_i64 (x := a + (rdN true 2 true q).1) (by omega) (by omega)
  go_enter Tryz.func257, Tryz.ntmps257
  go_wp2_with (first
    | (go_at_call 267; refine (Shape_any o _).mono ?_; rintro e w1 ⟨rfl, x1⟩; rw [HZ.out]; have hs1 := HS.out _ x1; have y1 := hs1.rbcell; obtain ⟨p10, p11, p12, p13, p14, p15⟩ := hs1.xb.cells; simp only at p10 p11 p12 p13; have b1 := hs1.xb.free; obtain ⟨c10, c11, c12, c13, c14, c15⟩ := hs1.rc.cells; have m1 := hs1.rc.free; have q1 := hs1.xb.lt; have r1 := hs1.rc.lt)
    | (go_at_call 270; refine (place_any w0 _ g _ _ a _ hs1.pr hs1.row hs1.ext hs1.hg ha).mono ?_; rintro e w2 hp2; obtain ⟨rfl, u2, hs2⟩ := hs1.read hp2; have y2 := hs2.rbcell; obtain ⟨p20, p21, p22, p23, p24, p25⟩ := hs2.xb.cells; simp only at p20 p21 p22 p23; have b2 := hs2.xb.free; obtain ⟨c20, c21, c22, c23, c24, c25⟩ := hs2.rc.cells; have m2 := hs2.rc.free; have q2 := hs2.xb.lt; have r2 := hs2.rc.lt))
  have hs3 := (hs2.app1 (l := [a + (rdN true 2 true q).1]) (Own.one_ w2 .i64 _ hwf hs2.le) (((Ext.refl w2).alloc _).grow _) (.inr rfl)).1
  have HO := hs3.out (six_set (w.heap.size + 1) (.int .i64 a) (.int .i64 o) (.int .i64 0) (.int .i64 0) (.slice (some ⟨w2.heap.size, 0, none⟩) 1 1) (.slice none 0 0))
  have F := six_xp hs3.rc ⟨a, o, 0, 0, [a + (rdN true 2 true q).1], []⟩ (.slice (some ⟨w2.heap.size, 0, none⟩) 1 1) (.slice none 0 0)
  simp only at F
  rw [← six_alloc _ _ _ _ _ _ _ _ _ _ _ q2 r2] at F HO
  obtain ⟨F0, F1, F2, F3, F4, F5⟩ := F.cells
  simp only at F0 F1 F2 F3
  refine bodyPost_ret (v := .agg #[.int .i64 a, .int .i64 o, .int .i64 0, .int .i64 0, .slice (some ⟨w2.heap.size, 0, none⟩) 1 1, .slice none 0 0]) (by simp [results, Tryz.results257, go_sem, F0, F1, F2, F3, F4, F5]) rfl ?_
  exact HO.of HR
set_option maxRecDepth 20000 in
set_option maxHeartbeats 8000000 in
theorem ins_5 (w0 w : World) (g : Nat) (v : Value) (a o : Int) (q : List Int × Bool) (hp : PR w g v a q.2) (hr : Row w0 .u8 v q.1) (hx : Ext w0 w) (hg : w0.heap.size ≤ g) (ha : 0 ≤ a ∧ a < 8192) (hz : shapeZ o = 5) :
    Calls Tryz.prog 257 #[.pointer (some ⟨g, 0, none⟩), .int .i64 o] w (InsAns w0 g (insM true a o q)) := by
  obtain ⟨d0, d1, d2, f0, f1, f2⟩ := hp.cells
  have HZ := Lib.hid hz
  obtain ⟨R, hR⟩ : ∃ R, insM true a o q = R := ⟨_, rfl⟩
  rw [hR]
  unfold insM at hR
  simp [hz] at hR
  have HR := Lib.hid hR
  have HS := Lib.hid (fun w1 e => ST.start (w1 := w1) (o := o) hp hr hx hg e)
  have hbl : g < w.heap.size := hp.lt
  have w0le := hx.size
  clear hR hz hp d0 d2 f0 f1 f2
  go_enter Tryz.func257, Tryz.ntmps257
  go_wp2_with (go_at_call 267; refine (Shape_any o _).mono ?_; rintro e w1 ⟨rfl, x1⟩; rw [HZ.out]; have hs1 := HS.out _ x1; have y1 := hs1.rbcell; obtain ⟨p10, p11, p12, p13, p14, p15⟩ := hs1.xb.cells; simp only at p10 p11 p12 p13; have b1 := hs1.xb.free; obtain ⟨c10, c11, c12, c13, c14, c15⟩ := hs1.rc.cells; have m1 := hs1.rc.free; have q1 := hs1.xb.lt; have r1 := hs1.rc.lt)
  go_region_law (first
    | ((refine step_call rfl 268 _ _ rfl #[.pointer (some ⟨g, 0, none⟩), .int .i64 1] (by simp [go_sem]) (by simp [go_sem]) ?_); refine (plain_any w0 _ g _ _ a _ 1 hs1.drew.pr hs1.row hs1.drew.ext hs1.hg (by unfold Siz; simp)).mono ?_; rintro e w2 hp2; obtain ⟨rfl, u2, hs2⟩ := hs1.drew.read hp2; refine ⟨_, rfl, ?_⟩; have y2 := hs2.rbcell; obtain ⟨p20, p21, p22, p23, p24, p25⟩ := hs2.xb.cells; simp only at p20 p21 p22 p23; have b2 := hs2.xb.free; obtain ⟨c20, c21, c22, c23, c24, c25⟩ := hs2.rc.cells; have m2 := hs2.rc.free; have q2 := hs2.xb.lt; have r2 := hs2.rc.lt)
    | ((refine step_call rfl 269 _ _ rfl #[.pointer (some ⟨g, 0, none⟩), .int .i64 1] (by simp [go_sem]) (by simp [go_sem]) ?_); refine (signed_any w0 _ g _ _ a _ 1 hs2.pr hs2.row hs2.ext hs2.hg (by unfold Siz; simp)).mono ?_; rintro e w3 hp3; obtain ⟨rfl, u3, hs3⟩ := hs2.read hp3; refine ⟨_, rfl, ?_⟩; have y3 := hs3.rbcell; obtain ⟨p30, p31, p32, p33, p34, p35⟩ := hs3.xb.cells; simp only at p30 p31 p32 p33; have b3 := hs3.xb.free; obtain ⟨c30, c31, c32, c33, c34, c35⟩ := hs3.rc.cells; have m3 := hs3.rc.free; have q3 := hs3.xb.lt; have r3 := hs3.rc.lt))
  all_goals
    go_wp2
    have hs4 := hs3.field (hs3.xb.set2 (rdN true 1 false q).1) rfl rfl rfl
    have hs5 := hs4.field (hs4.xb.set3 (rdN true 1 true (rdN true 1 false q).2).1) rfl rfl rfl
    refine bodyPost_ret (v := .agg #[.int .i64 a, .int .i64 o, .int .i64 (rdN true 1 false q).1, .int .i64 (rdN true 1 true (rdN true 1 false q).2).1, .slice none 0 0, .slice none 0 0]) (by simp [results, Tryz.results257, go_sem, c30, c31, c32, c33, c34, c35]) rfl ?_
    exact (hs5.out (six_set _ _ _ _ _ _ _)).of HR
set_option maxRecDepth 20000 in
set_option maxHeartbeats 8000000 in
theorem ins_6 (w0 w : World) (g : Nat) (v : Value) (a o : Int) (q : List Int × Bool) (hp : PR w g v a q.2) (hr : Row w0 .u8 v q.1) (hx : Ext w0 w) (hg : w0.heap.size ≤ g) (ha : 0 ≤ a ∧ a < 8192) (hz : shapeZ o = 6) :
    Calls Tryz.prog 257 #[.pointer (some ⟨g, 0, none⟩), .int .i64 o] w (InsAns w0 g (insM true a o q)) := by
  obtain ⟨d0, d1, d2, f0, f1, f2⟩ := hp.cells
  have HZ := Lib.hid hz
  obtain ⟨R, hR⟩ : ∃ R, insM true a o q = R := ⟨_, rfl⟩
  rw [hR]
  unfold insM at hR
  simp [hz] at hR
  have HR := Lib.hid hR
  have HS := Lib.hid (fun w1 e => ST.start (w1 := w1) (o := o) hp hr hx hg e)
  have hbl : g < w.heap.size := hp.lt
  have w0le := hx.size
  clear hR hz hp d0 d2 f0 f1 f2
  have hb := rdN_bound (st := true) (en := q.2) (s := 2) (sg := true) (by unfold Siz; simp) (bytes_of hr)
  rw [show (q.1, q.2) = q from rfl] at hb
  have hwf := wf_i64 (x := a + (rdN true 2 true q).1) (by omega) (by omega)
  go_enter Tryz.func257, Tryz.ntmps257
  go_wp2_with (go_at_call 267; refine (Shape_any o _).mono ?_; rintro e w1 ⟨rfl, x1⟩; rw [HZ.out]; have hs1 := HS.out _ x1; have y1 := hs1.rbcell; obtain ⟨p10, p11, p12, p13, p14, p15⟩ := hs1.xb.cells; simp only at p10 p11 p12 p13; have b1 := hs1.xb.free; obtain ⟨c10, c11, c12, c13, c14, c15⟩ := hs1.rc.cells; have m1 := hs1.rc.free; have q1 := hs1.xb.lt; have r1 := hs1.rc.lt)
  go_region_law (first
    | (((refine step_call rfl 270 _ _ rfl #[.pointer (some ⟨g, 0, none⟩)] (by simp [go_sem]) (by simp [go_sem]) ?_); refine (place_any w0 _ g _ _ a _ hs1.drew.pr hs1.row hs1.drew.ext hs1.hg ha).mono ?_; rintro e w2 hp2; obtain ⟨rfl, u2, hs2⟩ := hs1.drew.read hp2; refine ⟨_, rfl, ?_⟩; have y2 := hs2.rbcell; obtain ⟨p20, p21, p22, p23, p24, p25⟩ := hs2.xb.cells; simp only at p20 p21 p22 p23; have b2 := hs2.xb.free; obtain ⟨c20, c21, c22, c23, c24, c25⟩ := hs2.rc.cells; have m2 := hs2.rc.free; have q2 := hs2.xb.lt; have r2 := hs2.rc.lt); have ya2 := fun o => (hs2.alloc o).rbcell; have xa2 := fun o => (hs2.alloc o).xb.cells.2.2.1; have za2 := fun o => (hs2.alloc o).xb.cells.2.2.2.2.1; have fa2 := fun o => (hs2.alloc o).xb.free)
    | ((first | ((refine step_call rfl 269 _ _ rfl #[.pointer (some ⟨g, 0, none⟩), .int .i64 4] (by simp [go_sem]) (by simp [go_sem]) ?_); refine (signed_any w0 _ g _ _ a _ 4 (hs2.alloc _).pr hs2.row (hs2.alloc _).ext hs2.hg (by unfold Siz; simp)).mono ?_; rintro e w3 hp3; obtain ⟨rfl, u3, hs3⟩ := (hs2.alloc _).read hp3; refine ⟨_, rfl, ?_⟩; have y3 := hs3.rbcell; obtain ⟨p30, p31, p32, p33, p34, p35⟩ := hs3.xb.cells; simp only at p30 p31 p32 p33; have b3 := hs3.xb.free; obtain ⟨c30, c31, c32, c33, c34, c35⟩ := hs3.rc.cells; have m3 := hs3.rc.free; have q3 := hs3.xb.lt; have r3 := hs3.rc.lt) | ((refine step_call rfl 269 _ _ rfl #[.pointer (some ⟨g, 0, none⟩), .int .i64 4] (by simp [go_sem]) (by simp [go_sem]) ?_); refine (signed_any w0 _ g _ _ a _ 4 hs2.pr hs2.row hs2.ext hs2.hg (by unfold Siz; simp)).mono ?_; rintro e w3 hp3; obtain ⟨rfl, u3, hs3⟩ := hs2.read hp3; refine ⟨_, rfl, ?_⟩; have y3 := hs3.rbcell; obtain ⟨p30, p31, p32, p33, p34, p35⟩ := hs3.xb.cells; simp only at p30 p31 p32 p33; have b3 := hs3.xb.free; obtain ⟨c30, c31, c32, c33, c34, c35⟩ := hs3.rc.cells; have m3 := hs3.rc.free; have q3 := hs3.xb.lt; have r3 := hs3.rc.lt)); have ya3 := fun o => (hs3.alloc o).rbcell; have xa3 := fun o => (hs3.alloc o).xb.cells.2.2.1; have za3 := fun o => (hs3.alloc o).xb.cells.2.2.2.2.1; have fa3 := fun o => (hs3.alloc o).xb.free))
  all_goals
    first
      | (have hs5 := (hs3.app1 (l := [a + (rdN true 2 true q).1]) (Own.one_ w3 .i64 _ hwf hs3.le) (((Ext.refl w3).alloc _).grow _) (.inr rfl)).1
         have hs6 := hs5.field (hs5.xb.set2 (rdN true 4 true (rdN true 2 true q).2).1) rfl rfl rfl
         rw [← two_alloc _ _ _ _ _ _ q3] at hs6
         obtain ⟨W, hW⟩ : ∃ W, W = ((w3.setCell ⟨w.heap.size + 1 + 1, 4, none⟩ (.slice (some ⟨w3.heap.size, 0, none⟩) 1 1)).setCell ⟨w.heap.size + 1 + 1, 2, none⟩ (.int .i64 (rdN true 4 true (rdN true 2 true q).2).1)).alloc (.cells #[.int .i64 (a + (rdN true 2 true q).1)] 3) := ⟨_, rfl⟩
         have hs7 : ∃ v1, ST w0 W (w.heap.size + 1 + 1) w.heap.size g (w.heap.size + 1) ⟨a, o, (rdN true 4 true (rdN true 2 true q).2).1, 0, [a + (rdN true 2 true q).1], []⟩ v1 (.slice none 0 0) u3 (rdN true 4 true (rdN true 2 true q).2).2 := ⟨_, hW ▸ hs6⟩
         refine at_world (W := W) hW.symm ?_)
      | (have ho2 : Own w0.heap.size (w2.alloc (.cells #[.int .i64 (a + (rdN true 2 true q).1)] 3)) 3 .i64 (.slice (some ⟨w2.heap.size, 0, none⟩) 1 1) [a + (rdN true 2 true q).1] := Own.one_ w2 .i64 _ hwf hs2.le
         have hs5 := (hs3.app1' (ho2.kept hp3.2.2 (fun b hb e => (by injection e with e; subst e; exact own_ne ho2 (hs2.alloc _).pr (by decide) hb : False))) (World.grownBy.refl w3 _) (fun b _ hb => by cases hb)).1
         have hs6 := hs5.field (hs5.xb.set2 (rdN true 4 true (rdN true 2 true q).2).1) rfl rfl rfl
         obtain ⟨W, hW⟩ : ∃ W, W = (w3.setCell ⟨w.heap.size + 1 + 1, 4, none⟩ (.slice (some ⟨w2.heap.size, 0, none⟩) 1 1)).setCell ⟨w.heap.size + 1 + 1, 2, none⟩ (.int .i64 (rdN true 4 true (rdN true 2 true q).2).1) := ⟨_, rfl⟩
         have hs7 : ∃ v1, ST w0 W (w.heap.size + 1 + 1) w.heap.size g (w.heap.size + 1) ⟨a, o, (rdN true 4 true (rdN true 2 true q).2).1, 0, [a + (rdN true 2 true q).1], []⟩ v1 (.slice none 0 0) u3 (rdN true 4 true (rdN true 2 true q).2).2 := ⟨_, hW ▸ hs6⟩
         refine at_world (W := W) hW.symm ?_)
    clear hs1 hs2 hs3 hs5 hs6 hW
    obtain ⟨v7, hs7⟩ := hs7
    have y7 := hs7.rbcell
    go_wp2_with (go_at_call 271; refine (othersT_any w0 _ _ _ g _ _ _ _ _ _ hs7 ha (by simp) _ rfl).mono ?_; rintro e w8 ⟨rfl, v81, v82, u8, hs8⟩; obtain ⟨A8, n8, k8, rfl⟩ := hs8.o1.slice; obtain ⟨B8, n9, j8, rfl⟩ := hs8.o2.slice; have y8 := hs8.rbcell; obtain ⟨p80, p81, p82, p83, p84, p85⟩ := hs8.xb.cells; simp only at p80 p81 p82 p83; have b8 := hs8.xb.free; obtain ⟨c80, c81, c82, c83, c84, c85⟩ := hs8.rc.cells; have m8 := hs8.rc.free; have q8 := hs8.xb.lt; have r8 := hs8.rc.lt)
    refine bodyPost_ret (v := .agg #[.int .i64 a, .int .i64 o, .int .i64 (rdN true 4 true (rdN true 2 true q).2).1, .int .i64 0, .slice A8 n8 k8, .slice B8 n9 j8]) (by simp [results, Tryz.results257, go_sem, c80, c81, c82, c83, c84, c85]) rfl ?_
    exact (hs8.out (six_set _ _ _ _ _ _ _)).of HR
set_option maxRecDepth 20000 in
set_option maxHeartbeats 8000000 in
theorem ins_7 (w0 w : World) (g : Nat) (v : Value) (a o : Int) (q : List Int × Bool) (hp : PR w g v a q.2) (hr : Row w0 .u8 v q.1) (hx : Ext w0 w) (hg : w0.heap.size ≤ g) (ha : 0 ≤ a ∧ a < 8192) (hz : shapeZ o = 7) :
    Calls Tryz.prog 257 #[.pointer (some ⟨g, 0, none⟩), .int .i64 o] w (InsAns w0 g (insM true a o q)) := by
  obtain ⟨d0, d1, d2, f0, f1, f2⟩ := hp.cells
  have HZ := Lib.hid hz
  obtain ⟨R, hR⟩ : ∃ R, insM true a o q = R := ⟨_, rfl⟩
  rw [hR]
  unfold insM at hR
  simp [hz] at hR
  have HR := Lib.hid hR
  have HS := Lib.hid (fun w1 e => ST.start (w1 := w1) (o := o) hp hr hx hg e)
  have hbl : g < w.heap.size := hp.lt
  have w0le := hx.size
  clear hR hz hp d0 d2 f0 f1 f2
  have hb := rdN_bound (st := true) (en := q.2) (s := 2) (sg := true) (by unfold Siz; simp) (bytes_of hr)
  rw [show (q.1, q.2) = q from rfl] at hb
  have hwf := wf_i64 (x := a + (rdN true 2 true q).1) (by omega) (by omega)
  go_enter Tryz.func257, Tryz.ntmps257
  go_wp2_with (first
    | (go_at_call 267; refine (Shape_any o _).mono ?_; rintro e w1 ⟨rfl, x1⟩; rw [HZ.out]; have hs1 := HS.out _ x1; have y1 := hs1.rbcell; obtain ⟨p10, p11, p12, p13, p14, p15⟩ := hs1.xb.cells; simp only at p10 p11 p12 p13; have b1 := hs1.xb.free; obtain ⟨c10, c11, c12, c13, c14, c15⟩ := hs1.rc.cells; have m1 := hs1.rc.free; have q1 := hs1.xb.lt; have r1 := hs1.rc.lt)
    | ((go_at_call 270; refine (place_any w0 _ g _ _ a _ hs1.pr hs1.row hs1.ext hs1.hg ha).mono ?_; rintro e w2 hp2; obtain ⟨rfl, u2, hs2⟩ := hs1.read hp2; have y2 := hs2.rbcell; obtain ⟨p20, p21, p22, p23, p24, p25⟩ := hs2.xb.cells; simp only at p20 p21 p22 p23; have b2 := hs2.xb.free; obtain ⟨c20, c21, c22, c23, c24, c25⟩ := hs2.rc.cells; have m2 := hs2.rc.free; have q2 := hs2.xb.lt; have r2 := hs2.rc.lt); have ya2 := fun o => (hs2.alloc o).rbcell; have yc2 := hs2.rbset))
  have hs4 := (hs2.app1 (l := [a + (rdN true 2 true q).1]) (Own.one_ w2 .i64 _ hwf hs2.le) (((Ext.refl w2).alloc _).grow _) (.inr rfl)).1
  rw [← one_alloc _ _ _ _ q2] at hs4
  (go_at_call 271; refine (othersK_any w0 _ _ _ g _ _ _ _ _ _ hs4 ha (by simp) (by simp) _ rfl).mono ?_; rintro e w8 ⟨rfl, v81, v82, u8, hs8⟩; obtain ⟨A8, n8, k8, rfl⟩ := hs8.o1.slice; obtain ⟨B8, n9, j8, rfl⟩ := hs8.o2.slice; have y8 := hs8.rbcell; obtain ⟨p80, p81, p82, p83, p84, p85⟩ := hs8.xb.cells; simp only at p80 p81 p82 p83; have b8 := hs8.xb.free; obtain ⟨c80, c81, c82, c83, c84, c85⟩ := hs8.rc.cells; have m8 := hs8.rc.free; have q8 := hs8.xb.lt; have r8 := hs8.rc.lt)
  go_wp2
  refine bodyPost_ret (v := .agg #[.int .i64 a, .int .i64 o, .int .i64 0, .int .i64 0, .slice A8 n8 k8, .slice B8 n9 j8]) (by simp [results, Tryz.results257, go_sem, c80, c81, c82, c83, c84, c85]) rfl ?_
  exact (hs8.out (six_set _ _ _ _ _ _ _)).of HR
theorem ins_any (w0 w : World) (g : Nat) (v : Value) (a o : Int) (q : List Int × Bool) (hp : PR w g v a q.2) (hr : Row w0 .u8 v q.1) (hx : Ext w0 w) (hg : w0.heap.size ≤ g) (ha : 0 ≤ a ∧ a < 8192) :
    Calls Tryz.prog 257 #[.pointer (some ⟨g, 0, none⟩), .int .i64 o] w (InsAns w0 g (insM true a o q)) := by
  have hz := shapeZ_le o
  have hc : shapeZ o = 0 ∨ shapeZ o = 1 ∨ shapeZ o = 2 ∨ shapeZ o = 3 ∨ shapeZ o = 4 ∨ shapeZ o = 5 ∨ shapeZ o = 6 ∨ shapeZ o = 7 := by omega
  rcases hc with h | h | h | h | h | h | h | h
  · exact ins_0 w0 w g v a o q hp hr hx hg ha h
  · exact ins_1 w0 w g v a o q hp hr hx hg ha h
  · exact ins_2 w0 w g v a o q hp hr hx hg ha h
  · exact ins_3 w0 w g v a o q hp hr hx hg ha h
  · exact ins_4 w0 w g v a o q hp hr hx hg ha h
  · exact ins_5 w0 w g v a o q hp hr hx hg ha h
  · exact ins_6 w0 w g v a o q hp hr hx hg ha h
  · exact ins_7 w0 w g v a o q hp hr hx hg ha h
end Go.Proofs.YtokmeomjdpfknaaGreatDoor
namespace Go.Proofs.YtokmeomjdpfknaaGreatDoor
open Go.RowKit
set_option linter.unusedVariables false

abbrev InV := In × Value × Value
def InV.vals (e : InV) : Array Value := e.1.vals e.2.1 e.2.2
def ev0 : InV := (i0, .slice none 0 0, .slice none 0 0)
def Nest (w : World) (e : InV) : Prop := Row w .i64 e.2.1 e.1.to ∧ Row w .i64 e.2.2 e.1.ks
def NestO (B : Nat) (w : World) (e : InV) : Prop := Own B w 3 .i64 e.2.1 e.1.to ∧ Own B w 3 .i64 e.2.2 e.1.ks
theorem oneCell_row {w : World} {k : IntKind} {v : Value} {l : List Int} (h : Row w k v l) : v.oneCell' = true := by
  obtain ⟨A, c, rfl, -⟩ := h
  rfl
def ShI : Shp InV where
  T := 182
  n := 6
  vals := InV.vals
  zero := ev0
  nest := Nest
  nestO := NestO
  pos := by decide
  size := fun _ => rfl
  one := fun {w x} h u hu => by
    have h6 : u = .int .i64 x.1.a ∨ u = .int .i64 x.1.o ∨ u = .int .i64 x.1.n ∨ u = .int .i64 x.1.m ∨ u = x.2.1 ∨ u = x.2.2 := by simpa [InV.vals, In.vals] using hu
    rcases h6 with rfl | rfl | rfl | rfl | rfl | rfl
    · rfl
    · rfl
    · rfl
    · rfl
    · exact oneCell_row h.1
    · exact oneCell_row h.2
  ext := fun h he => ⟨h.1.ext he, h.2.ext he⟩
  extO := fun h he => ⟨h.1.ext he, h.2.ext he⟩
  low := fun h => ⟨h.1.row, h.2.row⟩
  kept := fun {B w w' x row} h hg hr => by
    refine ⟨h.1.kept hg fun g hv e => ?_, h.2.kept hg fun g hv e => ?_⟩
    · obtain ⟨c, z, h1⟩ := hr g e
      exact own_ne h.1 h1 (by decide) hv
    · obtain ⟨c, z, h1⟩ := hr g e
      exact own_ne h.2 h1 (by decide) hv
def RowI (w : World) (v : Value) (l : List In) : Prop := ∃ es : List InV, es.map (·.1) = l ∧ ShI.Row w v es
def OwnI (B : Nat) (w : World) (v : Value) (l : List In) : Prop := ∃ es : List InV, es.map (·.1) = l ∧ ShI.Own B w v es
def gn (l : List In) (j : Nat) : In := l.getD j i0
theorem gn_mem {l : List In} {j : Nat} (h : j < l.length) : gn l j ∈ l := by
  unfold gn
  rw [List.getD_eq_getElem?_getD, List.getElem?_eq_getElem h]
  exact List.getElem_mem h
theorem gn_get {l : List In} {j : Nat} (h : j < l.length) : gn l j = l[j] := by
  unfold gn
  rw [List.getD_eq_getElem?_getD, List.getElem?_eq_getElem h]
  rfl
theorem ge_gn {es : List InV} {l : List In} (h : es.map (·.1) = l) (j : Nat) : (ShI.el es j).1 = gn l j := by
  subst h
  unfold Shp.el gn
  rw [List.getD_eq_getElem?_getD, List.getD_eq_getElem?_getD, List.getElem?_map]
  cases es[j]? <;> rfl
def AtI (w : World) (b o : Nat) (x : In) (v1 v2 : Value) : Prop :=
  w.cell? ⟨b, o, none⟩ = some (.int .i64 x.a) ∧ w.cell? ⟨b, o + 1, none⟩ = some (.int .i64 x.o) ∧ w.cell? ⟨b, o + 2, none⟩ = some (.int .i64 x.n) ∧
  w.cell? ⟨b, o + 3, none⟩ = some (.int .i64 x.m) ∧ w.cell? ⟨b, o + 4, none⟩ = some v1 ∧ w.cell? ⟨b, o + 5, none⟩ = some v2
theorem AtI.of {w : World} {b o : Nat} {e : InV} (h : ShI.At w b o e) : AtI w b o e.1 e.2.1 e.2.2 :=
  ⟨h 0 (by decide), h 1 (by decide), h 2 (by decide), h 3 (by decide), h 4 (by decide), h 5 (by decide)⟩
section
variable {w w' : World} {B : Nat} {v : Value} {l : List In}
theorem RowI.ext (h : RowI w v l) (he : Ext w w') : RowI w' v l := by
  obtain ⟨es, e, h⟩ := h
  exact ⟨es, e, h.ext he⟩
theorem RowI.nil (w : World) : RowI w (.slice none 0 0) [] := ⟨[], rfl, Shp.Row.nil _ w⟩
theorem RowI.cut (h : RowI w v l) : ∃ A c, v = .slice A l.length c ∧ l.length ≤ c ∧ c ≤ maxLen ∧ (A = none → c = 0) := by
  obtain ⟨es, rfl, h⟩ := h
  rw [List.length_map]
  exact h.cut
theorem RowI.at {A : Option Addr} {n c : Nat} (h : RowI w (.slice A n c) l) (hl : 0 < l.length) :
    ∃ b o, A = some ⟨b, o, none⟩ ∧ ∀ j, j < l.length → ∃ v1 v2, ∀ W, Ext w W → AtI W b (o + j * 6) (gn l j) v1 v2 ∧ Row W .i64 v1 (gn l j).to ∧ Row W .i64 v2 (gn l j).ks := by
  obtain ⟨es, rfl, h⟩ := h
  rw [List.length_map] at hl
  obtain ⟨b, o, rfl, hc⟩ := h.at hl
  refine ⟨b, o, rfl, fun j hj => ?_⟩
  rw [List.length_map] at hj
  have hg := ge_gn (rfl : es.map (·.1) = _) j
  refine ⟨(ShI.el es j).2.1, (ShI.el es j).2.2, fun W e => ?_⟩
  obtain ⟨h1, h2⟩ := hc W e j hj
  refine ⟨?_, ?_, ?_⟩
  · rw [← hg]; exact AtI.of h1
  · rw [← hg]; exact h2.1
  · rw [← hg]; exact h2.2
theorem OwnI.row (h : OwnI B w v l) : RowI w v l := by
  obtain ⟨es, e, h⟩ := h
  exact ⟨es, e, h.row⟩
theorem OwnI.nil (B : Nat) (w : World) : OwnI B w (.slice none 0 0) [] := ⟨[], rfl, Shp.Own.nil _ _ _⟩
theorem OwnI.ext (h : OwnI B w v l) (he : Ext w w') : OwnI B w' v l := by
  obtain ⟨es, e, h⟩ := h
  exact ⟨es, e, h.ext he⟩
theorem OwnI.low (h : OwnI B w v l) : ∀ g, v.ownBlock = some g → B ≤ g := by
  obtain ⟨es, e, h⟩ := h
  exact h.low
theorem OwnI.slice (h : OwnI B w v l) : ∃ A c, v = .slice A l.length c ∧ l.length ≤ c ∧ c ≤ maxLen := by
  obtain ⟨A, c, h1, h2, h3, -⟩ := h.row.cut
  exact ⟨A, c, h1, h2, h3⟩
end
theorem infoI : (Tryz.prog.info? 182).map (fun i => (i.zero, i.size, i.bytes)) = some (some (.agg #[.int .i64 0, .int .i64 0, .int .i64 0, .int .i64 0, .slice none 0 0, .slice none 0 0]), 6, 80) := by kernel_rfl
theorem wpList_appI (w : World) {ops : Array Oper} {rest : List Oper} {o : Oper} {a : Act} {Q : Exit → Act → World → Prop} (hgd : Region.wanted o (yielded ops a.tmps) = true) (s y : Operand) (B : Nat)
    (hop : o.op = .call { callee := .builtin .append, args := #[s, y], argTypes := #[131, 131] })
    (v : Value) (l : List In) (hs : a.eval s = v) (ho : OwnI B w v l) (g : Nat) (x : In) (v1 v2 : Value) (T : TypeId) (hx : a.eval y = .slice (some ⟨g, 0, none⟩) 1 1) (hg : w.heap[g]? = some (.cells (x.vals v1 v2) T (0, 0)))
    (o1 : Own B w 3 .i64 v1 x.to) (o2 : Own B w 3 .i64 v2 x.ks)
    (hb : l.length ≤ 1000000000) (hB : B ≤ w.heap.size)
    (h : ∀ v' w', OwnI B w' v' (l ++ [x]) → w.grownBy w' v.ownBlock → (v'.ownBlock = v.ownBlock ∨ v'.ownBlock = some w.heap.size) → wpList Tryz.prog ops Q rest (a.put o.dst v') w') :
    wpList Tryz.prog ops Q (o :: rest) a w := by
  obtain ⟨es, rfl, ho⟩ := ho
  rw [List.length_map] at hb
  refine Shp.wpList_app ShI w hgd s y B _ _ 80 hop Tryz.underlying131 infoI rfl (by decide) v es hs ho _ [(x, v1, v2)] hx (Shp.Row.single (S := ShI) hg ⟨o1.row, o2.row⟩) (fun e he => by rw [List.mem_singleton.1 he]; exact ⟨o1, o2⟩) (by simp; omega) hB fun v' w' h1 h2 h3 => h v' w' ⟨_, by simp, h1⟩ h2 h3
end Go.Proofs.YtokmeomjdpfknaaGreatDoor
