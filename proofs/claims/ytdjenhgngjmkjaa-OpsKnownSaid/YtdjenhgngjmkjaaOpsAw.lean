/- The chapter's examples, as every statement of the layer runs them. -/
import Derived.Test.YtdjenhgngjmkjaaOpsDe
import Derived.Test.YtdjenhgngjmkjaaOpsC
namespace Go.Proofs.Ytdjenhgngjmkjaa
open Go.RowKit
set_option linter.unusedVariables false

set_option maxHeartbeats 2000000 in
theorem decodes_yes (v : Value) (l : List Int) (k : Int) (x : In) (v1 v2 : Value) (n : Int) (w : World) (h : Row w .u8 v l) (h1 : Row w .i64 v1 x.to) (h2 : Row w .i64 v2 x.ks) (hd : opsDec l k = (x, n, 0)) :
    Calls Try.prog 36 #[v, .int .i64 k, .agg (x.vals v1 v2), .int .i64 n] w fun e w' => e = .returned (.bool true) ∧ Ext w w' := by
  have H := Lib.hid h
  have H1 := Lib.hid h1
  have H2 := Lib.hid h2
  obtain ⟨A1, k1, rfl, -⟩ := h1
  obtain ⟨A2, k2, rfl, -⟩ := h2
  have HB := Lib.hid (fun W e => boxed (w := w) (W := W) (x := x) (v1 := .slice A1 x.to.length k1) (v2 := .slice A2 x.ks.length k2) e)
  obtain ⟨d0, d1, d2, d3, d4, d5⟩ := HB.out _ (Ext.refl _)
  have HD := Lib.hid (fun W (e : Ext w W) => Decode_any v l k W (H.out.ext e))
  rw [hd] at HD
  have HS := Lib.hid (fun W (e : Ext w W) u1 u2 (o1 : Row W .i64 u1 x.to) (o2 : Row W .i64 u2 x.ks) => refSame_any x x u1 u2 _ _ W o1 o2 (H1.out.ext e) (H2.out.ext e))
  unfold In.vals at HB HS d0 d1 d2 d3 d4 d5 ⊢
  clear d0 d1 d2 d3 d4 d5 hd
  go_enter Try.func36, Try.ntmps36
  go_wp2_with fail
  refine (HD.out _ ((Ext.refl w).alloc _)).mono ?_
  rintro e w1 ⟨v', rfl, ⟨u1, u2, rfl, o1, o2⟩, x1⟩
  obtain ⟨B1, n1, c1, rfl⟩ := o1.slice
  obtain ⟨B2, n2, c2, rfl⟩ := o2.slice
  unfold In.vals
  have X1 := ((Ext.refl w).alloc (.cells #[.int .i64 x.a, .int .i64 x.o, .int .i64 x.n, .int .i64 x.m, .slice A1 x.to.length k1, .slice A2 x.ks.length k2] 26)).trans x1
  obtain ⟨d0, d1, d2, d3, d4, d5⟩ := HB.out _ (x1.alloc (.cells #[.int .i64 x.a, .int .i64 x.o, .int .i64 x.n, .int .i64 x.m, .slice B1 n1 c1, .slice B2 n2 c2] 26))
  go_wp2_with fail
  refine (HS.out _ (X1.alloc _) _ _ (o1.row.ext ((Ext.refl _).alloc _)) (o2.row.ext ((Ext.refl _).alloc _))).mono ?_
  rintro e w2 ⟨rfl, x2⟩
  rw [show decide True = true from rfl]
  go_wp2
  go_ret
  exact ⟨rfl, (X1.alloc _).trans x2⟩
set_option maxHeartbeats 2000000 in
theorem fails_yes (v : Value) (l : List Int) (k : Int) (w : World) (h : Row w .u8 v l) (hd : opsDec l 0 = (i0, 0, k)) :
    Calls Try.prog 37 #[v, .int .i64 k] w fun e w' => e = .returned (.bool true) ∧ Ext w w' := by
  have HD := Lib.hid (fun W (e : Ext w W) => Decode_any v l 0 W (h.ext e))
  rw [hd] at HD
  have HS := Lib.hid (fun W u1 u2 (o1 : Row W .i64 u1 i0.to) (o2 : Row W .i64 u2 i0.ks) => refSame_any i0 i0 u1 u2 (.slice none 0 0) (.slice none 0 0) W o1 o2 (Own.nil 0 W 3 .i64).row (Own.nil 0 W 3 .i64).row)
  unfold In.vals at HS
  simp only [i0] at HS
  clear hd h
  go_enter Try.func37, Try.ntmps37
  go_wp2_with fail
  refine (HD.out _ (Ext.refl w)).mono ?_
  rintro e w1 ⟨v', rfl, ⟨u1, u2, rfl, o1, o2⟩, x1⟩
  obtain ⟨B1, n1, c1, rfl⟩ := o1.slice
  obtain ⟨B2, n2, c2, rfl⟩ := o2.slice
  unfold In.vals
  simp only [i0] at o1 o2 ⊢
  go_wp2_with fail
  refine (HS.out _ _ _ (o1.row.ext ((Ext.refl _).alloc _)) (o2.row.ext ((Ext.refl _).alloc _))).mono ?_
  rintro e w2 ⟨rfl, x2⟩
  go_wp2
  go_ret
  exact ⟨rfl, (x1.alloc _).trans x2⟩
theorem two_at (w : World) (A B : Obj) : ((w.alloc A).alloc B).heap[w.heap.size + 1]? = some B := by
  have h := heap_alloc_new (w.alloc A) B
  rwa [show (w.alloc A).heap.size = w.heap.size + 1 by simp] at h
theorem three_at (w : World) (A B C : Obj) : (((w.alloc A).alloc B).alloc C).heap[w.heap.size + 2]? = some C := by
  have h := heap_alloc_new ((w.alloc A).alloc B) C
  rwa [show ((w.alloc A).alloc B).heap.size = w.heap.size + 2 by simp] at h
theorem row_cells {w : World} {k : IntKind} {t : TypeId} {b n : Nat} (l : List Int) {cs : Array Value} (hb : w.heap[b]? = some (.cells cs t (0, 0))) (hc : cs = (l.map (Value.int k)).toArray) (hn : n = l.length) (hf : l.all (fun x => (Lit.int k x).wf) = true) (hm : l.length ≤ 65536) :
    Row w k (.slice (some ⟨b, 0, none⟩) n n) l := by
  subst hn hc
  refine ⟨_, _, rfl, Nat.le_refl _, by simp [maxLen]; omega, (fun h => by cases h), fun x hx => List.all_eq_true.1 hf x hx, fun _ => ⟨b, 0, rfl, lt_of_get hb, fun j hj => ?_⟩⟩
  rw [cell_of_row w b (0 + j) _ t (0, 0) hb]
  simp [gi, hj]
theorem row_nil (w : World) (k : IntKind) : Row w k (.slice none 0 0) [] := ⟨none, 0, rfl, by simp, by simp [maxLen], fun _ => rfl, Fit.nil k, fun h => by simp at h⟩
set_option maxHeartbeats 2000000 in
theorem awake_any (w : World) : Calls Try.prog 17 #[] w fun e w' => e = .returned (.bool true) ∧ Ext w w' := by
  go_enter Try.func17, Try.ntmps17
  go_wp2_with fail
  refine (decodes_yes _ [5, 3] 0 ⟨0, 5, 3, 0, [], []⟩ (.slice none 0 0) (.slice none 0 0) 2 _ (row_cells _ (heap_alloc_new _ _) rfl rfl (by decide) (by decide)) (row_nil _ _) (row_nil _ _) (by kernel_rfl)).mono ?_
  rintro e w1 ⟨rfl, x1⟩
  go_wp2_with fail
  refine (decodes_yes _ [0, 58, 255, 255] 1 ⟨1, 58, 0, 0, [0], []⟩ (.slice (some ⟨w1.heap.size + 1, 0, none⟩) 1 1) (.slice none 0 0) 4 _ (row_cells _ ((heap_alloc_old _ _ (by simp)).trans (heap_alloc_new _ _)) rfl rfl (by decide) (by decide)) (row_cells _ (two_at _ _ _) rfl rfl (by decide) (by decide)) (row_nil _ _) (by kernel_rfl)).mono ?_
  rintro e w2 ⟨rfl, x2⟩
  go_wp2_with fail
  refine (decodes_yes _ [60, 0, 9, 0, 1, 255, 255, 255, 255, 0, 11] 0 ⟨0, 60, 0, 0, [9, 11], [-1]⟩ (.slice (some ⟨w2.heap.size + 1, 0, none⟩) 2 2) (.slice (some ⟨w2.heap.size + 2, 0, none⟩) 1 1) 11 _ (row_cells _ ((heap_alloc_old _ _ (by simp; omega)).trans ((heap_alloc_old _ _ (by simp)).trans (heap_alloc_new _ _))) rfl rfl (by decide) (by decide)) (row_cells _ ((heap_alloc_old _ _ (by simp)).trans (two_at _ _ _)) rfl rfl (by decide) (by decide)) (row_cells _ (three_at _ _ _ _) rfl rfl (by decide) (by decide)) (by kernel_rfl)).mono ?_
  rintro e w3 ⟨rfl, x3⟩
  go_wp2_with fail
  refine (fails_yes _ [58, 0] 3 _ (row_cells _ (heap_alloc_new _ _) rfl rfl (by decide) (by decide)) (by kernel_rfl)).mono ?_
  rintro e w4 ⟨rfl, x4⟩
  go_wp2_with fail
  refine (fails_yes _ [90] 60 _ (row_cells _ (heap_alloc_new _ _) rfl rfl (by decide) (by decide)) (by kernel_rfl)).mono ?_
  rintro e w5 ⟨rfl, x5⟩
  go_wp2_with fail
  refine (fails_yes _ [58, 255, 255] 4 _ (row_cells _ (heap_alloc_new _ _) rfl rfl (by decide) (by decide)) (by kernel_rfl)).mono ?_
  rintro e w6 ⟨rfl, x6⟩
  go_wp2_with fail
  refine (fails_yes _ [] 9 _ (row_nil _ _) (by kernel_rfl)).mono ?_
  rintro e w7 ⟨rfl, x7⟩
  go_wp2
  go_ret
  exact ⟨rfl, ((Ext.refl w).alloc _).trans (x1.trans (((Ext.refl _).alloc _).alloc _ |>.trans (x2.trans ((((Ext.refl _).alloc _).alloc _).alloc _ |>.trans (x3.trans ((Ext.refl _).alloc _ |>.trans (x4.trans ((Ext.refl _).alloc _ |>.trans (x5.trans ((Ext.refl _).alloc _ |>.trans (x6.trans x7)))))))))))⟩
end Go.Proofs.Ytdjenhgngjmkjaa
