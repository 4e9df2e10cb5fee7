/- Several texts of this proof, one behind the other. -/
import Derived.Test.YtokmeomjdpfknaaGreatDoorZaAF
import Derived.Test.YtokmeomjdpfknaaGreatDoorZaZ
import Derived.Test.YtokmeomjdpfknaaGreatDoorZaA
/- The program's reader of classes, walked: typ, proto, handler, field. -/
namespace Go.Proofs.YtokmeomjdpfknaaGreatDoor
open Go.RowKit
set_option linter.unusedVariables false

def BK (w : World) (b : Nat) (cs : Array Value) (T : TypeId) : Prop := w.heap[b]? = some (.cells cs T (0, 0))
section
variable {w w' : World} {b g : Nat} {cs : Array Value} {T : TypeId}
theorem BK.new (w : World) (cs : Array Value) (T : TypeId) : BK (w.alloc (.cells cs T)) w.heap.size cs T := heap_alloc_new w _
theorem BK.ext (h : BK w b cs T) (e : Ext w w') : BK w' b cs T := (e.block b (lt_of_get h)).trans h
theorem BK.kept (h : BK w b cs T) (hg : w.grownBy w' (some g)) (hne : ¬ g = b) : BK w' b cs T := (hg.block b (lt_of_get h) (fun e => by injection e with e; exact hne e.symm)).trans h
theorem BK.lt (h : BK w b cs T) : b < w.heap.size := lt_of_get h
theorem BK.cell (h : BK w b cs T) (i : Nat) : w.cell? ⟨b, i, none⟩ = cs[i]? := by rw [cell_of_row w b i _ T (0, 0) h]
theorem BK.free (h : BK w b cs T) (i : Nat) : w.frozen? ⟨b, i, none⟩ = false := by simp [World.frozen?, show w.heap[b]? = _ from h]
theorem BK.put (h : BK w b cs T) (i : Nat) (u : Value) : BK (w.setCell ⟨b, i, none⟩ u) b (cs.setIfInBounds i u) T := heap_setCell_same w b i cs T u h
theorem BK.other (h : BK w b cs T) {p : Addr} (hne : ¬ p.block = b) (u : Value) : BK (w.setCell p u) b cs T := by
  unfold BK
  rw [Below.heap_setCell w p u b (fun e => hne e.symm)]
  exact h
end
theorem grown_newK {w w' : World} {r : Option Nat} (h : w.grownBy w' r) {b : Nat} (hb : w.heap.size ≤ b) (j : Nat) (u : Value) : w.grownBy (w'.setCell ⟨b, j, none⟩ u) r := by
  refine ⟨h.os, h.tape, h.output, by simpa [World.setCell] using h.size, fun i hi hne => ?_⟩
  rw [Below.heap_setCell w' ⟨b, j, none⟩ u i (fun e => by have : b = i := e.symm; omega)]
  exact h.block i hi hne
theorem RK.setO {w0 w : World} {g : Nat} {s : RSt} (h : RK w0 w g s) {b : Nat} (hb : w0.heap.size ≤ b) (hne : ¬ b = g) (j : Nat) (u : Value) : RK w0 (w.setCell ⟨b, j, none⟩ u) g s :=
  h.kept (only_set (World.grownBy.refl w (some b)) j u) (fun k hk => by injection hk with hk; subst hk; exact ⟨hne, hb⟩)
set_option maxHeartbeats 4000000 in
theorem rtyp_any (w0 w : World) (g : Nat) (s : RSt) (h : RK w0 w g s) (hl : s.1.length ≤ 140737488351232) :
    Calls Tryz.prog 147 #[.pointer (some ⟨g, 0, none⟩)] w (KRet w0 w g (gTy s).2 (.agg #[.int .i64 (gTy s).1.k, .string (gTy s).1.s])) := by
  have HT := Lib.hid (rtext_anyK w0 _ g s (h.ext ((Ext.refl w).alloc (.cells #[.int .i64 0, .string ⟨#[]⟩] 41))))
  have HD := Lib.hid (fun W => Type_k (gTx s).1 W (by have := (gTx_le s).2; omega))
  have hb0 := h.base
  have hlt := h.lt
  have hb0' : w0.heap.size ≤ w.heap.size := h.ext0.size
  unfold gTy
  obtain ⟨X, hX⟩ : ∃ X, gTx s = X := ⟨_, rfl⟩
  rw [hX] at HT HD ⊢
  obtain ⟨t, s1⟩ := X
  simp only at HT HD ⊢
  obtain ⟨Z, hZ⟩ : ∃ Z, typeZ t.data.toList = Z := ⟨_, rfl⟩
  rw [hZ] at HD ⊢
  obtain ⟨ty, er⟩ := Z
  simp only at HD ⊢
  obtain ⟨ty2, hty⟩ : ∃ y, tyO ty = y := ⟨_, rfl⟩
  rw [hty] at HD ⊢
  obtain ⟨k, n⟩ := ty2
  simp only at HD ⊢
  clear h hX hZ hty hl
  go_enter Tryz.func147, Tryz.ntmps147
  go_wp2_with fail
  refine HT.out.mono ?_
  rintro x w1 ⟨rfl, h1, g1⟩
  have B1 := Lib.hid ((BK.new w #[.int .i64 0, .string ⟨#[]⟩] 41).kept g1 (by omega))
  have H1 := Lib.hid h1
  have G1 := Lib.hid (grown_twoP' (ext_grownP ((Ext.refl w).alloc _) (some g)) g1)
  clear h1 g1
  go_wp2_with fail
  refine (HD.out _).mono ?_
  rintro x w2 ⟨rfl, x2⟩
  have HK := Lib.hid (keep_any w0 _ g s1 er (H1.out.ext (x2.alloc (.cells #[.int .i64 k, .string n] 41))))
  have B2 := Lib.hid (B1.out.ext (x2.alloc (.cells #[.int .i64 k, .string n] 41)))
  have C2 := Lib.hid (BK.new w2 #[.int .i64 k, .string n] 41)
  have G2 := Lib.hid (grown_thenP' G1.out (x2.alloc (.cells #[.int .i64 k, .string n] 41)))
  have l2 : g < w2.heap.size := by have := H1.out.lt; have := x2.size; omega
  clear x2
  go_wp2_with fail
  refine HK.out.mono ?_
  rintro x w3 ⟨rfl, h3, g3⟩
  have B3 := Lib.hid (B2.out.kept g3 (by omega))
  have C3 := Lib.hid (C2.out.kept g3 (by omega))
  have H3 := Lib.hid h3
  have G3 := Lib.hid (grown_twoP' G2.out g3)
  have y0 := C3.out.cell 0
  have y1 := C3.out.cell 1
  have z0 := B3.out.cell 0
  have z1 := B3.out.cell 1
  have f0 := B3.out.free 0
  have f1 := B3.out.free 1
  simp only [List.getElem?_toArray, List.getElem?_cons_zero, List.getElem?_cons_succ] at y0 y1 z0 z1
  clear h3 g3
  go_wp2
  refine bodyPost_ret (v := .agg #[.int .i64 k, .string n]) (by simp [results, Tryz.results147, go_sem, z0, z1]; try first | exact ⟨rfl, rfl⟩ | rfl) rfl ?_
  refine ⟨rfl, ?_, ?_⟩
  · exact (H3.out.setO hb0' (by omega) 0 _).setO hb0' (by omega) 1 _
  · exact grown_newK (grown_newK G3.out (Nat.le_refl _) 0 _) (Nat.le_refl _) 1 _
theorem Shp.Own.keptU {α : Type} {S : Shp α} {B : Nat} {w w' : World} {v : Value} {l : List α} {g : Nat} (h : S.Own B w v l) (hg : w.grownBy w' (some g)) (hlt : g < B) (hf : ∀ x, S.nestO B w x → S.nestO B w' x) : S.Own B w' v l :=
  h.kept hg (fun k hk e => by injection e with e; have := h.low k hk; omega) (fun x _ hx => hf x hx)
theorem Shp.Own.baseF {α : Type} {S : Shp α} {B B' : Nat} {w : World} {v : Value} {l : List α} (h : S.Own B w v l) (hB : B' ≤ B) (hf : ∀ x, S.nestO B w x → S.nestO B' w x) : S.Own B' w v l := by
  obtain ⟨⟨h1, h2⟩, h3⟩ := h
  refine ⟨⟨h1, ?_⟩, fun x hx => hf x (h3 x hx)⟩
  rcases h2 with h2 | ⟨g, cap, cur, hv, hb, hr⟩
  · exact .inl h2
  · exact .inr ⟨g, cap, cur, hv, by omega, hr⟩
theorem Own.keptU {B : Nat} {w w' : World} {e : TypeId} {k : IntKind} {v : Value} {l : List Int} {g : Nat} (h : Own B w e k v l) (hg : w.grownBy w' (some g)) (hlt : g < B) : Own B w' e k v l :=
  h.kept hg (fun k hk e => by injection e with e; have := h.low k hk; omega)
theorem NestMO.keptU {B : Nat} {w w' : World} {x : MeV} {g : Nat} (h : NestMO B w x) (hg : w.grownBy w' (some g)) (hlt : g < B) : NestMO B w' x :=
  ⟨h.1.keptU hg hlt (fun _ h => h), h.2.1.keptU hg hlt, h.2.2.keptU hg hlt (fun _ h => h)⟩
theorem NestMO.base {B B' : Nat} {w : World} {x : MeV} (h : NestMO B w x) (hB : B' ≤ B) : NestMO B' w x :=
  ⟨h.1.baseF hB (fun _ h => h), h.2.1.base hB, h.2.2.baseF hB (fun _ h => h)⟩
theorem set_grown (w : World) (b j : Nat) (u : Value) : w.grownBy (w.setCell ⟨b, j, none⟩ u) (some b) := only_set (World.grownBy.refl w (some b)) j u
set_option maxHeartbeats 4000000 in
theorem rproto_any (w0 w : World) (g : Nat) (s : RSt) (h : RK w0 w g s) (hl : s.1.length ≤ 140737488351232) :
    Calls Tryz.prog 148 #[.pointer (some ⟨g, 0, none⟩)] w fun x w' => ∃ v, KRet w0 w g (gPr s).2 (.agg #[.int .i64 (tyO (gPr s).1.ret).k, .string (tyO (gPr s).1.ret).s, v]) x w' ∧ ShT.Own w.heap.size w' v ((gPr s).1.args.map tyO) := by
  have HT := Lib.hid (rtext_anyK w0 _ g s (h.ext ((Ext.refl w).alloc (.cells #[.int .i64 0, .string ⟨#[]⟩, .slice none 0 0] 44))))
  have HD := Lib.hid (fun W => Proto_k (gTx s).1 W (by have := (gTx_le s).2; omega))
  have hb0 := h.base
  have hlt := h.lt
  have hb0' : w0.heap.size ≤ w.heap.size := h.ext0.size
  unfold gPr
  obtain ⟨X, hX⟩ : ∃ X, gTx s = X := ⟨_, rfl⟩
  rw [hX] at HT HD ⊢
  obtain ⟨t, s1⟩ := X
  simp only at HT HD ⊢
  obtain ⟨Z, hZ⟩ : ∃ Z, protoZ t.data.toList = Z := ⟨_, rfl⟩
  rw [hZ] at HD ⊢
  obtain ⟨p, er⟩ := Z
  simp only at HD ⊢
  obtain ⟨ty2, hty⟩ : ∃ y, tyO p.ret = y := ⟨_, rfl⟩
  obtain ⟨ars, has⟩ : ∃ y, p.args.map tyO = y := ⟨_, rfl⟩
  rw [hty, has] at HD ⊢
  obtain ⟨k, n⟩ := ty2
  simp only at HD ⊢
  clear h hX hZ hty has hl
  go_enter Tryz.func148, Tryz.ntmps148
  go_wp2_with fail
  refine HT.out.mono ?_
  rintro x w1 ⟨rfl, h1, g1⟩
  have B1 := Lib.hid ((BK.new w #[.int .i64 0, .string ⟨#[]⟩, .slice none 0 0] 44).kept g1 (by omega))
  have H1 := Lib.hid h1
  have G1 := Lib.hid (grown_twoP' (ext_grownP ((Ext.refl w).alloc _) (some g)) g1)
  have l1 := B1.out.lt
  clear h1 g1
  go_wp2_with fail
  refine (HD.out _).mono ?_
  rintro x w2 ⟨v, rfl, ho, x2⟩
  obtain ⟨A, c, rfl, -⟩ := ho.slice
  have HK := Lib.hid (keep_any w0 _ g s1 er (H1.out.ext (x2.alloc (.cells #[.int .i64 k, .string n, .slice A ars.length c] 44))))
  have B2 := Lib.hid (B1.out.ext (x2.alloc (.cells #[.int .i64 k, .string n, .slice A ars.length c] 44)))
  have C2 := Lib.hid (BK.new w2 #[.int .i64 k, .string n, .slice A ars.length c] 44)
  have O2 := Lib.hid (ho.ext ((Ext.refl w2).alloc (.cells #[.int .i64 k, .string n, .slice A ars.length c] 44)))
  have G2 := Lib.hid (grown_thenP' G1.out (x2.alloc (.cells #[.int .i64 k, .string n, .slice A ars.length c] 44)))
  have l2 : g < w2.heap.size := by have := H1.out.lt; have := x2.size; omega
  have l3 : g < w1.heap.size := H1.out.lt
  obtain ⟨q, hq⟩ : ∃ q, ars.length = q := ⟨_, rfl⟩
  rw [hq] at HK B2 C2 O2 G2 ⊢
  clear x2 ho hq
  go_wp2_with fail
  refine HK.out.mono ?_
  rintro x w3 ⟨rfl, h3, g3⟩
  have B3 := Lib.hid (B2.out.kept g3 (by omega))
  have C3 := Lib.hid (C2.out.kept g3 (by omega))
  have O3 := Lib.hid (O2.out.keptU g3 l3 (fun _ h => h))
  have H3 := Lib.hid h3
  have G3 := Lib.hid (grown_twoP' G2.out g3)
  have y0 := C3.out.cell 0
  have y1 := C3.out.cell 1
  have y2 := C3.out.cell 2
  have z0 := B3.out.cell 0
  have z1 := B3.out.cell 1
  have z2 := B3.out.cell 2
  have f0 := B3.out.free 0
  have f1 := B3.out.free 1
  have f2 := B3.out.free 2
  simp only [List.getElem?_toArray, List.getElem?_cons_zero, List.getElem?_cons_succ] at y0 y1 y2 z0 z1 z2
  clear h3 g3
  go_wp2
  refine bodyPost_ret (v := .agg #[.int .i64 k, .string n, .slice A q c]) (by simp [results, Tryz.results148, go_sem, z0, z1, z2]; try first | exact ⟨rfl, rfl⟩ | rfl) rfl ?_
  refine ⟨_, ⟨rfl, ?_, ?_⟩, ?_⟩
  · exact ((H3.out.setO hb0' (by omega) 0 _).setO hb0' (by omega) 1 _).setO hb0' (by omega) 2 _
  · exact grown_newK (grown_newK (grown_newK G3.out (Nat.le_refl _) 0 _) (Nat.le_refl _) 1 _) (Nat.le_refl _) 2 _
  · exact (((O3.out.keptU (set_grown _ _ _ _) l1 (fun _ h => h)).keptU (set_grown _ _ _ _) l1 (fun _ h => h)).keptU (set_grown _ _ _ _) l1 (fun _ h => h)).baseF (by omega) (fun _ h => h)
set_option maxHeartbeats 4000000 in
theorem rhandler_any (w0 w : World) (g : Nat) (s : RSt) (h : RK w0 w g s) :
    Calls Tryz.prog 151 #[.pointer (some ⟨g, 0, none⟩)] w (KRet w0 w g (gHd s).2 (.agg (gHd s).1.vals)) := by
  have HN := Lib.hid (fun W s' (hW : RK w0 W g s') => rnumber_any w0 W g s' hW)
  have hb0 := h.base
  have hlt := h.lt
  have hb0' : w0.heap.size ≤ w.heap.size := h.ext0.size
  have N1 := Lib.hid (HN.out _ s (h.ext ((Ext.refl w).alloc (.cells #[.int .i64 0, .int .i64 0, .int .i64 0, .int .i64 0] 58))))
  have HN2 := Lib.hid (fun W (hW : RK w0 W g (gU s).2) => HN.out W _ hW)
  have HN3 := Lib.hid (fun W (hW : RK w0 W g (gU (gU s).2).2) => HN.out W _ hW)
  have HN4 := Lib.hid (fun W (hW : RK w0 W g (gU (gU (gU s).2).2).2) => HN.out W _ hW)
  unfold gHd Hd.vals
  simp only
  obtain ⟨X4, hX4⟩ : ∃ X, gU (gU (gU (gU s).2).2).2 = X := ⟨_, rfl⟩
  rw [hX4] at HN4 ⊢
  obtain ⟨X3, hX3⟩ : ∃ X, gU (gU (gU s).2).2 = X := ⟨_, rfl⟩
  rw [hX3] at HN3 HN4 ⊢
  obtain ⟨X2, hX2⟩ : ∃ X, gU (gU s).2 = X := ⟨_, rfl⟩
  rw [hX2] at HN2 HN3 ⊢
  obtain ⟨X1, hX1⟩ : ∃ X, gU s = X := ⟨_, rfl⟩
  rw [hX1] at N1 HN2 ⊢
  obtain ⟨n1, s1⟩ := X1
  obtain ⟨n2, s2⟩ := X2
  obtain ⟨n3, s3⟩ := X3
  obtain ⟨n4, s4⟩ := X4
  simp only at N1 HN2 HN3 HN4 ⊢
  clear h hX1 hX2 hX3 hX4 HN
  go_enter Tryz.func151, Tryz.ntmps151
  go_wp2_with fail
  refine N1.out.mono ?_
  rintro x w1 ⟨rfl, h1, g1⟩
  have B1 := Lib.hid ((BK.new w #[.int .i64 0, .int .i64 0, .int .i64 0, .int .i64 0] 58).kept g1 (by omega))
  have N2 := Lib.hid (HN2.out w1 h1)
  have G1 := Lib.hid (grown_twoP' (ext_grownP ((Ext.refl w).alloc _) (some g)) g1)
  clear h1 g1
  go_wp2_with fail
  refine N2.out.mono ?_
  rintro x w2 ⟨rfl, h2, g2⟩
  have B2 := Lib.hid (B1.out.kept g2 (by omega))
  have N3 := Lib.hid (HN3.out w2 h2)
  have G2 := Lib.hid (grown_twoP' G1.out g2)
  clear h2 g2
  go_wp2_with fail
  refine N3.out.mono ?_
  rintro x w3 ⟨rfl, h3, g3⟩
  have B3 := Lib.hid (B2.out.kept g3 (by omega))
  have N4 := Lib.hid (HN4.out w3 h3)
  have G3 := Lib.hid (grown_twoP' G2.out g3)
  clear h3 g3
  go_wp2_with fail
  refine N4.out.mono ?_
  rintro x w4 ⟨rfl, h4, g4⟩
  have B4 := Lib.hid (B3.out.kept g4 (by omega))
  have H4 := Lib.hid h4
  have G4 := Lib.hid (grown_twoP' G3.out g4)
  have z0 := B4.out.cell 0
  have z1 := B4.out.cell 1
  have z2 := B4.out.cell 2
  have z3 := B4.out.cell 3
  have f0 := B4.out.free 0
  have f1 := B4.out.free 1
  have f2 := B4.out.free 2
  have f3 := B4.out.free 3
  simp only [List.getElem?_toArray, List.getElem?_cons_zero, List.getElem?_cons_succ] at z0 z1 z2 z3
  clear h4 g4
  go_wp2
  refine bodyPost_ret (v := .agg #[.int .i64 n1, .int .i64 n2, .int .i64 n3, .int .i64 n4]) (by simp [results, Tryz.results151, go_sem, z0, z1, z2, z3]; try first | exact ⟨rfl, rfl⟩ | rfl) rfl ?_
  refine ⟨rfl, ?_, ?_⟩
  · exact (((H4.out.setO hb0' (by omega) 0 _).setO hb0' (by omega) 1 _).setO hb0' (by omega) 2 _).setO hb0' (by omega) 3 _
  · exact grown_newK (grown_newK (grown_newK (grown_newK G4.out (Nat.le_refl _) 0 _) (Nat.le_refl _) 1 _) (Nat.le_refl _) 2 _) (Nat.le_refl _) 3 _
set_option maxHeartbeats 4000000 in
theorem rfield_any (w0 w : World) (g : Nat) (s : RSt) (h : RK w0 w g s) (hl : s.1.length ≤ 140737488351232) :
    Calls Tryz.prog 96 #[.pointer (some ⟨g, 0, none⟩)] w (KRet w0 w g (gFd s).2 (.agg (gFd s).1.vals)) := by
  have N1 := Lib.hid (rupTo_any w0 _ g s 1 (h.ext ((Ext.refl w).alloc (.cells #[.bool false, .string ⟨#[]⟩, .int .i64 0, .string ⟨#[]⟩] 63))))
  have HN2 := Lib.hid (fun W (hW : RK w0 W g (gUp 1 s).2) => rtext_anyK w0 W g _ hW)
  have HN3 := Lib.hid (fun W (hW : RK w0 W g (gTx (gUp 1 s).2).2) => rtyp_any w0 W g _ hW (by have := (gTx_le (gUp 1 s).2).1; have := gUp_len 1 s; omega))
  have hb0 := h.base
  have hlt := h.lt
  have hb0' : w0.heap.size ≤ w.heap.size := h.ext0.size
  unfold gFd Fd.vals
  simp only
  obtain ⟨X3, hX3⟩ : ∃ X, gTy (gTx (gUp 1 s).2).2 = X := ⟨_, rfl⟩
  rw [hX3] at HN3 ⊢
  obtain ⟨X2, hX2⟩ : ∃ X, gTx (gUp 1 s).2 = X := ⟨_, rfl⟩
  rw [hX2] at HN2 HN3 ⊢
  obtain ⟨X1, hX1⟩ : ∃ X, gUp 1 s = X := ⟨_, rfl⟩
  rw [hX1] at N1 HN2 ⊢
  obtain ⟨n1, s1⟩ := X1
  obtain ⟨t2, s2⟩ := X2
  obtain ⟨⟨k3, t3⟩, s3⟩ := X3
  simp only at N1 HN2 HN3 ⊢
  obtain ⟨bb, hbb⟩ : ∃ b : Bool, (n1 == 1) = b := ⟨_, rfl⟩
  have hbd : decide (n1 = 1) = bb := by rw [← hbb]; by_cases e : n1 = 1 <;> simp [e]
  rw [hbd]
  clear h hX1 hX2 hX3 hl hbd
  go_enter Tryz.func96, Tryz.ntmps96
  go_wp2_with fail
  refine N1.out.mono ?_
  rintro x w1 ⟨rfl, h1, g1⟩
  have B1 := Lib.hid ((BK.new w #[.bool false, .string ⟨#[]⟩, .int .i64 0, .string ⟨#[]⟩] 63).kept g1 (by omega))
  have N2 := Lib.hid (HN2.out w1 h1)
  have G1 := Lib.hid (grown_twoP' (ext_grownP ((Ext.refl w).alloc _) (some g)) g1)
  clear h1 g1
  go_wp2_with fail
  refine N2.out.mono ?_
  rintro x w2 ⟨rfl, h2, g2⟩
  have B2 := Lib.hid (B1.out.kept g2 (by omega))
  have N3 := Lib.hid (HN3.out w2 h2)
  have G2 := Lib.hid (grown_twoP' G1.out g2)
  clear h2 g2
  go_wp2_with fail
  refine N3.out.mono ?_
  rintro x w4 ⟨rfl, h4, g4⟩
  have B4 := Lib.hid (B2.out.kept g4 (by omega))
  have H4 := Lib.hid h4
  have G4 := Lib.hid (grown_twoP' G2.out g4)
  have z0 := B4.out.cell 0
  have z1 := B4.out.cell 1
  have z2 := B4.out.cell 2
  have z3 := B4.out.cell 3
  have f0 := B4.out.free 0
  have f1 := B4.out.free 1
  have f2 := B4.out.free 2
  have f3 := B4.out.free 3
  simp only [List.getElem?_toArray, List.getElem?_cons_zero, List.getElem?_cons_succ] at z0 z1 z2 z3
  clear h4 g4
  go_wp2
  refine bodyPost_ret (v := .agg #[.bool bb, .string t2, .int .i64 k3, .string t3]) (by simp [results, Tryz.results96, go_sem, z0, z1, z2, z3]; try first | exact ⟨rfl, rfl⟩ | rfl) rfl ?_
  refine ⟨rfl, ?_, ?_⟩
  · exact (((H4.out.setO hb0' (by omega) 0 _).setO hb0' (by omega) 1 _).setO hb0' (by omega) 2 _).setO hb0' (by omega) 3 _
  · exact grown_newK (grown_newK (grown_newK (grown_newK G4.out (Nat.le_refl _) 0 _) (Nat.le_refl _) 1 _) (Nat.le_refl _) 2 _) (Nat.le_refl _) 3 _
end Go.Proofs.YtokmeomjdpfknaaGreatDoor
/- The program's sameMethod, walked. -/
namespace Go.Proofs.YtokmeomjdpfknaaGreatDoor
open Go.RowKit
set_option linter.unusedVariables false

theorem tyD_inj {a b : Ty} (h : tyD a = tyD b) : a = b := by
  obtain ⟨k, s⟩ := a
  obtain ⟨k', s'⟩ := b
  unfold tyD at h
  injection h with h1 h2
  simp only at h1 h2
  rw [h1, show s = s' from (show bs s.data.toList = bs s'.data.toList by rw [h2])]
theorem map_tyD_inj : ∀ {l m : List Ty}, l.map tyD = m.map tyD → l = m
  | [], [], _ => rfl
  | [], _ :: _, h => by cases h
  | _ :: _, [], h => by cases h
  | a :: l, b :: m, h => by
    rw [List.map_cons, List.map_cons] at h
    injection h with h1 h2
    rw [tyD_inj h1, map_tyD_inj h2]
theorem pr_inj {x y : Me} (h : x.pr = y.pr) : x.ret = y.ret ∧ x.args = y.args := by
  unfold Me.pr at h
  injection h with h1 h2
  exact ⟨tyD_inj h1, map_tyD_inj h2⟩
theorem me_same {x y : Me} (h1 : x.st = y.st) (h2 : x.ab = y.ab) (h3 : x.nm = y.nm) (h4 : x.pr = y.pr) (h5 : x.sk = y.sk) (h6 : x.lo = y.lo) (h7 : x.code = y.code) (h8 : x.hs = y.hs) : x = y := by
  obtain ⟨h4, h4'⟩ := pr_inj h4
  obtain ⟨a1, a2, a3, a4, a5, a6, a7, a8, a9⟩ := x
  obtain ⟨b1, b2, b3, b4, b5, b6, b7, b8, b9⟩ := y
  simp only at h1 h2 h3 h4 h4' h5 h6 h7 h8
  rw [h1, h2, h3, h4, h4', h5, h6, h7, h8]
theorem bool_ne {a b : Bool} (h : ¬ a = b) : (a == b) = false := by cases a <;> cases b <;> simp_all
theorem int_ne {a b : Int} (h : ¬ a = b) : (a == b) = false := by simpa using h
set_option maxRecDepth 100000 in
set_option maxHeartbeats 16000000 in
theorem sameMethod_any (x y : Me) (va vc vh va' vc' vh' : Value) (w : World) (hx : MeAt w x va vc vh) (hy : MeAt w y va' vc' vh') (rx : MeRoom x) (ry : MeRoom y) :
    Calls Tryz.prog 41 #[.agg (x.vals va vc vh), .agg (y.vals va' vc' vh')] w fun e w' => e = .returned (.bool (decide (x = y))) ∧ Ext w w' := by
  have HP := Lib.hid (fun W (e : Ext w W) => SameProto_k x y va va' W (hx.1.ext e) (hy.1.ext e) rx ry)
  have HB := Lib.hid (fun W (e : Ext w W) => equal_any vc vc' x.code y.code W (hx.2.1.ext e) (hy.2.1.ext e))
  have HH := Lib.hid (fun W (e : Ext w W) => equalH_any vh vh' x.hs y.hs W (hx.2.2.ext e) (hy.2.2.ext e))
  have X0 : Hid (∀ o p : Obj, Ext w ((w.alloc o).alloc p)) := Lib.hid (fun o p => ((Ext.refl w).alloc o).alloc p)
  have BX := Lib.hid (fun W (e : Ext ((w.alloc (.cells (x.vals va vc vh) 47)).alloc (.cells (y.vals va' vc' vh') 47)) W) => ((BK.new w (x.vals va vc vh) 47).ext ((Ext.refl _).alloc (.cells (y.vals va' vc' vh') 47))).ext e)
  have BY := Lib.hid (fun W (e : Ext ((w.alloc (.cells (x.vals va vc vh) 47)).alloc (.cells (y.vals va' vc' vh') 47)) W) => (show BK _ (w.heap.size + 1) (y.vals va' vc' vh') 47 from by have := BK.new (w.alloc (.cells (x.vals va vc vh) 47)) (y.vals va' vc' vh') 47; simpa [BK] using this).ext e)
  clear hx hy rx ry
  unfold Me.vals at BX BY ⊢
  by_cases h1 : x.st = y.st
  · by_cases h2 : x.ab = y.ab
    · by_cases h3 : x.nm = y.nm
      · by_cases h4 : x.pr = y.pr
        · by_cases h5 : x.sk = y.sk
          · by_cases h6 : x.lo = y.lo
            · by_cases h7 : x.code = y.code
              · by_cases h8 : x.hs = y.hs
                · have HE := Lib.hid (show decide (x = y) = true from decide_eq_true (me_same h1 h2 h3 h4 h5 h6 h7 h8))
                  simp only [decide_eq_true h4] at HP
                  simp only [decide_eq_true h7] at HB
                  simp only [decide_eq_true h8] at HH
                  have e1 : (x.st == y.st) = true := by rw [h1]; simp
                  have e2 : (x.ab == y.ab) = true := by rw [h2]; simp
                  have e3 : (x.nm.toList == y.nm.toList) = true := by rw [h3]; simp
                  have e5 : (x.sk == y.sk) = true := by rw [h5]; simp
                  have e6 : (x.lo == y.lo) = true := by rw [h6]; simp
                  clear h1 h2 h3 h5 h6 h4 h7 h8
                  go_enter Tryz.func41, Tryz.ntmps41
                  go_wp2_with fail
                  refine (HP.out _ (X0.out _ _)).mono ?_
                  rintro e w1 ⟨rfl, x1⟩
                  have X1 := Lib.hid ((X0.out _ _).trans x1)
                  have c6 : w1.cell? ⟨w.heap.size, 6, none⟩ = some (.int .i64 x.sk) := (BX.out w1 x1).cell 6
                  have d6 : w1.cell? ⟨w.heap.size + 1, 6, none⟩ = some (.int .i64 y.sk) := (BY.out w1 x1).cell 6
                  have c7 : w1.cell? ⟨w.heap.size, 7, none⟩ = some (.int .i64 x.lo) := (BX.out w1 x1).cell 7
                  have d7 : w1.cell? ⟨w.heap.size + 1, 7, none⟩ = some (.int .i64 y.lo) := (BY.out w1 x1).cell 7
                  have c8 : w1.cell? ⟨w.heap.size, 8, none⟩ = some (vc) := (BX.out w1 x1).cell 8
                  have d8 : w1.cell? ⟨w.heap.size + 1, 8, none⟩ = some (vc') := (BY.out w1 x1).cell 8
                  have c9 : w1.cell? ⟨w.heap.size, 9, none⟩ = some (vh) := (BX.out w1 x1).cell 9
                  have d9 : w1.cell? ⟨w.heap.size + 1, 9, none⟩ = some (vh') := (BY.out w1 x1).cell 9
                  clear x1 BX BY
                  go_wp2_with fail
                  refine (HB.out w1 X1.out).mono ?_
                  rintro e w2 ⟨rfl, rfl⟩
                  go_wp2_with fail
                  refine (HH.out _ X1.out).mono ?_
                  rintro e w3 ⟨rfl, m, rfl⟩
                  go_wp2
                  go_ret
                  exact ⟨by rw [HE.out]; rfl, X1.out.drewN m⟩
                · have HE := Lib.hid (show decide (x = y) = false from decide_eq_false fun e => h8 (by rw [e]))
                  simp only [decide_eq_true h4] at HP
                  simp only [decide_eq_true h7] at HB
                  simp only [decide_eq_false h8] at HH
                  have e1 : (x.st == y.st) = true := by rw [h1]; simp
                  have e2 : (x.ab == y.ab) = true := by rw [h2]; simp
                  have e3 : (x.nm.toList == y.nm.toList) = true := by rw [h3]; simp
                  have e5 : (x.sk == y.sk) = true := by rw [h5]; simp
                  have e6 : (x.lo == y.lo) = true := by rw [h6]; simp
                  clear h1 h2 h3 h5 h6 h4 h7 h8
                  go_enter Tryz.func41, Tryz.ntmps41
                  go_wp2_with fail
                  refine (HP.out _ (X0.out _ _)).mono ?_
                  rintro e w1 ⟨rfl, x1⟩
                  have X1 := Lib.hid ((X0.out _ _).trans x1)
                  have c6 : w1.cell? ⟨w.heap.size, 6, none⟩ = some (.int .i64 x.sk) := (BX.out w1 x1).cell 6
                  have d6 : w1.cell? ⟨w.heap.size + 1, 6, none⟩ = some (.int .i64 y.sk) := (BY.out w1 x1).cell 6
                  have c7 : w1.cell? ⟨w.heap.size, 7, none⟩ = some (.int .i64 x.lo) := (BX.out w1 x1).cell 7
                  have d7 : w1.cell? ⟨w.heap.size + 1, 7, none⟩ = some (.int .i64 y.lo) := (BY.out w1 x1).cell 7
                  have c8 : w1.cell? ⟨w.heap.size, 8, none⟩ = some (vc) := (BX.out w1 x1).cell 8
                  have d8 : w1.cell? ⟨w.heap.size + 1, 8, none⟩ = some (vc') := (BY.out w1 x1).cell 8
                  have c9 : w1.cell? ⟨w.heap.size, 9, none⟩ = some (vh) := (BX.out w1 x1).cell 9
                  have d9 : w1.cell? ⟨w.heap.size + 1, 9, none⟩ = some (vh') := (BY.out w1 x1).cell 9
                  clear x1 BX BY
                  go_wp2_with fail
                  refine (HB.out w1 X1.out).mono ?_
                  rintro e w2 ⟨rfl, rfl⟩
                  go_wp2_with fail
                  refine (HH.out _ X1.out).mono ?_
                  rintro e w3 ⟨rfl, m, rfl⟩
                  go_wp2
                  go_ret
                  exact ⟨by rw [HE.out]; rfl, X1.out.drewN m⟩
              · have HE := Lib.hid (show decide (x = y) = false from decide_eq_false fun e => h7 (by rw [e]))
                simp only [decide_eq_true h4] at HP
                simp only [decide_eq_false h7] at HB
                have e1 : (x.st == y.st) = true := by rw [h1]; simp
                have e2 : (x.ab == y.ab) = true := by rw [h2]; simp
                have e3 : (x.nm.toList == y.nm.toList) = true := by rw [h3]; simp
                have e5 : (x.sk == y.sk) = true := by rw [h5]; simp
                have e6 : (x.lo == y.lo) = true := by rw [h6]; simp
                clear h1 h2 h3 h5 h6 HH h4 h7
                go_enter Tryz.func41, Tryz.ntmps41
                go_wp2_with fail
                refine (HP.out _ (X0.out _ _)).mono ?_
                rintro e w1 ⟨rfl, x1⟩
                have X1 := Lib.hid ((X0.out _ _).trans x1)
                have c6 : w1.cell? ⟨w.heap.size, 6, none⟩ = some (.int .i64 x.sk) := (BX.out w1 x1).cell 6
                have d6 : w1.cell? ⟨w.heap.size + 1, 6, none⟩ = some (.int .i64 y.sk) := (BY.out w1 x1).cell 6
                have c7 : w1.cell? ⟨w.heap.size, 7, none⟩ = some (.int .i64 x.lo) := (BX.out w1 x1).cell 7
                have d7 : w1.cell? ⟨w.heap.size + 1, 7, none⟩ = some (.int .i64 y.lo) := (BY.out w1 x1).cell 7
                have c8 : w1.cell? ⟨w.heap.size, 8, none⟩ = some (vc) := (BX.out w1 x1).cell 8
                have d8 : w1.cell? ⟨w.heap.size + 1, 8, none⟩ = some (vc') := (BY.out w1 x1).cell 8
                clear x1 BX BY
                go_wp2_with fail
                refine (HB.out w1 X1.out).mono ?_
                rintro e w2 ⟨rfl, rfl⟩
                go_wp2
                go_ret
                exact ⟨by rw [HE.out]; rfl, X1.out⟩
            · have HE := Lib.hid (show decide (x = y) = false from decide_eq_false fun e => h6 (by rw [e]))
              have e6 := int_ne h6
              simp only [decide_eq_true h4] at HP
              have e1 : (x.st == y.st) = true := by rw [h1]; simp
              have e2 : (x.ab == y.ab) = true := by rw [h2]; simp
              have e3 : (x.nm.toList == y.nm.toList) = true := by rw [h3]; simp
              have e5 : (x.sk == y.sk) = true := by rw [h5]; simp
              clear h1 h2 h3 h5 HB HH h4 h6
              go_enter Tryz.func41, Tryz.ntmps41
              go_wp2_with fail
              refine (HP.out _ (X0.out _ _)).mono ?_
              rintro e w1 ⟨rfl, x1⟩
              have X1 := Lib.hid ((X0.out _ _).trans x1)
              have c6 : w1.cell? ⟨w.heap.size, 6, none⟩ = some (.int .i64 x.sk) := (BX.out w1 x1).cell 6
              have d6 : w1.cell? ⟨w.heap.size + 1, 6, none⟩ = some (.int .i64 y.sk) := (BY.out w1 x1).cell 6
              have c7 : w1.cell? ⟨w.heap.size, 7, none⟩ = some (.int .i64 x.lo) := (BX.out w1 x1).cell 7
              have d7 : w1.cell? ⟨w.heap.size + 1, 7, none⟩ = some (.int .i64 y.lo) := (BY.out w1 x1).cell 7
              clear x1 BX BY
              go_wp2
              go_ret
              exact ⟨by rw [HE.out]; rfl, X1.out⟩
          · have HE := Lib.hid (show decide (x = y) = false from decide_eq_false fun e => h5 (by rw [e]))
            have e5 := int_ne h5
            simp only [decide_eq_true h4] at HP
            have e1 : (x.st == y.st) = true := by rw [h1]; simp
            have e2 : (x.ab == y.ab) = true := by rw [h2]; simp
            have e3 : (x.nm.toList == y.nm.toList) = true := by rw [h3]; simp
            clear h1 h2 h3 HB HH h4 h5
            go_enter Tryz.func41, Tryz.ntmps41
            go_wp2_with fail
            refine (HP.out _ (X0.out _ _)).mono ?_
            rintro e w1 ⟨rfl, x1⟩
            have X1 := Lib.hid ((X0.out _ _).trans x1)
            have c6 : w1.cell? ⟨w.heap.size, 6, none⟩ = some (.int .i64 x.sk) := (BX.out w1 x1).cell 6
            have d6 : w1.cell? ⟨w.heap.size + 1, 6, none⟩ = some (.int .i64 y.sk) := (BY.out w1 x1).cell 6
            clear x1 BX BY
            go_wp2
            go_ret
            exact ⟨by rw [HE.out]; rfl, X1.out⟩
        · have HE := Lib.hid (show decide (x = y) = false from decide_eq_false fun e => h4 (by rw [e]))
          simp only [decide_eq_false h4] at HP
          have e1 : (x.st == y.st) = true := by rw [h1]; simp
          have e2 : (x.ab == y.ab) = true := by rw [h2]; simp
          have e3 : (x.nm.toList == y.nm.toList) = true := by rw [h3]; simp
          clear h1 h2 h3 HB HH h4
          go_enter Tryz.func41, Tryz.ntmps41
          go_wp2_with fail
          refine (HP.out _ (X0.out _ _)).mono ?_
          rintro e w1 ⟨rfl, x1⟩
          have X1 := Lib.hid ((X0.out _ _).trans x1)
          clear x1 BX BY
          go_wp2
          go_ret
          exact ⟨by rw [HE.out]; rfl, X1.out⟩
      · have HE := Lib.hid (show decide (x = y) = false from decide_eq_false fun e => h3 (by rw [e]))
        have e3 := str_ne h3
        have e1 : (x.st == y.st) = true := by rw [h1]; simp
        have e2 : (x.ab == y.ab) = true := by rw [h2]; simp
        clear h1 h2 HP BX BY HB HH h3
        go_enter Tryz.func41, Tryz.ntmps41
        go_wp2
        go_ret
        exact ⟨by rw [HE.out]; rfl, X0.out _ _⟩
    · have HE := Lib.hid (show decide (x = y) = false from decide_eq_false fun e => h2 (by rw [e]))
      have e2 := bool_ne h2
      have e1 : (x.st == y.st) = true := by rw [h1]; simp
      clear h1 HP BX BY HB HH h2
      go_enter Tryz.func41, Tryz.ntmps41
      go_wp2
      go_ret
      exact ⟨by rw [HE.out]; rfl, X0.out _ _⟩
  · have HE := Lib.hid (show decide (x = y) = false from decide_eq_false fun e => h1 (by rw [e]))
    have e1 := bool_ne h1
    clear HP BX BY HB HH h1
    go_enter Tryz.func41, Tryz.ntmps41
    go_wp2
    go_ret
    exact ⟨by rw [HE.out]; rfl, X0.out _ _⟩
end Go.Proofs.YtokmeomjdpfknaaGreatDoor
