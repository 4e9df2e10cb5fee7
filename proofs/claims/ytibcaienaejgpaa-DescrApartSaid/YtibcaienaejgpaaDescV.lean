/- The project's Proto, the document's Type, walked. -/
import Derived.Test.YtibcaienaejgpaaDescU
namespace Go.Proofs.Ytibcaienaejgpaa
open Go.RowKit
set_option linter.unusedVariables false

/-- What reading a proto answers. -/
def ProtoAns (l : List UInt8) (w : World) (e : Ending) (w' : World) : Prop := ∃ v, e = .returned (.tuple #[.agg ((protoZ l).1.vals v), .int .i64 (protoZ l).2]) ∧ RowT w' v (protoZ l).1.args ∧ Ext w w'
theorem proto_err {l : List UInt8} (h : protoZ l = (⟨t0, []⟩, 50)) : Ending.returned (.tuple #[.agg #[.int .i64 0, .string ⟨#[]⟩, .slice none 0 0], .int .i64 50]) = .returned (.tuple #[.agg ((protoZ l).1.vals (.slice none 0 0)), .int .i64 (protoZ l).2]) ∧ (protoZ l).1.args = [] := by
  rw [h]
  exact ⟨rfl, rfl⟩
theorem OwnT.set_ {B : Nat} {w : World} {T : TypeId} {v : Value} {l : List Ty} (h : OwnT B w T v l) {R : Nat} (hR : R < B) (j : Nat) (u : Value) : OwnT B (w.setCell ⟨R, j, none⟩ u) T v l :=
  h.kept (only_set (World.grownBy.refl w (some R)) j u) (fun k hk e => by injection e with e; have := h.low k hk; omega)
set_option maxHeartbeats 4000000 in
theorem Proto_any (l : List UInt8) (hl : l.length ≤ 140737488351232) (w : World) :
    Calls Try.prog 14 #[.string (bs l)] w (ProtoAns l w) := by
  obtain ⟨w1, hw1⟩ : ∃ w1, w1 = (w.alloc (.cells #[.int .i64 0, .string ⟨#[]⟩, .slice none 0 0] 29)).alloc (.cells #[.string (bs l), .bool false] 53) := ⟨_, rfl⟩
  have h1 := made w l (.cells #[.int .i64 0, .string ⟨#[]⟩, .slice none 0 0] 29)
  have hb1 := (BlkP.new w).ext ((Ext.refl _).alloc (.cells #[.string (bs l), .bool false] 53))
  have x1 : Ext w w1 := by rw [hw1]; exact ((Ext.refl w).alloc _).alloc _
  have hs1 : w1.heap.size = w.heap.size + 2 := by rw [hw1]; simp
  rw [← hw1] at h1 hb1
  have HA := Lib.hid (args_any w1 (w.heap.size + 1) l hl h1)
  have HB1 := Lib.hid hb1
  have X1 := Lib.hid x1
  clear h1 hb1 x1
  go_enter Try.func14, Try.ntmps14
  go_wp2_with fail
  rw [← hw1]
  clear hw1
  refine HA.out.mono ?_
  rintro e w2 ⟨v, l1, b1, ts, rfl, h2, g2, hle, ho, hcase⟩
  have hb2 := HB1.out.kept g2 (fun k hk => by injection hk with hk; omega)
  have x2 : Ext w w2 := X1.out.grown g2 (fun k hk => by injection hk with hk; omega)
  have hC := Lib.hid hcase
  have H2 := Lib.hid h2
  have X2 := Lib.hid x2
  have HB2 := Lib.hid hb2
  have HO := Lib.hid ho
  obtain ⟨A, c, hv, hcn, hcm, -⟩ := ho.row
  subst hv
  obtain ⟨n, hn⟩ : ∃ n, n = ts.length := ⟨_, rfl⟩
  rw [← hn] at hcn HO ⊢
  have Hn := Lib.hid hn
  have hs2 := g2.size
  clear hn ho h2 x2 hb2 hcase g2
  have HR := Lib.hid (ret_any w2 (w.heap.size + 1) l1 b1 (by omega) H2.out)
  obtain ⟨X, hX⟩ : ∃ X, X = retZ l1 := ⟨_, rfl⟩
  have HX := Lib.hid hX
  have hr := HR.out
  rw [← hX] at hr
  unfold Ty.vals at hr
  have HR := Lib.hid hr
  clear hX hr
  obtain ⟨W, hW⟩ : ∃ W, W = (b1 || !X.2.2) := ⟨_, rfl⟩
  rw [← hW] at HR
  have HW := Lib.hid hW
  clear hW
  go_wp2_with fail
  refine HR.out.mono ?_
  rintro e w3 ⟨rfl, h3, g3⟩
  have hb3 := HB2.out.kept g3 (fun k hk => by injection hk with hk; omega)
  have x3 : Ext w w3 := X2.out.grown g3 (fun k hk => by injection hk with hk; omega)
  have ho3 := HO.out.kept g3 (fun k hk e => by injection e with e; have := HO.out.low k hk; omega)
  obtain ⟨a0, a1, -, -⟩ := h3.cells
  obtain ⟨d0, d1, d2, f0, f1, f2⟩ := hb3.cells
  have hltg : w.heap.size + 1 < w3.heap.size := h3.lt
  have hltR : w.heap.size < w3.heap.size := by omega
  have hneR : ¬ w.heap.size = w3.heap.size := by omega
  have hneg : ¬ w.heap.size + 1 = w3.heap.size := by omega
  have H3 := Lib.hid h3
  have X3 := Lib.hid x3
  have HO3 := Lib.hid ho3
  clear h3 g3 hb3 x3 ho3
  cases W
  · -- nothing was wrong
    have hw := HW.out
    have hb : b1 = false ∧ X.2.2 = true := by
      cases b1 <;> cases hq : X.2.2 <;> rw [hq] at hw <;> simp at hw ⊢
    obtain ⟨q1, q2⟩ := hb
    have hz : argsZ l = some (ts, l1) := by
      rcases hC.out with ⟨h, _⟩ | ⟨_, h⟩
      · rw [q1] at h; cases h
      · exact h
    have HE := Lib.hid (empty_any _ _ _ _ (H3.out.ext ((Ext.refl _).alloc (.cells #[.int .i64 X.1.k, .string (bs X.1.s)] 23))))
    by_cases p2 : X.2.1 = []
    · rw [show decide (X.2.1 = []) = true from decide_eq_true p2] at HE
      have HZ := Lib.hid (show protoZ l = (⟨X.1, ts⟩, 0) by rw [protoZ_some hz, ← HX.out, if_pos ⟨q2, p2⟩])
      clear p2 q1 q2 hz hw
      go_wp2_with fail
      refine HE.out.mono ?_
      rintro e w4 ⟨rfl, rfl⟩
      go_wp2
      refine bodyPost_ret (v := .tuple #[.agg #[.int .i64 X.1.k, .string (bs X.1.s), .slice A n c], .int .i64 0]) (by simp [results, Try.results14, go_sem, d0, d1, d2, hltR]; try first | exact ⟨rfl, rfl⟩ | rfl) rfl ?_
      unfold ProtoAns
      rw [HZ.out]
      refine ⟨_, rfl, ?_, ?_⟩
      · have h1 := ((HO3.out.set_ (R := w.heap.size) (by omega) 0 (.int .i64 X.1.k)).set_ (R := w.heap.size) (by omega) 1 (.string (bs X.1.s))).set_ (R := w.heap.size) (by omega) 2 (.slice A n c)
        exact h1.row.ext ((Ext.refl _).alloc _)
      · exact Ext.alloc (Ext.set_ (Ext.set_ (Ext.set_ X3.out (Nat.le_refl _) _) (Nat.le_refl _) _) (Nat.le_refl _) _) _
    · rw [show decide (X.2.1 = []) = false from decide_eq_false p2] at HE
      have HZ := Lib.hid (show protoZ l = (⟨t0, []⟩, 50) by rw [protoZ_some hz, ← HX.out, if_neg (fun h => p2 h.2)])
      clear p2 q1 q2 hz hw
      go_wp2_with fail
      refine HE.out.mono ?_
      rintro e w4 ⟨rfl, rfl⟩
      go_wp2
      refine bodyPost_ret (v := .tuple #[.agg #[.int .i64 0, .string ⟨#[]⟩, .slice none 0 0], .int .i64 50]) (by simp [results, Try.results14, go_sem, d0, d1, d2, hltR]; try first | exact ⟨rfl, rfl⟩ | rfl) rfl ?_
      unfold ProtoAns
      rw [HZ.out]
      exact ⟨_, rfl, RowT.nil _, Ext.alloc (Ext.set_ (Ext.set_ (Ext.set_ X3.out (Nat.le_refl _) _) (Nat.le_refl _) _) (Nat.le_refl _) _) _⟩
  · have HZ := Lib.hid (show protoZ l = (⟨t0, []⟩, 50) by
      rcases hC.out with ⟨_, h⟩ | ⟨q1, h⟩
      · exact protoZ_none h
      · have hw := HW.out
        rw [q1] at hw
        have q2 : X.2.2 = false := by cases hq : X.2.2 <;> rw [hq] at hw <;> simp at hw ⊢
        rw [protoZ_some h, ← HX.out, if_neg (by rw [q2]; simp)])
    go_wp2
    refine bodyPost_ret (v := .tuple #[.agg #[.int .i64 0, .string ⟨#[]⟩, .slice none 0 0], .int .i64 50]) (by simp [results, Try.results14, go_sem, d0, d1, d2, hltR]; try first | exact ⟨rfl, rfl⟩ | rfl) rfl ?_
    unfold ProtoAns
    rw [HZ.out]
    exact ⟨_, rfl, RowT.nil _, Ext.alloc (Ext.set_ (Ext.set_ (Ext.set_ X3.out (Nat.le_refl _) _) (Nat.le_refl _) _) (Nat.le_refl _) _) _⟩
set_option maxHeartbeats 1000000 in
theorem refType_w1 (l : List UInt8) (hl : l.length ≤ 140737488351232) (w : World) (p1 : (takeT l).2 = 0) :
    Calls Try.prog 13 #[.string (bs l)] w fun e w' => e = .returned (.tuple #[.agg (Ty.vals t0), .int .i64 50]) ∧ Ext w w' := by
  have hsz : (bs l).size = l.length := rfl
  have ht := fun W => refTake_any l hl W
  unfold TakeAns at ht
  obtain ⟨X, hX⟩ : ∃ X, X = takeT l := ⟨_, rfl⟩
  rw [← hX] at ht p1
  rw [p1] at ht
  clear p1
  unfold Ty.vals at ht
  have HT := Lib.hid ht
  have hb1 := Lib.hid (Blk.new w)
  clear hX ht
  go_enter Try.func13, Try.ntmps13
  go_wp2_with fail
  refine (HT.out _).mono ?_
  rintro e w2 ⟨rfl, x2⟩
  have hb2 := hb1.out.ext x2
  have hx2 : Ext w w2 := ((Ext.refl w).alloc _).trans x2
  obtain ⟨d0, d1, f0, f1⟩ := hb2.cells
  have hltR : w.heap.size < w2.heap.size := lt_of_get hb2
  have hneR : ¬ w.heap.size = w2.heap.size := by omega
  have X2 := Lib.hid hx2
  clear hx2 x2 hb2
  go_wp2
  refine bodyPost_ret (v := .tuple #[.agg (Ty.vals t0), .int .i64 50]) (by unfold Ty.vals; simp [results, Try.results13, go_sem, d0, d1, hltR]; try first | exact ⟨rfl, rfl⟩ | rfl) rfl ⟨rfl, ?_⟩
  exact Ext.alloc (Ext.set_ (Ext.set_ X2.out (Nat.le_refl _) _) (Nat.le_refl _) _) _
set_option maxHeartbeats 1000000 in
theorem refType_w2 (l : List UInt8) (hl : l.length ≤ 140737488351232) (w : World) (p1 : (takeT l).2 ≠ 0 ∧ (takeT l).2 < l.length) :
    Calls Try.prog 13 #[.string (bs l)] w fun e w' => e = .returned (.tuple #[.agg (Ty.vals t0), .int .i64 50]) ∧ Ext w w' := by
  have hsz : (bs l).size = l.length := rfl
  have ht := fun W => refTake_any l hl W
  unfold TakeAns at ht
  obtain ⟨X, hX⟩ : ∃ X, X = takeT l := ⟨_, rfl⟩
  rw [← hX] at ht p1
  obtain ⟨p2, p3⟩ := p1
  have p0 : ((X.2 : Int) == 0) = false := by rw [beq_eq_false_iff_ne]; omega
  clear p2
  unfold Ty.vals at ht
  have HT := Lib.hid ht
  have hb1 := Lib.hid (Blk.new w)
  clear hX ht
  go_enter Try.func13, Try.ntmps13
  go_wp2_with fail
  refine (HT.out _).mono ?_
  rintro e w2 ⟨rfl, x2⟩
  have hb2 := hb1.out.ext x2
  have hx2 : Ext w w2 := ((Ext.refl w).alloc _).trans x2
  obtain ⟨d0, d1, f0, f1⟩ := hb2.cells
  have hltR : w.heap.size < w2.heap.size := lt_of_get hb2
  have hneR : ¬ w.heap.size = w2.heap.size := by omega
  have X2 := Lib.hid hx2
  clear hx2 x2 hb2
  go_wp2
  refine bodyPost_ret (v := .tuple #[.agg (Ty.vals t0), .int .i64 50]) (by unfold Ty.vals; simp [results, Try.results13, go_sem, d0, d1, hltR]; try first | exact ⟨rfl, rfl⟩ | rfl) rfl ⟨rfl, ?_⟩
  exact Ext.alloc (Ext.set_ (Ext.set_ X2.out (Nat.le_refl _) _) (Nat.le_refl _) _) _
set_option maxHeartbeats 1000000 in
theorem refType_w3 (l : List UInt8) (hl : l.length ≤ 140737488351232) (w : World) (p1 : (takeT l).2 ≠ 0 ∧ ¬ (takeT l).2 < l.length) :
    Calls Try.prog 13 #[.string (bs l)] w fun e w' => e = .returned (.tuple #[.agg (Ty.vals (takeT l).1), .int .i64 0]) ∧ Ext w w' := by
  have hsz : (bs l).size = l.length := rfl
  have ht := fun W => refTake_any l hl W
  unfold TakeAns at ht
  obtain ⟨X, hX⟩ : ∃ X, X = takeT l := ⟨_, rfl⟩
  rw [← hX] at ht p1 ⊢
  obtain ⟨p2, p3⟩ := p1
  have p0 : ((X.2 : Int) == 0) = false := by rw [beq_eq_false_iff_ne]; omega
  clear p2
  unfold Ty.vals at ht
  have HT := Lib.hid ht
  have hb1 := Lib.hid (Blk.new w)
  clear hX ht
  go_enter Try.func13, Try.ntmps13
  go_wp2_with fail
  refine (HT.out _).mono ?_
  rintro e w2 ⟨rfl, x2⟩
  have hb2 := hb1.out.ext x2
  have hx2 : Ext w w2 := ((Ext.refl w).alloc _).trans x2
  obtain ⟨d0, d1, f0, f1⟩ := hb2.cells
  have hltR : w.heap.size < w2.heap.size := lt_of_get hb2
  have hneR : ¬ w.heap.size = w2.heap.size := by omega
  have X2 := Lib.hid hx2
  clear hx2 x2 hb2
  go_wp2
  refine bodyPost_ret (v := .tuple #[.agg (Ty.vals X.1), .int .i64 0]) (by unfold Ty.vals; simp [results, Try.results13, go_sem, d0, d1, hltR]; try first | exact ⟨rfl, rfl⟩ | rfl) rfl ⟨rfl, ?_⟩
  exact Ext.alloc (Ext.set_ (Ext.set_ X2.out (Nat.le_refl _) _) (Nat.le_refl _) _) _
theorem refType_any (l : List UInt8) (hl : l.length ≤ 140737488351232) (w : World) :
    Calls Try.prog 13 #[.string (bs l)] w fun e w' => e = .returned (.tuple #[.agg (Ty.vals (typeZ l).1), .int .i64 (typeZ l).2]) ∧ Ext w w' := by
  unfold typeZ
  by_cases p1 : (takeT l).2 = 0
  · rw [if_pos (.inl p1)]
    exact refType_w1 l hl w p1
  · by_cases p2 : (takeT l).2 < l.length
    · rw [if_pos (.inr p2)]
      exact refType_w2 l hl w ⟨p1, p2⟩
    · rw [if_neg (fun h => h.elim p1 p2)]
      exact refType_w3 l hl w ⟨p1, p2⟩
end Go.Proofs.Ytibcaienaejgpaa
