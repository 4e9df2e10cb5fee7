/- The project's Type and Proto, walked. -/
import Derived.Test.YtibcaienaejgpaaDescT
namespace Go.Proofs.Ytibcaienaejgpaa
open Go.RowKit
set_option linter.unusedVariables false

theorem typeZ_of (l : List UInt8) : typeZ l = if (typZ l).2.2 = true ∧ (typZ l).2.1 = [] then ((typZ l).1, 0) else (t0, 50) := by
  unfold typeZ
  rcases typZ_take l with ⟨h1, h2⟩ | ⟨h1, h2⟩
  · rw [if_pos (.inl h1), if_neg]
    rw [h2]
    simp
  · rw [h2]
    by_cases hd : (takeT l).2 < l.length
    · rw [if_pos (.inr hd), if_neg]
      rintro ⟨_, h⟩
      have := List.drop_eq_nil_iff.1 h
      omega
    · rw [if_neg (by omega), if_pos]
      exact ⟨rfl, List.drop_eq_nil_iff.2 (by omega)⟩
theorem protoZ_none {l : List UInt8} (h : argsZ l = none) : protoZ l = (⟨t0, []⟩, 50) := by
  match l with
  | [] => rfl
  | c :: r =>
    rw [argsZ] at h
    unfold protoZ
    simp only
    by_cases hc : c = 40
    · rw [if_pos hc] at h ⊢
      rw [h]
    · rw [if_neg hc]
theorem protoZ_some {l q : List UInt8} {ts : List Ty} (h : argsZ l = some (ts, q)) : protoZ l = if (retZ q).2.2 = true ∧ (retZ q).2.1 = [] then (⟨(retZ q).1, ts⟩, 0) else (⟨t0, []⟩, 50) := by
  match l with
  | [] => cases h
  | c :: r =>
    rw [argsZ] at h
    unfold protoZ
    simp only
    by_cases hc : c = 40
    · rw [if_pos hc] at h ⊢
      rw [h]
      simp only
      match q with
      | [] => rfl
      | d :: s =>
        rw [retZ]
        by_cases hd : d = 86
        · subst hd
          rw [if_pos rfl]
          match s with
          | [] => rfl
          | x :: s => rfl
        · have h86 : ¬ d :: s = [86] := by
            intro e
            injection e with e
            exact hd e
          rw [if_neg hd, if_neg h86, typeZ_of]
          by_cases hx : (typZ (d :: s)).2.2 = true ∧ (typZ (d :: s)).2.1 = []
          · rw [if_pos hx, if_pos hx]
            rfl
          · rw [if_neg hx, if_neg hx]
            rfl
    · rw [if_neg hc] at h
      cases h
theorem retZ_le (l : List UInt8) : (retZ l).2.1.length ≤ l.length ∧ (retZ l).1.s.length ≤ 64 := by
  match l with
  | [] => exact ⟨Nat.le_refl _, Nat.zero_le _⟩
  | c :: r =>
    have h2 := typZ_le (c :: r)
    rw [retZ]
    split
    · simp [t0]
    · exact h2
theorem retZ_ok (l : List UInt8) : (retZ l).1.ok := by
  match l with
  | [] => exact t0_ok
  | c :: r =>
    have h2 := typZ_ok (c :: r)
    rw [retZ]
    split
    · exact t0_ok
    · exact h2
/-- A proto's block, as it is made. -/
def BlkP (w : World) (R : Nat) : Prop := w.heap[R]? = some (.cells #[.int .i64 0, .string ⟨#[]⟩, .slice none 0 0] 29 (0, 0))
theorem BlkP.new (w : World) : BlkP (w.alloc (.cells #[.int .i64 0, .string ⟨#[]⟩, .slice none 0 0] 29)) w.heap.size := heap_alloc_new _ _
theorem BlkP.ext {w w' : World} {R : Nat} (h : BlkP w R) (he : Ext w w') : BlkP w' R := (he.block R (lt_of_get h)).trans h
theorem BlkP.kept {w w' : World} {R : Nat} {r : Option Nat} (h : BlkP w R) (hw : w.grownBy w' r) (hr : ∀ k, r = some k → k ≠ R) : BlkP w' R := (hw.block R (lt_of_get h) (fun e => hr R e.symm rfl)).trans h
theorem BlkP.cells {w : World} {R : Nat} (h : BlkP w R) : w.cell? ⟨R, 0, none⟩ = some (.int .i64 0) ∧ w.cell? ⟨R, 1, none⟩ = some (.string ⟨#[]⟩) ∧ w.cell? ⟨R, 2, none⟩ = some (.slice none 0 0) ∧ w.frozen? ⟨R, 0, none⟩ = false ∧ w.frozen? ⟨R, 1, none⟩ = false ∧ w.frozen? ⟨R, 2, none⟩ = false :=
  ⟨by rw [cell_of_row w R 0 _ _ (0, 0) h]; rfl, by rw [cell_of_row w R 1 _ _ (0, 0) h]; rfl, by rw [cell_of_row w R 2 _ _ (0, 0) h]; rfl, by simp [World.frozen?, show w.heap[R]? = _ from h], by simp [World.frozen?, show w.heap[R]? = _ from h], by simp [World.frozen?, show w.heap[R]? = _ from h]⟩
/-- A reader that has just been made, behind a result's block. -/
theorem made (w : World) (l : List UInt8) (o : Obj) : RD ((w.alloc o).alloc (.cells #[.string (bs l), .bool false] 53)) (w.heap.size + 1) l false := by
  have := heap_alloc_new (w.alloc o) (.cells #[.string (bs l), .bool false] 53)
  unfold RD
  simpa using this

set_option maxHeartbeats 1000000 in
theorem Type_w1 (l : List UInt8) (hl : l.length ≤ 140737488351232) (w : World) (p1 : (typZ l).2.2 = false) :
    Calls Try.prog 12 #[.string (bs l)] w fun e w' => e = .returned (.tuple #[.agg (Ty.vals t0), .int .i64 50]) ∧ Ext w w' := by
  obtain ⟨w1, hw1⟩ : ∃ w1, w1 = (w.alloc (.cells #[.int .i64 0, .string ⟨#[]⟩] 23)).alloc (.cells #[.string (bs l), .bool false] 53) := ⟨_, rfl⟩
  have h1 := made w l (.cells #[.int .i64 0, .string ⟨#[]⟩] 23)
  have hb1 := (Blk.new w).ext ((Ext.refl _).alloc (.cells #[.string (bs l), .bool false] 53))
  have x1 : Ext w w1 := by rw [hw1]; exact ((Ext.refl w).alloc _).alloc _
  rw [← hw1] at h1 hb1
  have hT := typ_any w1 (w.heap.size + 1) l false hl h1
  obtain ⟨X, hX⟩ : ∃ X, X = typZ l := ⟨_, rfl⟩
  rw [← hX] at hT p1
  rw [p1] at hT
  unfold Ty.vals at hT
  have HT := Lib.hid hT
  have HB1 := Lib.hid hb1
  have X1 := Lib.hid x1
  have P2 := Lib.hid p1
  clear hX hT h1 hb1 x1 p1
  go_enter Try.func12, Try.ntmps12
  go_wp2_with fail
  rw [← hw1]
  clear hw1
  refine HT.out.mono ?_
  rintro e w2 ⟨rfl, h2, g2⟩
  have hb2 := HB1.out.kept g2 (fun k hk => by injection hk with hk; omega)
  have x2 : Ext w w2 := X1.out.grown g2 (fun k hk => by injection hk with hk; omega)
  obtain ⟨a0, a1, -, -⟩ := h2.cells
  obtain ⟨d0, d1, f0, f1⟩ := hb2.cells
  have hltg : w.heap.size + 1 < w2.heap.size := h2.lt
  have hltR : w.heap.size < w2.heap.size := by omega
  have hneR : ¬ w.heap.size = w2.heap.size := by omega
  have hneg : ¬ w.heap.size + 1 = w2.heap.size := by omega
  have H2 := Lib.hid h2
  have X2 := Lib.hid x2
  clear h2 g2 hb2 x2
  go_wp2
  refine bodyPost_ret (v := .tuple #[.agg (Ty.vals t0), .int .i64 50]) (by unfold Ty.vals; simp [results, Try.results12, go_sem, d0, d1, hltR]; try first | exact ⟨rfl, rfl⟩ | rfl) rfl ⟨rfl, ?_⟩
  exact Ext.alloc (Ext.set_ (Ext.set_ X2.out (Nat.le_refl _) _) (Nat.le_refl _) _) _
set_option maxHeartbeats 1000000 in
theorem Type_w2 (l : List UInt8) (hl : l.length ≤ 140737488351232) (w : World) (p1 : (typZ l).2.2 = true) (p2 : (typZ l).2.1 = []) :
    Calls Try.prog 12 #[.string (bs l)] w fun e w' => e = .returned (.tuple #[.agg (Ty.vals (typZ l).1), .int .i64 0]) ∧ Ext w w' := by
  obtain ⟨w1, hw1⟩ : ∃ w1, w1 = (w.alloc (.cells #[.int .i64 0, .string ⟨#[]⟩] 23)).alloc (.cells #[.string (bs l), .bool false] 53) := ⟨_, rfl⟩
  have h1 := made w l (.cells #[.int .i64 0, .string ⟨#[]⟩] 23)
  have hb1 := (Blk.new w).ext ((Ext.refl _).alloc (.cells #[.string (bs l), .bool false] 53))
  have x1 : Ext w w1 := by rw [hw1]; exact ((Ext.refl w).alloc _).alloc _
  rw [← hw1] at h1 hb1
  have hT := typ_any w1 (w.heap.size + 1) l false hl h1
  obtain ⟨X, hX⟩ : ∃ X, X = typZ l := ⟨_, rfl⟩
  rw [← hX] at hT p1 p2 ⊢
  rw [p1] at hT
  unfold Ty.vals at hT
  have HT := Lib.hid hT
  have HB1 := Lib.hid hb1
  have X1 := Lib.hid x1
  have P2 := Lib.hid p1
  clear hX hT h1 hb1 x1 p1
  go_enter Try.func12, Try.ntmps12
  go_wp2_with fail
  rw [← hw1]
  clear hw1
  refine HT.out.mono ?_
  rintro e w2 ⟨rfl, h2, g2⟩
  have hb2 := HB1.out.kept g2 (fun k hk => by injection hk with hk; omega)
  have x2 : Ext w w2 := X1.out.grown g2 (fun k hk => by injection hk with hk; omega)
  obtain ⟨a0, a1, -, -⟩ := h2.cells
  obtain ⟨d0, d1, f0, f1⟩ := hb2.cells
  have hltg : w.heap.size + 1 < w2.heap.size := h2.lt
  have hltR : w.heap.size < w2.heap.size := by omega
  have hneR : ¬ w.heap.size = w2.heap.size := by omega
  have hneg : ¬ w.heap.size + 1 = w2.heap.size := by omega
  have H2 := Lib.hid h2
  have X2 := Lib.hid x2
  clear h2 g2 hb2 x2
  have HE := Lib.hid (empty_any _ _ _ _ (H2.out.ext ((Ext.refl _).alloc (.cells #[.int .i64 X.1.k, .string (bs X.1.s)] 23))))
  rw [show decide (X.2.1 = []) = true from decide_eq_true p2] at HE
  go_wp2_with fail
  refine HE.out.mono ?_
  rintro e w3 ⟨rfl, rfl⟩
  go_wp2
  refine bodyPost_ret (v := .tuple #[.agg (Ty.vals X.1), .int .i64 0]) (by unfold Ty.vals; simp [results, Try.results12, go_sem, d0, d1, hltR]; try first | exact ⟨rfl, rfl⟩ | rfl) rfl ⟨rfl, ?_⟩
  exact Ext.alloc (Ext.set_ (Ext.set_ X2.out (Nat.le_refl _) _) (Nat.le_refl _) _) _
set_option maxHeartbeats 1000000 in
theorem Type_w3 (l : List UInt8) (hl : l.length ≤ 140737488351232) (w : World) (p1 : (typZ l).2.2 = true) (p2 : ¬ (typZ l).2.1 = []) :
    Calls Try.prog 12 #[.string (bs l)] w fun e w' => e = .returned (.tuple #[.agg (Ty.vals t0), .int .i64 50]) ∧ Ext w w' := by
  obtain ⟨w1, hw1⟩ : ∃ w1, w1 = (w.alloc (.cells #[.int .i64 0, .string ⟨#[]⟩] 23)).alloc (.cells #[.string (bs l), .bool false] 53) := ⟨_, rfl⟩
  have h1 := made w l (.cells #[.int .i64 0, .string ⟨#[]⟩] 23)
  have hb1 := (Blk.new w).ext ((Ext.refl _).alloc (.cells #[.string (bs l), .bool false] 53))
  have x1 : Ext w w1 := by rw [hw1]; exact ((Ext.refl w).alloc _).alloc _
  rw [← hw1] at h1 hb1
  have hT := typ_any w1 (w.heap.size + 1) l false hl h1
  obtain ⟨X, hX⟩ : ∃ X, X = typZ l := ⟨_, rfl⟩
  rw [← hX] at hT p1 p2
  rw [p1] at hT
  unfold Ty.vals at hT
  have HT := Lib.hid hT
  have HB1 := Lib.hid hb1
  have X1 := Lib.hid x1
  have P2 := Lib.hid p1
  clear hX hT h1 hb1 x1 p1
  go_enter Try.func12, Try.ntmps12
  go_wp2_with fail
  rw [← hw1]
  clear hw1
  refine HT.out.mono ?_
  rintro e w2 ⟨rfl, h2, g2⟩
  have hb2 := HB1.out.kept g2 (fun k hk => by injection hk with hk; omega)
  have x2 : Ext w w2 := X1.out.grown g2 (fun k hk => by injection hk with hk; omega)
  obtain ⟨a0, a1, -, -⟩ := h2.cells
  obtain ⟨d0, d1, f0, f1⟩ := hb2.cells
  have hltg : w.heap.size + 1 < w2.heap.size := h2.lt
  have hltR : w.heap.size < w2.heap.size := by omega
  have hneR : ¬ w.heap.size = w2.heap.size := by omega
  have hneg : ¬ w.heap.size + 1 = w2.heap.size := by omega
  have H2 := Lib.hid h2
  have X2 := Lib.hid x2
  clear h2 g2 hb2 x2
  have HE := Lib.hid (empty_any _ _ _ _ (H2.out.ext ((Ext.refl _).alloc (.cells #[.int .i64 X.1.k, .string (bs X.1.s)] 23))))
  rw [show decide (X.2.1 = []) = false from decide_eq_false p2] at HE
  go_wp2_with fail
  refine HE.out.mono ?_
  rintro e w3 ⟨rfl, rfl⟩
  go_wp2
  refine bodyPost_ret (v := .tuple #[.agg (Ty.vals t0), .int .i64 50]) (by unfold Ty.vals; simp [results, Try.results12, go_sem, d0, d1, hltR]; try first | exact ⟨rfl, rfl⟩ | rfl) rfl ⟨rfl, ?_⟩
  exact Ext.alloc (Ext.set_ (Ext.set_ X2.out (Nat.le_refl _) _) (Nat.le_refl _) _) _
theorem Type_any (l : List UInt8) (hl : l.length ≤ 140737488351232) (w : World) :
    Calls Try.prog 12 #[.string (bs l)] w fun e w' => e = .returned (.tuple #[.agg (Ty.vals (typeZ l).1), .int .i64 (typeZ l).2]) ∧ Ext w w' := by
  rw [typeZ_of]
  cases p1 : (typZ l).2.2
  · rw [if_neg (by simp)]
    exact Type_w1 l hl w p1
  · by_cases p2 : (typZ l).2.1 = []
    · rw [if_pos ⟨rfl, p2⟩]
      exact Type_w2 l hl w p1 p2
    · rw [if_neg (fun h => p2 h.2)]
      exact Type_w3 l hl w p1 p2
end Go.Proofs.Ytibcaienaejgpaa
