/- Several texts of this proof, one behind the other. -/
import Derived.Test.YtokmeomjdpfknaaGreatDoorZbS
namespace Go.Proofs.YtokmeomjdpfknaaGreatDoor
open Go.RowKit
set_option linter.unusedVariables false

def refZ (l : List UInt8) : TyD × List UInt8 × Bool := if semi l < l.length ∧ nameB (l.take (semi l)) = true then (⟨3, l.take (semi l)⟩, l.drop (semi l + 1), true) else (t0D, (cutZD l).2.1, false)
def singleZ : List UInt8 → TyD × List UInt8 × Bool
  | [] => (t0D, [], false)
  | c :: r => if c = 73 then (⟨1, []⟩, r, true) else if c = 74 then (⟨2, []⟩, r, true) else if c = 76 then refZ r else (t0D, c :: r, false)
def typZ : List UInt8 → TyD × List UInt8 × Bool
  | [] => (t0D, [], false)
  | c :: r => if c = 91 then ((overT (singleZ r).1).1, (singleZ r).2.1, (singleZ r).2.2) else singleZ (c :: r)
def retZ : List UInt8 → TyD × List UInt8 × Bool
  | [] => (t0D, [], false)
  | c :: r => if c = 86 then (t0D, r, true) else typZ (c :: r)
theorem cutZ_le (l : List UInt8) : (cutZD l).2.1.length ≤ l.length := by
  unfold cutZD
  split
  · simp
  · simp
theorem refZ_le (l : List UInt8) : (refZ l).2.1.length ≤ l.length ∧ (refZ l).1.s.length ≤ 64 := by
  unfold refZ
  split
  · rename_i h
    exact ⟨by simp, (name_len h.2).2⟩
  · exact ⟨cutZ_le l, Nat.zero_le _⟩
theorem singleZ_le (l : List UInt8) : (singleZ l).2.1.length ≤ l.length ∧ (singleZ l).1.s.length ≤ 64 := by
  match l with
  | [] => exact ⟨Nat.le_refl _, Nat.zero_le _⟩
  | c :: r =>
    have := refZ_le r
    rw [singleZ]
    repeat' split
    all_goals simp [t0D]
    omega
theorem overT_s (t : TyD) : (overT t).1.s.length ≤ t.s.length := by
  unfold overT
  split
  · exact Nat.le_refl _
  · exact Nat.zero_le _
theorem typZ_le (l : List UInt8) : (typZ l).2.1.length ≤ l.length ∧ (typZ l).1.s.length ≤ 64 := by
  match l with
  | [] => exact ⟨Nat.le_refl _, Nat.zero_le _⟩
  | c :: r =>
    have h1 := singleZ_le r
    have h2 := singleZ_le (c :: r)
    have h3 := overT_s (singleZ r).1
    rw [typZ]
    split
    · simp
      omega
    · exact h2
theorem refZ_take (r : List UInt8) : ((takeA (76 :: r)).2 = 0 ∧ (refZ r).2.2 = false) ∨ ((takeA (76 :: r)).2 ≠ 0 ∧ refZ r = ((takeA (76 :: r)).1, (76 :: r).drop (takeA (76 :: r)).2, true)) := by
  rw [takeA, if_neg (by decide), if_neg (by decide), if_pos rfl, refZ]
  by_cases h : semi r < r.length ∧ nameB (r.take (semi r)) = true
  · rw [if_pos h, if_pos h]
    right
    exact ⟨by simp, by simp⟩
  · rw [if_neg h, if_neg h]
    left
    exact ⟨rfl, rfl⟩
theorem singleZ_take (l : List UInt8) : ((takeA l).2 = 0 ∧ (singleZ l).2.2 = false) ∨ ((takeA l).2 ≠ 0 ∧ singleZ l = ((takeA l).1, l.drop (takeA l).2, true)) := by
  match l with
  | [] => exact .inl ⟨rfl, rfl⟩
  | c :: r =>
    rw [singleZ]
    by_cases h1 : c = 73
    · subst h1; exact .inr ⟨by simp [takeA], rfl⟩
    rw [if_neg h1]
    by_cases h2 : c = 74
    · subst h2; exact .inr ⟨by simp [takeA], rfl⟩
    rw [if_neg h2]
    by_cases h3 : c = 76
    · subst h3
      exact refZ_take r
    · rw [if_neg h3, takeA, if_neg h1, if_neg h2, if_neg h3]
      exact .inl ⟨rfl, rfl⟩
theorem typZ_take (l : List UInt8) : ((takeT l).2 = 0 ∧ (typZ l).2.2 = false) ∨ ((takeT l).2 ≠ 0 ∧ typZ l = ((takeT l).1, l.drop (takeT l).2, true)) := by
  match l with
  | [] => exact .inl ⟨rfl, rfl⟩
  | c :: r =>
    rw [typZ, takeT]
    by_cases h1 : c = 91
    · rw [if_pos h1, if_pos h1]
      rcases singleZ_take r with ⟨h2, h3⟩ | ⟨h2, h3⟩
      · rw [if_pos h2]
        exact .inl ⟨rfl, h3⟩
      · rw [if_neg h2, h3]
        obtain ⟨g1, g2, g3, g4⟩ := takeA_back h2
        refine .inr ⟨by simp, ?_⟩
        have e : overT (takeA r).1 = (⟨(takeA r).1.k + 3, (takeA r).1.s⟩, true) := by rw [overT, if_pos g2]
        rw [e]
        simp
    · rw [if_neg h1, if_neg h1]
      exact singleZ_take (c :: r)

def Blk (w : World) (R : Nat) : Prop := w.heap[R]? = some (.cells #[.int .i64 0, .string ⟨#[]⟩] 41 (0, 0))
theorem Blk.new (w : World) : Blk (w.alloc (.cells #[.int .i64 0, .string ⟨#[]⟩] 41)) w.heap.size := heap_alloc_new _ _
theorem Blk.ext {w w' : World} {R : Nat} (h : Blk w R) (he : Ext w w') : Blk w' R := (he.block R (lt_of_get h)).trans h
theorem Blk.kept {w w' : World} {R : Nat} {r : Option Nat} (h : Blk w R) (hw : w.grownBy w' r) (hr : ∀ k, r = some k → k ≠ R) : Blk w' R := (hw.block R (lt_of_get h) (fun e => hr R e.symm rfl)).trans h
theorem Blk.cells {w : World} {R : Nat} (h : Blk w R) : w.cell? ⟨R, 0, none⟩ = some (.int .i64 0) ∧ w.cell? ⟨R, 1, none⟩ = some (.string ⟨#[]⟩) ∧ w.frozen? ⟨R, 0, none⟩ = false ∧ w.frozen? ⟨R, 1, none⟩ = false :=
  ⟨by rw [cell_of_row w R 0 _ _ (0, 0) h]; rfl, by rw [cell_of_row w R 1 _ _ (0, 0) h]; rfl, by simp [World.frozen?, show w.heap[R]? = _ from h], by simp [World.frozen?, show w.heap[R]? = _ from h]⟩
theorem grown_setNew {a w : World} {r : Option Nat} (h : a.grownBy w r) {R : Nat} (hR : a.heap.size ≤ R) (j : Nat) (u : Value) : a.grownBy (w.setCell ⟨R, j, none⟩ u) r := by
  refine ⟨h.os, h.tape, h.output, by simpa [World.setCell] using h.size, fun i hi hne => ?_⟩
  rw [Below.heap_setCell w ⟨R, j, none⟩ u i (fun e => by simp only at e; omega)]
  exact h.block i hi hne
theorem RD.setOther {w : World} {g R : Nat} {l : List UInt8} {b : Bool} (h : RD w g l b) (hne : R ≠ g) (j : Nat) (u : Value) : RD (w.setCell ⟨R, j, none⟩ u) g l b := by
  unfold RD
  rw [Below.heap_setCell w ⟨R, j, none⟩ u g (fun e => hne e.symm)]
  exact h
theorem fin {w w' : World} {g R : Nat} {l : List UInt8} {b : Bool} (h : RD w' g l b) (hg : w.grownBy w' (some g)) (hR : w.heap.size ≤ R) (hne : R ≠ g) (x y : Value) :
    RD ((w'.setCell ⟨R, 0, none⟩ x).setCell ⟨R, 1, none⟩ y) g l b ∧ w.grownBy ((w'.setCell ⟨R, 0, none⟩ x).setCell ⟨R, 1, none⟩ y) (some g) :=
  ⟨(h.setOther hne 0 x).setOther hne 1 y, grown_setNew (grown_setNew hg hR 0 x) hR 1 y⟩

set_option maxHeartbeats 1000000 in
theorem rref_any (w : World) (g : Nat) (l : List UInt8) (b : Bool) (hl : l.length ≤ 140737488351232) (h : RD w g l b) :
    Calls Tryz.prog 265 #[.pointer (some ⟨g, 0, none⟩)] w (RRet w g (.agg (refZ l).1.vals) (refZ l).2.1 (b || !(refZ l).2.2)) := by
  have hlt := h.lt
  have hne : w.heap.size ≠ g := by omega
  have h1 := h.ext ((Ext.refl w).alloc (.cells #[.int .i64 0, .string ⟨#[]⟩] 41))
  have hb1 := Blk.new w
  have hg1 : w.grownBy (w.alloc (.cells #[.int .i64 0, .string ⟨#[]⟩] 41)) (some g) := ext_grownD ((Ext.refl w).alloc _) _
  obtain ⟨w1, hw1⟩ : ∃ w1, w1 = w.alloc (.cells #[.int .i64 0, .string ⟨#[]⟩] 41) := ⟨_, rfl⟩
  rw [← hw1] at h1 hb1 hg1
  have hu := upTo_any w1 g l b hl h1
  have hcl := cutZ_le l
  have H1 := Lib.hid h1
  have HB1 := Lib.hid hb1
  have HG1 := Lib.hid hg1
  by_cases hm : semi l < l.length
  · have hz : cutZD l = (l.take (semi l), l.drop (semi l + 1), true) := by rw [cutZD, if_pos hm]
    rw [hz] at hu
    have HU := Lib.hid hu
    have hn64 : (l.take (semi l)).length ≤ 140737488351232 := by simp; omega
    have HI := Lib.hid (fun W => IsName_any (l.take (semi l)) W hn64)
    cases hn : nameB (l.take (semi l))
    · have e : refZ l = (t0D, l.drop (semi l + 1), false) := by
        rw [refZ, if_neg (by rw [hn]; simp), hz]
      rw [e]
      rw [hn] at HI
      obtain ⟨X, hX⟩ : ∃ X, X = l.take (semi l) := ⟨_, rfl⟩
      obtain ⟨Y, hY⟩ : ∃ Y, Y = l.drop (semi l + 1) := ⟨_, rfl⟩
      rw [← hX, ← hY] at HU
      rw [← hX] at HI
      rw [← hY]
      clear hm hz hn hn64 e hX hY hu h1 hb1 hg1 h hcl
      go_enter Tryz.func265, Tryz.ntmps265
      go_wp2_with fail
      rw [← hw1]
      refine HU.out.mono ?_
      rintro e w2 ⟨rfl, h2, g2⟩
      have H2 := Lib.hid h2
      have HG2 := Lib.hid (grown_twoD' HG1.out g2)
      have HB2 := Lib.hid (HB1.out.kept g2 (fun k hk => by injection hk with hk; omega))
      clear h2 g2
      go_wp2_with fail
      refine (HI.out _).mono ?_
      rintro e w3 ⟨rfl, x3⟩
      have H3 := Lib.hid (H2.out.ext x3)
      have HG3 := Lib.hid (grown_thenD' HG2.out x3)
      have HB3 := Lib.hid (HB2.out.ext x3)
      clear x3
      go_wp2_with fail
      refine (rfail_any _ g _ _ H3.out).mono ?_
      rintro e w4 ⟨rfl, h4, g4⟩
      have H4 := Lib.hid h4
      have HG4 := Lib.hid (grown_twoD' HG3.out g4)
      obtain ⟨d0, d1, f0, f1⟩ := (HB3.out.kept g4 (fun k hk => by injection hk with hk; omega)).cells
      clear h4 g4
      unfold TyD.vals t0D
      go_wp2
      refine bodyPost_ret (v := .agg (TyD.vals t0D)) (by unfold TyD.vals; simp [results, Tryz.results265, go_sem, d0, d1]; try exact ⟨rfl, rfl⟩) rfl ⟨rfl, ?_⟩
      have := fin H4.out HG4.out (Nat.le_refl _) hne (.int .i64 0) (.string (bs []))
      simpa using this
    · have e : refZ l = (⟨3, l.take (semi l)⟩, l.drop (semi l + 1), true) := by
        rw [refZ, if_pos ⟨hm, hn⟩]
      rw [e]
      rw [hn] at HI
      obtain ⟨X, hX⟩ : ∃ X, X = l.take (semi l) := ⟨_, rfl⟩
      obtain ⟨Y, hY⟩ : ∃ Y, Y = l.drop (semi l + 1) := ⟨_, rfl⟩
      rw [← hX, ← hY] at HU
      rw [← hX] at HI hn64
      rw [← hY, ← hX]
      have HC := Lib.hid (fun W => sclone_anyD (bs X) W hn64)
      clear hm hz hn hn64 e hX hY hu h1 hb1 hg1 h hcl
      go_enter Tryz.func265, Tryz.ntmps265
      go_wp2_with fail
      rw [← hw1]
      refine HU.out.mono ?_
      rintro e w2 ⟨rfl, h2, g2⟩
      have H2 := Lib.hid h2
      have HG2 := Lib.hid (grown_twoD' HG1.out g2)
      have HB2 := Lib.hid (HB1.out.kept g2 (fun k hk => by injection hk with hk; omega))
      clear h2 g2
      go_wp2_with fail
      refine (HI.out _).mono ?_
      rintro e w3 ⟨rfl, x3⟩
      have H3 := Lib.hid (H2.out.ext x3)
      have HG3 := Lib.hid (grown_thenD' HG2.out x3)
      have HB3 := Lib.hid (HB2.out.ext x3)
      clear x3
      go_wp2_with fail
      refine (HC.out _).mono ?_
      rintro e w4 ⟨rfl, x4⟩
      have H4 := Lib.hid (H3.out.ext x4)
      have HG4 := Lib.hid (grown_thenD' HG3.out x4)
      obtain ⟨d0, d1, f0, f1⟩ := (HB3.out.ext x4).cells
      clear x4
      unfold TyD.vals
      go_wp2
      refine bodyPost_ret (v := .agg (TyD.vals ⟨3, X⟩)) (by unfold TyD.vals; simp [results, Tryz.results265, go_sem, d0, d1]; try exact ⟨rfl, rfl⟩) rfl ⟨rfl, ?_⟩
      have := fin H4.out HG4.out (Nat.le_refl _) hne (.int .i64 3) (.string (bs X))
      simpa using this
  · have hz : cutZD l = (l, [], false) := by rw [cutZD, if_neg hm]
    rw [hz] at hu
    have HU := Lib.hid hu
    have e : refZ l = (t0D, [], false) := by
      rw [refZ, if_neg (fun h => hm h.1), hz]
    rw [e]
    clear hm hz e hu h1 hb1 hg1 h hcl
    go_enter Tryz.func265, Tryz.ntmps265
    go_wp2_with fail
    rw [← hw1]
    refine HU.out.mono ?_
    rintro e w2 ⟨rfl, h2, g2⟩
    have H2 := Lib.hid h2
    have HG2 := Lib.hid (grown_twoD' HG1.out g2)
    have HB2 := Lib.hid (HB1.out.kept g2 (fun k hk => by injection hk with hk; omega))
    clear h2 g2
    go_wp2_with fail
    refine (rfail_any _ g _ _ H2.out).mono ?_
    rintro e w4 ⟨rfl, h4, g4⟩
    have H4 := Lib.hid h4
    have HG4 := Lib.hid (grown_twoD' HG2.out g4)
    obtain ⟨d0, d1, f0, f1⟩ := (HB2.out.kept g4 (fun k hk => by injection hk with hk; omega)).cells
    clear h4 g4
    unfold TyD.vals t0D
    go_wp2
    refine bodyPost_ret (v := .agg (TyD.vals t0D)) (by unfold TyD.vals; simp [results, Tryz.results265, go_sem, d0, d1]; try exact ⟨rfl, rfl⟩) rfl ⟨rfl, ?_⟩
    have := fin H4.out HG4.out (Nat.le_refl _) hne (.int .i64 0) (.string (bs []))
    simpa using this
end Go.Proofs.YtokmeomjdpfknaaGreatDoor
namespace Go.Proofs.YtokmeomjdpfknaaGreatDoor
open Go.RowKit
set_option linter.unusedVariables false

set_option maxHeartbeats 1000000 in
theorem single_w1 (w : World) (g : Nat) (L r : List UInt8) (b : Bool) (h : RD w g L b) (e73 : skipZ 73 L = (r, true)) :
    Calls Tryz.prog 251 #[.pointer (some ⟨g, 0, none⟩)] w (RRet w g (.agg (TyD.vals ⟨1, []⟩)) r b) := by
  have hlt := h.lt
  have hne : w.heap.size ≠ g := by omega
  have h1 := h.ext ((Ext.refl w).alloc (.cells #[.int .i64 0, .string ⟨#[]⟩] 41))
  have hb1 := Blk.new w
  have hg1 : w.grownBy (w.alloc (.cells #[.int .i64 0, .string ⟨#[]⟩] 41)) (some g) := ext_grownD ((Ext.refl w).alloc _) _
  obtain ⟨w1, hw1⟩ : ∃ w1, w1 = w.alloc (.cells #[.int .i64 0, .string ⟨#[]⟩] 41) := ⟨_, rfl⟩
  rw [← hw1] at h1 hb1 hg1
  have H1 := Lib.hid h1
  have HB1 := Lib.hid hb1
  have HG1 := Lib.hid hg1
  clear h1 hb1 hg1 h
  have k73 := fun W (h : RD W g L b) => skip_any 73 W g L b h
  rw [e73] at k73
  have K73 := Lib.hid k73
  clear k73 e73
  go_enter Tryz.func251, Tryz.ntmps251
  go_wp2_with fail
  rw [← hw1]
  refine (K73.out _ H1.out).mono ?_
  rintro e w2 ⟨rfl, h2, g2⟩
  have H2 := Lib.hid h2
  have HG2 := Lib.hid (grown_twoD' HG1.out g2)
  have HB2 := Lib.hid (HB1.out.kept g2 (fun k hk => by injection hk with hk; omega))
  clear h2 g2
  obtain ⟨d0, d1, f0, f1⟩ := HB2.out.cells
  unfold TyD.vals
  go_wp2
  refine bodyPost_ret (v := .agg (TyD.vals ⟨1, []⟩)) (by unfold TyD.vals; simp [results, Tryz.results251, go_sem, d0, d1]; try first | exact ⟨rfl, rfl⟩ | rfl) rfl ⟨rfl, ?_⟩
  have := fin H2.out HG2.out (Nat.le_refl _) hne (.int .i64 1) (.string ⟨#[]⟩)
  simpa using this
set_option maxHeartbeats 1000000 in
theorem single_w2 (w : World) (g : Nat) (L r : List UInt8) (b : Bool) (h : RD w g L b) (e73 : skipZ 73 L = (L, false)) (e74 : skipZ 74 L = (r, true)) :
    Calls Tryz.prog 251 #[.pointer (some ⟨g, 0, none⟩)] w (RRet w g (.agg (TyD.vals ⟨2, []⟩)) r b) := by
  have hlt := h.lt
  have hne : w.heap.size ≠ g := by omega
  have h1 := h.ext ((Ext.refl w).alloc (.cells #[.int .i64 0, .string ⟨#[]⟩] 41))
  have hb1 := Blk.new w
  have hg1 : w.grownBy (w.alloc (.cells #[.int .i64 0, .string ⟨#[]⟩] 41)) (some g) := ext_grownD ((Ext.refl w).alloc _) _
  obtain ⟨w1, hw1⟩ : ∃ w1, w1 = w.alloc (.cells #[.int .i64 0, .string ⟨#[]⟩] 41) := ⟨_, rfl⟩
  rw [← hw1] at h1 hb1 hg1
  have H1 := Lib.hid h1
  have HB1 := Lib.hid hb1
  have HG1 := Lib.hid hg1
  clear h1 hb1 hg1 h
  have k73 := fun W (h : RD W g L b) => skip_any 73 W g L b h
  rw [e73] at k73
  have K73 := Lib.hid k73
  clear k73 e73
  have k74 := fun W (h : RD W g L b) => skip_any 74 W g L b h
  rw [e74] at k74
  have K74 := Lib.hid k74
  clear k74 e74
  go_enter Tryz.func251, Tryz.ntmps251
  go_wp2_with fail
  rw [← hw1]
  refine (K73.out _ H1.out).mono ?_
  rintro e w2 ⟨rfl, h2, g2⟩
  have H2 := Lib.hid h2
  have HG2 := Lib.hid (grown_twoD' HG1.out g2)
  have HB2 := Lib.hid (HB1.out.kept g2 (fun k hk => by injection hk with hk; omega))
  clear h2 g2
  go_wp2_with fail
  refine (K74.out _ H2.out).mono ?_
  rintro e w3 ⟨rfl, h3, g3⟩
  have H3 := Lib.hid h3
  have HG3 := Lib.hid (grown_twoD' HG2.out g3)
  have HB3 := Lib.hid (HB2.out.kept g3 (fun k hk => by injection hk with hk; omega))
  clear h3 g3
  obtain ⟨d0, d1, f0, f1⟩ := HB3.out.cells
  unfold TyD.vals
  go_wp2
  refine bodyPost_ret (v := .agg (TyD.vals ⟨2, []⟩)) (by unfold TyD.vals; simp [results, Tryz.results251, go_sem, d0, d1]; try first | exact ⟨rfl, rfl⟩ | rfl) rfl ⟨rfl, ?_⟩
  have := fin H3.out HG3.out (Nat.le_refl _) hne (.int .i64 2) (.string ⟨#[]⟩)
  simpa using this
set_option maxHeartbeats 1000000 in
theorem single_w3 (w : World) (g : Nat) (L r : List UInt8) (b : Bool) (h : RD w g L b) (e73 : skipZ 73 L = (L, false)) (e74 : skipZ 74 L = (L, false)) (e76 : skipZ 76 L = (r, true)) (hr : r.length ≤ 140737488351232) :
    Calls Tryz.prog 251 #[.pointer (some ⟨g, 0, none⟩)] w (RRet w g (.agg (TyD.vals (refZ r).1)) (refZ r).2.1 (b || !(refZ r).2.2)) := by
  have hlt := h.lt
  have hne : w.heap.size ≠ g := by omega
  have h1 := h.ext ((Ext.refl w).alloc (.cells #[.int .i64 0, .string ⟨#[]⟩] 41))
  have hb1 := Blk.new w
  have hg1 : w.grownBy (w.alloc (.cells #[.int .i64 0, .string ⟨#[]⟩] 41)) (some g) := ext_grownD ((Ext.refl w).alloc _) _
  obtain ⟨w1, hw1⟩ : ∃ w1, w1 = w.alloc (.cells #[.int .i64 0, .string ⟨#[]⟩] 41) := ⟨_, rfl⟩
  rw [← hw1] at h1 hb1 hg1
  have H1 := Lib.hid h1
  have HB1 := Lib.hid hb1
  have HG1 := Lib.hid hg1
  clear h1 hb1 hg1 h
  have k73 := fun W (h : RD W g L b) => skip_any 73 W g L b h
  rw [e73] at k73
  have K73 := Lib.hid k73
  clear k73 e73
  have k74 := fun W (h : RD W g L b) => skip_any 74 W g L b h
  rw [e74] at k74
  have K74 := Lib.hid k74
  clear k74 e74
  have k76 := fun W (h : RD W g L b) => skip_any 76 W g L b h
  rw [e76] at k76
  have K76 := Lib.hid k76
  clear k76 e76
  have HF := Lib.hid (fun W (h : RD W g r b) => rref_any W g r b hr h)
  obtain ⟨X, hX⟩ : ∃ X, X = refZ r := ⟨_, rfl⟩
  rw [← hX] at HF ⊢
  clear hX hr
  go_enter Tryz.func251, Tryz.ntmps251
  go_wp2_with fail
  rw [← hw1]
  refine (K73.out _ H1.out).mono ?_
  rintro e w2 ⟨rfl, h2, g2⟩
  have H2 := Lib.hid h2
  have HG2 := Lib.hid (grown_twoD' HG1.out g2)
  have HB2 := Lib.hid (HB1.out.kept g2 (fun k hk => by injection hk with hk; omega))
  clear h2 g2
  go_wp2_with fail
  refine (K74.out _ H2.out).mono ?_
  rintro e w3 ⟨rfl, h3, g3⟩
  have H3 := Lib.hid h3
  have HG3 := Lib.hid (grown_twoD' HG2.out g3)
  have HB3 := Lib.hid (HB2.out.kept g3 (fun k hk => by injection hk with hk; omega))
  clear h3 g3
  go_wp2_with fail
  refine (K76.out _ H3.out).mono ?_
  rintro e w4 ⟨rfl, h4, g4⟩
  have H4 := Lib.hid h4
  have HG4 := Lib.hid (grown_twoD' HG3.out g4)
  have HB4 := Lib.hid (HB3.out.kept g4 (fun k hk => by injection hk with hk; omega))
  clear h4 g4
  go_wp2_with fail
  refine (HF.out _ H4.out).mono ?_
  rintro e w5 ⟨rfl, h5, g5⟩
  have H5 := Lib.hid h5
  have HG5 := Lib.hid (grown_twoD' HG4.out g5)
  have HB5 := Lib.hid (HB4.out.kept g5 (fun k hk => by injection hk with hk; omega))
  clear h5 g5
  obtain ⟨d0, d1, f0, f1⟩ := HB5.out.cells
  unfold TyD.vals
  go_wp2
  refine bodyPost_ret (v := .agg (TyD.vals X.1)) (by unfold TyD.vals; simp [results, Tryz.results251, go_sem, d0, d1]; try first | exact ⟨rfl, rfl⟩ | rfl) rfl ⟨rfl, ?_⟩
  have := fin H5.out HG5.out (Nat.le_refl _) hne (.int .i64 X.1.k) (.string (bs X.1.s))
  simpa using this
set_option maxHeartbeats 1000000 in
theorem single_w4 (w : World) (g : Nat) (L r : List UInt8) (b : Bool) (h : RD w g L b) (e73 : skipZ 73 L = (L, false)) (e74 : skipZ 74 L = (L, false)) (e76 : skipZ 76 L = (L, false)) :
    Calls Tryz.prog 251 #[.pointer (some ⟨g, 0, none⟩)] w (RRet w g (.agg (TyD.vals t0D)) L true) := by
  have hlt := h.lt
  have hne : w.heap.size ≠ g := by omega
  have h1 := h.ext ((Ext.refl w).alloc (.cells #[.int .i64 0, .string ⟨#[]⟩] 41))
  have hb1 := Blk.new w
  have hg1 : w.grownBy (w.alloc (.cells #[.int .i64 0, .string ⟨#[]⟩] 41)) (some g) := ext_grownD ((Ext.refl w).alloc _) _
  obtain ⟨w1, hw1⟩ : ∃ w1, w1 = w.alloc (.cells #[.int .i64 0, .string ⟨#[]⟩] 41) := ⟨_, rfl⟩
  rw [← hw1] at h1 hb1 hg1
  have H1 := Lib.hid h1
  have HB1 := Lib.hid hb1
  have HG1 := Lib.hid hg1
  clear h1 hb1 hg1 h
  have k73 := fun W (h : RD W g L b) => skip_any 73 W g L b h
  rw [e73] at k73
  have K73 := Lib.hid k73
  clear k73 e73
  have k74 := fun W (h : RD W g L b) => skip_any 74 W g L b h
  rw [e74] at k74
  have K74 := Lib.hid k74
  clear k74 e74
  have k76 := fun W (h : RD W g L b) => skip_any 76 W g L b h
  rw [e76] at k76
  have K76 := Lib.hid k76
  clear k76 e76
  go_enter Tryz.func251, Tryz.ntmps251
  go_wp2_with fail
  rw [← hw1]
  refine (K73.out _ H1.out).mono ?_
  rintro e w2 ⟨rfl, h2, g2⟩
  have H2 := Lib.hid h2
  have HG2 := Lib.hid (grown_twoD' HG1.out g2)
  have HB2 := Lib.hid (HB1.out.kept g2 (fun k hk => by injection hk with hk; omega))
  clear h2 g2
  go_wp2_with fail
  refine (K74.out _ H2.out).mono ?_
  rintro e w3 ⟨rfl, h3, g3⟩
  have H3 := Lib.hid h3
  have HG3 := Lib.hid (grown_twoD' HG2.out g3)
  have HB3 := Lib.hid (HB2.out.kept g3 (fun k hk => by injection hk with hk; omega))
  clear h3 g3
  go_wp2_with fail
  refine (K76.out _ H3.out).mono ?_
  rintro e w4 ⟨rfl, h4, g4⟩
  have H4 := Lib.hid h4
  have HG4 := Lib.hid (grown_twoD' HG3.out g4)
  have HB4 := Lib.hid (HB3.out.kept g4 (fun k hk => by injection hk with hk; omega))
  clear h4 g4
  go_wp2_with fail
  refine (rfail_any _ g _ _ H4.out).mono ?_
  rintro e w5 ⟨rfl, h5, g5⟩
  have H5 := Lib.hid h5
  have HG5 := Lib.hid (grown_twoD' HG4.out g5)
  have HB5 := Lib.hid (HB4.out.kept g5 (fun k hk => by injection hk with hk; omega))
  clear h5 g5
  obtain ⟨d0, d1, f0, f1⟩ := HB5.out.cells
  unfold TyD.vals t0D
  go_wp2
  refine bodyPost_ret (v := .agg (TyD.vals t0D)) (by unfold TyD.vals; simp [results, Tryz.results251, go_sem, d0, d1]; try first | exact ⟨rfl, rfl⟩ | rfl) rfl ⟨rfl, ?_⟩
  have := fin H5.out HG5.out (Nat.le_refl _) hne (.int .i64 0) (.string (bs []))
  simpa using this
theorem skipZ_hit (m : UInt8) (r : List UInt8) : skipZ m (m :: r) = (r, true) := by rw [skipZ, if_pos rfl]
theorem skipZ_miss {m c : UInt8} (h : ¬ c = m) (r : List UInt8) : skipZ m (c :: r) = (c :: r, false) := by rw [skipZ, if_neg h]
theorem single_any (w : World) (g : Nat) (L : List UInt8) (b : Bool) (hl : L.length ≤ 140737488351232) (h : RD w g L b) :
    Calls Tryz.prog 251 #[.pointer (some ⟨g, 0, none⟩)] w (RRet w g (.agg (TyD.vals (singleZ L).1)) (singleZ L).2.1 (b || !(singleZ L).2.2)) := by
  match L, hl, h with
  | [], _, h =>
    have := single_w4 w g [] [] b h rfl rfl rfl
    simpa [singleZ] using this
  | c :: r, hl, h =>
    have hr : r.length ≤ 140737488351232 := by simp only [List.length_cons] at hl; omega
    rw [singleZ]
    by_cases h1 : c = 73
    · subst h1
      rw [if_pos rfl]
      have := single_w1 w g _ r b h (skipZ_hit _ _)
      simpa using this
    rw [if_neg h1]
    by_cases h2 : c = 74
    · subst h2
      rw [if_pos rfl]
      have := single_w2 w g _ r b h (skipZ_miss h1 _) (skipZ_hit _ _)
      simpa using this
    rw [if_neg h2]
    by_cases h3 : c = 76
    · subst h3
      rw [if_pos rfl]
      exact single_w3 w g _ r b h (skipZ_miss h1 _) (skipZ_miss h2 _) (skipZ_hit _ _) hr
    · rw [if_neg h3]
      have := single_w4 w g _ [] b h (skipZ_miss h1 _) (skipZ_miss h2 _) (skipZ_miss h3 _)
      simpa using this
set_option maxHeartbeats 1000000 in
theorem typ_w1 (w : World) (g : Nat) (L : List UInt8) (b : Bool) (h : RD w g L b) (e91 : skipZ 91 L = (L, false)) (hl : L.length ≤ 140737488351232) :
    Calls Tryz.prog 224 #[.pointer (some ⟨g, 0, none⟩)] w (RRet w g (.agg (TyD.vals (singleZ L).1)) (singleZ L).2.1 (b || !(singleZ L).2.2)) := by
  have hlt := h.lt
  have hne : w.heap.size ≠ g := by omega
  have h1 := h.ext ((Ext.refl w).alloc (.cells #[.int .i64 0, .string ⟨#[]⟩] 41))
  have hb1 := Blk.new w
  have hg1 : w.grownBy (w.alloc (.cells #[.int .i64 0, .string ⟨#[]⟩] 41)) (some g) := ext_grownD ((Ext.refl w).alloc _) _
  obtain ⟨w1, hw1⟩ : ∃ w1, w1 = w.alloc (.cells #[.int .i64 0, .string ⟨#[]⟩] 41) := ⟨_, rfl⟩
  rw [← hw1] at h1 hb1 hg1
  have H1 := Lib.hid h1
  have HB1 := Lib.hid hb1
  have HG1 := Lib.hid hg1
  clear h1 hb1 hg1 h
  have k91 := fun W (h : RD W g L b) => skip_any 91 W g L b h
  rw [e91] at k91
  have K91 := Lib.hid k91
  clear k91 e91
  have HF := Lib.hid (fun W (h : RD W g L b) => single_any W g L b hl h)
  obtain ⟨X, hX⟩ : ∃ X, X = singleZ L := ⟨_, rfl⟩
  rw [← hX] at HF ⊢
  clear hX hl
  go_enter Tryz.func224, Tryz.ntmps224
  go_wp2_with fail
  rw [← hw1]
  refine (K91.out _ H1.out).mono ?_
  rintro e w2 ⟨rfl, h2, g2⟩
  have H2 := Lib.hid h2
  have HG2 := Lib.hid (grown_twoD' HG1.out g2)
  have HB2 := Lib.hid (HB1.out.kept g2 (fun k hk => by injection hk with hk; omega))
  clear h2 g2
  go_wp2_with fail
  refine (HF.out _ H2.out).mono ?_
  rintro e w3 ⟨rfl, h3, g3⟩
  have H3 := Lib.hid h3
  have HG3 := Lib.hid (grown_twoD' HG2.out g3)
  have HB3 := Lib.hid (HB2.out.kept g3 (fun k hk => by injection hk with hk; omega))
  clear h3 g3
  obtain ⟨d0, d1, f0, f1⟩ := HB3.out.cells
  unfold TyD.vals
  go_wp2
  refine bodyPost_ret (v := .agg (TyD.vals X.1)) (by unfold TyD.vals; simp [results, Tryz.results224, go_sem, d0, d1]; try first | exact ⟨rfl, rfl⟩ | rfl) rfl ⟨rfl, ?_⟩
  have := fin H3.out HG3.out (Nat.le_refl _) hne (.int .i64 X.1.k) (.string (bs X.1.s))
  simpa using this
set_option maxHeartbeats 1000000 in
theorem typ_w2 (w : World) (g : Nat) (L r : List UInt8) (b : Bool) (h : RD w g L b) (e91 : skipZ 91 L = (r, true)) (hr : r.length ≤ 140737488351232) :
    Calls Tryz.prog 224 #[.pointer (some ⟨g, 0, none⟩)] w (RRet w g (.agg (TyD.vals (overT (singleZ r).1).1)) (singleZ r).2.1 (b || !(singleZ r).2.2)) := by
  have hlt := h.lt
  have hne : w.heap.size ≠ g := by omega
  have h1 := h.ext ((Ext.refl w).alloc (.cells #[.int .i64 0, .string ⟨#[]⟩] 41))
  have hb1 := Blk.new w
  have hg1 : w.grownBy (w.alloc (.cells #[.int .i64 0, .string ⟨#[]⟩] 41)) (some g) := ext_grownD ((Ext.refl w).alloc _) _
  obtain ⟨w1, hw1⟩ : ∃ w1, w1 = w.alloc (.cells #[.int .i64 0, .string ⟨#[]⟩] 41) := ⟨_, rfl⟩
  rw [← hw1] at h1 hb1 hg1
  have H1 := Lib.hid h1
  have HB1 := Lib.hid hb1
  have HG1 := Lib.hid hg1
  clear h1 hb1 hg1 h
  have k91 := fun W (h : RD W g L b) => skip_any 91 W g L b h
  rw [e91] at k91
  have K91 := Lib.hid k91
  clear k91 e91
  have HF := Lib.hid (fun W (h : RD W g r b) => single_any W g r b hr h)
  have hx := singleZ_le r
  obtain ⟨X, hX⟩ : ∃ X, X = singleZ r := ⟨_, rfl⟩
  rw [← hX] at HF hx ⊢
  have ho := fun W => Over_any X.1 W (by omega)
  unfold TyD.vals at ho
  obtain ⟨Z, hZ⟩ : ∃ Z, Z = overT X.1 := ⟨_, rfl⟩
  rw [← hZ] at ho ⊢
  have HO := Lib.hid ho
  clear hX hr hx ho hZ
  go_enter Tryz.func224, Tryz.ntmps224
  go_wp2_with fail
  rw [← hw1]
  refine (K91.out _ H1.out).mono ?_
  rintro e w2 ⟨rfl, h2, g2⟩
  have H2 := Lib.hid h2
  have HG2 := Lib.hid (grown_twoD' HG1.out g2)
  have HB2 := Lib.hid (HB1.out.kept g2 (fun k hk => by injection hk with hk; omega))
  clear h2 g2
  go_wp2_with fail
  refine (HF.out _ H2.out).mono ?_
  rintro e w3 ⟨rfl, h3, g3⟩
  have H3 := Lib.hid h3
  have HG3 := Lib.hid (grown_twoD' HG2.out g3)
  have HB3 := Lib.hid (HB2.out.kept g3 (fun k hk => by injection hk with hk; omega))
  clear h3 g3
  unfold TyD.vals
  go_wp2_with fail
  refine (HO.out _).mono ?_
  rintro e w4 ⟨rfl, x4⟩
  have H4 := Lib.hid (H3.out.ext x4)
  have HG4 := Lib.hid (grown_thenD' HG3.out x4)
  have HB4 := Lib.hid (HB3.out.ext x4)
  clear x4
  obtain ⟨d0, d1, f0, f1⟩ := HB4.out.cells
  have hlt4 : w.heap.size < w4.heap.size := lt_of_get HB4.out
  have hne4 : ¬ w.heap.size = w4.heap.size := by omega
  go_wp2
  have hf := fin H4.out HG4.out (Nat.le_refl _) hne (.int .i64 Z.1.k) (.string (bs Z.1.s))
  refine bodyPost_ret (v := .agg (TyD.vals Z.1)) (by unfold TyD.vals; simp [results, Tryz.results224, go_sem, d0, d1, hlt4]; try first | exact ⟨rfl, rfl⟩ | rfl) rfl ⟨rfl, ?_, ?_⟩
  · exact hf.1.ext ((Ext.refl _).alloc _)
  · exact grown_thenD' hf.2 ((Ext.refl _).alloc _)
theorem typ_any (w : World) (g : Nat) (L : List UInt8) (b : Bool) (hl : L.length ≤ 140737488351232) (h : RD w g L b) :
    Calls Tryz.prog 224 #[.pointer (some ⟨g, 0, none⟩)] w (RRet w g (.agg (TyD.vals (typZ L).1)) (typZ L).2.1 (b || !(typZ L).2.2)) := by
  match L, hl, h with
  | [], hl, h => exact typ_w1 w g [] b h rfl hl
  | c :: r, hl, h =>
    have hr : r.length ≤ 140737488351232 := by simp only [List.length_cons] at hl; omega
    rw [typZ]
    by_cases h1 : c = 91
    · subst h1
      rw [if_pos rfl]
      exact typ_w2 w g _ r b h (skipZ_hit _ _) hr
    · rw [if_neg h1]
      exact typ_w1 w g _ b h (skipZ_miss h1 _) hl
set_option maxHeartbeats 1000000 in
theorem ret_w1 (w : World) (g : Nat) (L : List UInt8) (b : Bool) (h : RD w g L b) (e86 : skipZ 86 L = (L, false)) (hl : L.length ≤ 140737488351232) :
    Calls Tryz.prog 227 #[.pointer (some ⟨g, 0, none⟩)] w (RRet w g (.agg (TyD.vals (typZ L).1)) (typZ L).2.1 (b || !(typZ L).2.2)) := by
  have hlt := h.lt
  have hne : w.heap.size ≠ g := by omega
  have h1 := h.ext ((Ext.refl w).alloc (.cells #[.int .i64 0, .string ⟨#[]⟩] 41))
  have hb1 := Blk.new w
  have hg1 : w.grownBy (w.alloc (.cells #[.int .i64 0, .string ⟨#[]⟩] 41)) (some g) := ext_grownD ((Ext.refl w).alloc _) _
  obtain ⟨w1, hw1⟩ : ∃ w1, w1 = w.alloc (.cells #[.int .i64 0, .string ⟨#[]⟩] 41) := ⟨_, rfl⟩
  rw [← hw1] at h1 hb1 hg1
  have H1 := Lib.hid h1
  have HB1 := Lib.hid hb1
  have HG1 := Lib.hid hg1
  clear h1 hb1 hg1 h
  have k86 := fun W (h : RD W g L b) => skip_any 86 W g L b h
  rw [e86] at k86
  have K86 := Lib.hid k86
  clear k86 e86
  have HF := Lib.hid (fun W (h : RD W g L b) => typ_any W g L b hl h)
  obtain ⟨X, hX⟩ : ∃ X, X = typZ L := ⟨_, rfl⟩
  rw [← hX] at HF ⊢
  clear hX hl
  go_enter Tryz.func227, Tryz.ntmps227
  go_wp2_with fail
  rw [← hw1]
  refine (K86.out _ H1.out).mono ?_
  rintro e w2 ⟨rfl, h2, g2⟩
  have H2 := Lib.hid h2
  have HG2 := Lib.hid (grown_twoD' HG1.out g2)
  have HB2 := Lib.hid (HB1.out.kept g2 (fun k hk => by injection hk with hk; omega))
  clear h2 g2
  go_wp2_with fail
  refine (HF.out _ H2.out).mono ?_
  rintro e w3 ⟨rfl, h3, g3⟩
  have H3 := Lib.hid h3
  have HG3 := Lib.hid (grown_twoD' HG2.out g3)
  have HB3 := Lib.hid (HB2.out.kept g3 (fun k hk => by injection hk with hk; omega))
  clear h3 g3
  obtain ⟨d0, d1, f0, f1⟩ := HB3.out.cells
  unfold TyD.vals
  go_wp2
  refine bodyPost_ret (v := .agg (TyD.vals X.1)) (by unfold TyD.vals; simp [results, Tryz.results227, go_sem, d0, d1]; try first | exact ⟨rfl, rfl⟩ | rfl) rfl ⟨rfl, ?_⟩
  have := fin H3.out HG3.out (Nat.le_refl _) hne (.int .i64 X.1.k) (.string (bs X.1.s))
  simpa using this
set_option maxHeartbeats 1000000 in
theorem ret_w2 (w : World) (g : Nat) (L r : List UInt8) (b : Bool) (h : RD w g L b) (e86 : skipZ 86 L = (r, true)) :
    Calls Tryz.prog 227 #[.pointer (some ⟨g, 0, none⟩)] w (RRet w g (.agg (TyD.vals t0D)) r b) := by
  have hlt := h.lt
  have hne : w.heap.size ≠ g := by omega
  have h1 := h.ext ((Ext.refl w).alloc (.cells #[.int .i64 0, .string ⟨#[]⟩] 41))
  have hb1 := Blk.new w
  have hg1 : w.grownBy (w.alloc (.cells #[.int .i64 0, .string ⟨#[]⟩] 41)) (some g) := ext_grownD ((Ext.refl w).alloc _) _
  obtain ⟨w1, hw1⟩ : ∃ w1, w1 = w.alloc (.cells #[.int .i64 0, .string ⟨#[]⟩] 41) := ⟨_, rfl⟩
  rw [← hw1] at h1 hb1 hg1
  have H1 := Lib.hid h1
  have HB1 := Lib.hid hb1
  have HG1 := Lib.hid hg1
  clear h1 hb1 hg1 h
  have k86 := fun W (h : RD W g L b) => skip_any 86 W g L b h
  rw [e86] at k86
  have K86 := Lib.hid k86
  clear k86 e86
  go_enter Tryz.func227, Tryz.ntmps227
  go_wp2_with fail
  rw [← hw1]
  refine (K86.out _ H1.out).mono ?_
  rintro e w2 ⟨rfl, h2, g2⟩
  have H2 := Lib.hid h2
  have HG2 := Lib.hid (grown_twoD' HG1.out g2)
  have HB2 := Lib.hid (HB1.out.kept g2 (fun k hk => by injection hk with hk; omega))
  clear h2 g2
  obtain ⟨d0, d1, f0, f1⟩ := HB2.out.cells
  unfold TyD.vals t0D
  go_wp2
  refine bodyPost_ret (v := .agg (TyD.vals t0D)) (by unfold TyD.vals; simp [results, Tryz.results227, go_sem, d0, d1]; try first | exact ⟨rfl, rfl⟩ | rfl) rfl ⟨rfl, ?_⟩
  have := fin H2.out HG2.out (Nat.le_refl _) hne (.int .i64 0) (.string ⟨#[]⟩)
  simpa using this
theorem ret_any (w : World) (g : Nat) (L : List UInt8) (b : Bool) (hl : L.length ≤ 140737488351232) (h : RD w g L b) :
    Calls Tryz.prog 227 #[.pointer (some ⟨g, 0, none⟩)] w (RRet w g (.agg (TyD.vals (retZ L).1)) (retZ L).2.1 (b || !(retZ L).2.2)) := by
  match L, hl, h with
  | [], hl, h => exact ret_w1 w g [] b h rfl hl
  | c :: r, hl, h =>
    rw [retZ]
    by_cases h1 : c = 86
    · subst h1
      rw [if_pos rfl]
      have := ret_w2 w g _ r b h (skipZ_hit _ _)
      simpa using this
    · rw [if_neg h1]
      exact ret_w1 w g _ b h (skipZ_miss h1 _) hl
end Go.Proofs.YtokmeomjdpfknaaGreatDoor
