/- Several texts of this proof, one behind the other. -/
import Derived.Test.YtkkfkjjmmdpafaaDoorYcN
import Derived.Deep.RegionHeld3
import Derived.StillTailTactics
import Derived.Test.YtkkfkjjmmdpafaaDoorYcK
namespace Go.Proofs.YtkkfkjjmmdpafaaDoor
open Go.RowKit
set_option linter.unusedVariables false

theorem mayZ_kinds {N : List Kl} {k : Int} {s : ByteArray} (h : mayZ N k s = true) (h3 : ¬ k < 3) : (k = 3 ∨ k = 6) ∨ ((k = 4 ∨ k = 5) ∧ s = ⟨#[]⟩) := by
  unfold mayZ at h
  split at h
  · left; assumption
  · split at h
    · right
      exact ⟨by omega, of_decide_eq_true h⟩
    · cases h
def BtIs (R : Bool) (k1 : Int) (m1 : Bool) (k2 : Int) (s2 : ByteArray) (m2 q1 bz : Bool) : Prop := R = ((decide (3 ≤ k1) && m1) && ((decide (3 ≤ k2) && m2) && (q1 || (eqTy k2 s2 3 nObj || (decide (k1 = k2) && bz)))))
def EqIs (q : Bool) (k1 : Int) (s1 : ByteArray) (k2 : Int) (s2 : ByteArray) : Prop := q = eqTy k1 s1 k2 s2
def KiIs (m : Bool) (k : Int) (s : ByteArray) : Prop := m = true → ¬ k < 3 → (k = 3 ∨ k = 6) ∨ ((k = 4 ∨ k = 5) ∧ s = ⟨#[]⟩)
section
variable {R m1 m2 q1 bz : Bool} {k1 k2 : Int} {s2 : ByteArray}
theorem BtIs.n1 (h : BtIs R k1 false k2 s2 m2 q1 bz) : R = false := by unfold BtIs at h; rw [h]; simp
theorem BtIs.n2 (h : BtIs R k1 m1 k2 s2 false q1 bz) : R = false := by unfold BtIs at h; rw [h]; simp
theorem BtIs.l1 (h : BtIs R k1 m1 k2 s2 m2 q1 bz) (h1 : k1 < 3) : R = false := by unfold BtIs at h; rw [h, decide_eq_false (by omega)]; simp
theorem BtIs.l2 (h : BtIs R k1 m1 k2 s2 m2 q1 bz) (h1 : k2 < 3) : R = false := by unfold BtIs at h; rw [h, decide_eq_false (p := 3 ≤ k2) (by omega)]; simp
theorem BtIs.yes (h : BtIs R k1 true k2 s2 true q1 bz) (h1 : ¬ k1 < 3) (h2 : ¬ k2 < 3) : R = (q1 || (eqTy k2 s2 3 nObj || (decide (k1 = k2) && bz))) := by
  unfold BtIs at h
  rw [h, decide_eq_true (show 3 ≤ k1 by omega), decide_eq_true (show 3 ≤ k2 by omega)]
  simp
end
section
variable {s g n c : Nat} {r : List Kl} {L : List KlV} {w w' : World}
set_option maxRecDepth 100000 in
set_option maxHeartbeats 4000000 in
theorem rBelowTy (h : RfG s g n c r L w) (hok : (grK (builtZ ++ r)).Ok) (hif : ∀ k, k < n → ifsI (builtZ ++ r) k = ints ((grK (builtZ ++ r)).ifs k)) (k1 : Int) (s1 : ByteArray) (k2 : Int) (s2 : ByteArray) :
    Calls Tryd.prog 39 #[.pointer (some ⟨s, 0, none⟩), .agg #[.int .i64 k1, .string s1], .agg #[.int .i64 k2, .string s2]] w fun e w' => e = .returned (.bool (belowTy (builtZ ++ r) k1 s1 k2 s2)) ∧ Ext w w' := by
  obtain ⟨m1, hm1⟩ : ∃ m1, mayZ (builtZ ++ r) k1 s1 = m1 := ⟨_, rfl⟩
  obtain ⟨m2, hm2⟩ : ∃ m2, mayZ (builtZ ++ r) k2 s2 = m2 := ⟨_, rfl⟩
  obtain ⟨f1, hf1⟩ : ∃ f1, findZ (builtZ ++ r) s1 = f1 := ⟨_, rfl⟩
  obtain ⟨f2, hf2⟩ : ∃ f2, findZ (builtZ ++ r) s2 = f2 := ⟨_, rfl⟩
  obtain ⟨bz, hbz⟩ : ∃ bz, belowZ (builtZ ++ r) f1 f2 = bz := ⟨_, rfl⟩
  obtain ⟨q1, hq1⟩ : ∃ q1, eqTy k1 s1 k2 s2 = q1 := ⟨_, rfl⟩
  have HR1 : Hid (∀ W, Ext w W → Calls Tryd.prog 37 #[.pointer (some ⟨s, 0, none⟩), .agg #[.int .i64 k1, .string s1]] W fun e w' => e = .returned (.bool m1) ∧ Ext W w') := Lib.hid fun W e => by rw [← hm1]; exact rMay (h.ext e) k1 s1
  have HR2 : Hid (∀ W, Ext w W → Calls Tryd.prog 37 #[.pointer (some ⟨s, 0, none⟩), .agg #[.int .i64 k2, .string s2]] W fun e w' => e = .returned (.bool m2) ∧ Ext W w') := Lib.hid fun W e => by rw [← hm2]; exact rMay (h.ext e) k2 s2
  have HN1 : Hid (∀ W, Ext w W → Calls Tryd.prog 45 #[.slice (some ⟨g, 0, none⟩) n c, .string s1] W fun e w' => e = .returned (.int .i64 f1) ∧ w' = W) := Lib.hid fun W e => by rw [← hf1]; exact (h.ext e).find s1
  have HN2 : Hid (∀ W, Ext w W → Calls Tryd.prog 45 #[.slice (some ⟨g, 0, none⟩) n c, .string s2] W fun e w' => e = .returned (.int .i64 f2) ∧ w' = W) := Lib.hid fun W e => by rw [← hf2]; exact (h.ext e).find s2
  have HBL : Hid (∀ W, Ext w W → Calls Tryd.prog 33 #[.pointer (some ⟨s, 0, none⟩), .int .i64 f1, .int .i64 f2] W fun e w' => e = .returned (.bool bz) ∧ Ext W w') := Lib.hid fun W e => by rw [← hbz]; exact rBelow (h.ext e) hok hif f1 f2
  have hqr : ∀ W, (binOp .eql 56 (.agg #[.int .i64 k1, .string s1]) (.agg #[.int .i64 k2, .string s2])).run Tryd.prog W = .ok (.bool q1) W := fun W => by rw [← hq1]; exact run_eqTy k1 s1 k2 s2 W
  obtain ⟨R, hR⟩ : ∃ R, belowTy (builtZ ++ r) k1 s1 k2 s2 = R := ⟨_, rfl⟩
  have HBT : Hid (BtIs R k1 m1 k2 s2 m2 q1 bz) := Lib.hid (by
    unfold BtIs
    rw [← hR]
    unfold belowTy refZ
    rw [hm1, hm2, hf1, hf2, hbz, hq1])
  rw [hR]
  have HK1 : Hid (KiIs m1 k1 s1) := Lib.hid fun h1 h3 => mayZ_kinds (hm1.trans h1) h3
  have HK2 : Hid (KiIs m2 k2 s2) := Lib.hid fun h1 h3 => mayZ_kinds (hm2.trans h1) h3
  have HQ1 : Hid (EqIs q1 k1 s1 k2 s2) := Lib.hid hq1.symm
  obtain ⟨W0, hW0⟩ : ∃ W0, (w.alloc (.cells #[.int .i64 k1, .string s1] 56)).alloc (.cells #[.int .i64 k2, .string s2] 56) = W0 := ⟨_, rfl⟩
  obtain ⟨p, hp⟩ : ∃ p, w.heap.size = p := ⟨_, rfl⟩
  have hb1 : W0.heap[p]? = some (.cells #[.int .i64 k1, .string s1] 56 (0, 0)) := by
    rw [← hW0, ← hp, heap_alloc_old _ _ (by simp)]
    exact heap_alloc_new w _
  have hb2 : W0.heap[p + 1]? = some (.cells #[.int .i64 k2, .string s2] 56 (0, 0)) := by
    rw [← hW0, ← hp]
    have := heap_alloc_new (w.alloc (.cells #[.int .i64 k1, .string s1] 56)) (.cells #[.int .i64 k2, .string s2] 56)
    simpa using this
  have HX0 : Hid (Ext w W0) := Lib.hid (by rw [← hW0]; exact ((Ext.refl w).alloc _).alloc _)
  have HC : Hid (∀ W, Ext W0 W → W.cell? ⟨p, 0, none⟩ = some (.int .i64 k1) ∧ W.cell? ⟨p, 1, none⟩ = some (.string s1) ∧ W.cell? ⟨p + 1, 0, none⟩ = some (.int .i64 k2) ∧ W.cell? ⟨p + 1, 1, none⟩ = some (.string s2) ∧ W.cell? ⟨s, 0, none⟩ = some (.slice (some ⟨g, 0, none⟩) n c)) := Lib.hid fun W e => by
    have h1 := (e.block _ (lt_of_get hb1)).trans hb1
    have h2 := (e.block _ (lt_of_get hb2)).trans hb2
    exact ⟨by rw [cell_of_row W p 0 _ _ (0, 0) h1]; rfl, by rw [cell_of_row W p 1 _ _ (0, 0) h1]; rfl, by rw [cell_of_row W (p + 1) 0 _ _ (0, 0) h2]; rfl, by rw [cell_of_row W (p + 1) 1 _ _ (0, 0) h2]; rfl, (h.ext (HX0.out.trans e)).c0⟩
  have y := HC.out W0 (Ext.refl _)
  obtain ⟨y0, y1, y2, y3, y4⟩ := y
  clear h hok hif hm1 hm2 hf1 hf2 hbz hq1 hb1 hb2 hR
  go_enter Tryd.func39, Tryd.ntmps39
  go_upto_region 1 with fail
  try rw [hp]
  try rw [hW0]
  clear hW0 hp
  go_wp2_with fail
  refine (HR1.out _ HX0.out).mono ?_
  rintro e w1 ⟨rfl, x1⟩
  have X1 := Lib.hid x1
  obtain ⟨y0, y1, y2, y3, y4⟩ := HC.out w1 X1.out
  clear x1
  cases m1
  · obtain rfl := HBT.out.n1
    go_wp2
    go_ret
    exact ⟨rfl, HX0.out.trans X1.out⟩
  go_wp2_with fail
  refine (HR2.out _ (HX0.out.trans X1.out)).mono ?_
  rintro e w2 ⟨rfl, x2⟩
  have X2 := Lib.hid (X1.out.trans x2)
  obtain ⟨y0, y1, y2, y3, y4⟩ := HC.out w2 X2.out
  clear x2
  cases m2
  · obtain rfl := HBT.out.n2
    go_wp2
    go_ret
    exact ⟨rfl, HX0.out.trans X2.out⟩
  by_cases h1 : k1 < 3
  · obtain rfl := HBT.out.l1 h1
    go_wp2
    go_ret
    exact ⟨rfl, HX0.out.trans X2.out⟩
  by_cases h2 : k2 < 3
  · obtain rfl := HBT.out.l2 h2
    go_wp2
    go_ret
    exact ⟨rfl, HX0.out.trans X2.out⟩
  have HY := Lib.hid (HBT.out.yes h1 h2)
  clear HBT
  cases q1
  rotate_left
  · obtain rfl : R = true := HY.out.trans (by simp)
    clear HY
    go_wp2
    go_ret
    exact ⟨rfl, HX0.out.trans X2.out⟩
  by_cases hob : k2 = 3 ∧ s2 = ⟨#[79, 98, 106, 101, 99, 116]⟩
  · obtain ⟨rfl, rfl⟩ := hob
    obtain rfl : R = true := HY.out.trans (by unfold eqTy nObj; simp)
    clear HY
    go_wp2
    go_ret
    exact ⟨rfl, HX0.out.trans X2.out⟩
  have HOB : eqTy k2 s2 3 nObj = false := by
    unfold eqTy nObj
    cases h : decide (k2 = 3)
    · rfl
    · rw [Bool.true_and]
      exact decide_eq_false fun e => hob ⟨of_decide_eq_true h, e⟩
  have hy := HY.out
  rw [HOB, Bool.false_or, Bool.false_or] at hy
  clear HY HOB
  by_cases h12 : k1 = k2
  · subst h12
    rw [decide_eq_true rfl, Bool.true_and] at hy
    subst hy
    rcases HK1.out rfl h1 with h36 | ⟨h45, hs1⟩
    rotate_left
    · exfalso
      rcases HK2.out rfl h2 with h6 | ⟨-, hs2⟩
      · omega
      · have := HQ1.out
        rw [hs1, hs2] at this
        unfold EqIs eqTy at this
        simp at this
    rcases h36 with rfl | rfl
    · have hs2 : ¬ s2 = ⟨#[79, 98, 106, 101, 99, 116]⟩ := fun e => hob ⟨rfl, e⟩
      have q3 : ¬ s2.toList = [79, 98, 106, 101, 99, 116] := fun e => hs2 (ba_inj (e.trans (ByteArray.toList_mk [79, 98, 106, 101, 99, 116]).symm))
      have q4 : (s2.toList == [79, 98, 106, 101, 99, 116]) = false := by rw [beq_eq_false_iff_ne]; exact q3
      clear hs2 hob h1 h2
      go_upto_region 5 with fail
      refine wp_region_still_tail 31 (by kernel_rfl) (by kernel_rfl) ?_
      simp only [List.take_succ_cons, List.take_zero, List.drop_succ_cons, List.drop_zero]
      repeat still_step
      still_call (HN1.out _ (HX0.out.trans (X2.out.trans (Ext.refl w2).drew)))
      repeat still_step
      still_call (HN2.out _ (HX0.out.trans (X2.out.trans (Ext.refl w2).drew)))
      repeat still_step
      try refine wpStill_nil ?_
      change wpList _ _ _ _ _ w2.drew
      go_wp2_with fail
      refine (HBL.out _ (HX0.out.trans (X2.out.trans (Ext.refl w2).drew))).mono ?_
      rintro e4 w4 ⟨rfl, x4⟩
      go_wp2
      go_ret
      exact ⟨rfl, HX0.out.trans ((X2.out.trans (Ext.refl w2).drew).trans x4)⟩
    · clear hob h1 h2
      have e1 := (Ext.refl w2).drew
      obtain ⟨z0, z1, z2, z3, z4⟩ := HC.out w2.drew (X2.out.trans e1)
      go_upto_region 5 with fail
      clear y0 y1 y2 y3 y4
      first
        | (go_region_held3 (fun w' => w'.cell? ⟨p, 0, none⟩ = some (.int .i64 6) ∧ w'.cell? ⟨p, 1, none⟩ = some (.string s1) ∧ w'.cell? ⟨p + 1, 0, none⟩ = some (.int .i64 6) ∧ w'.cell? ⟨p + 1, 1, none⟩ = some (.string s2) ∧ w'.cell? ⟨s, 0, none⟩ = some (.slice (some ⟨g, 0, none⟩) n c)) (first | go_keep | with_reducible assumption | assumption) (first
            | (go_at_call 45; (with_reducible refine (HN1.out _ (HX0.out.trans (X2.out.trans e1))).mono ?_); rintro e3 w3 ⟨rfl, rfl⟩)
            | (go_at_call 45; (with_reducible refine (HN2.out _ (HX0.out.trans (X2.out.trans e1))).mono ?_); rintro e3 w3 ⟨rfl, rfl⟩)
            | (go_at_call 33; (with_reducible refine (HBL.out _ (HX0.out.trans (X2.out.trans e1))).mono ?_); rintro e4 w4 ⟨rfl, x4⟩; have X4 := Lib.hid ((X2.out.trans e1).trans x4); have f4 := HC.out w4 X4.out)))
        | fail
      go_wp2
      go_ret
      exact ⟨rfl, HX0.out.trans X4.out⟩
  · have hkb : (k1 == k2) = false := by simp [h12]
    rw [decide_eq_false h12, Bool.false_and] at hy
    subst hy
    have HDR : Hid (∀ q, Ext w (w2.drewN q)) := Lib.hid fun q => HX0.out.trans (X2.out.drewN q)
    by_cases h23 : k2 = 3
    · subst h23
      have hs2 : ¬ s2 = ⟨#[79, 98, 106, 101, 99, 116]⟩ := fun e => hob ⟨rfl, e⟩
      have q3 : ¬ s2.toList = [79, 98, 106, 101, 99, 116] := fun e => hs2 (ba_inj (e.trans (ByteArray.toList_mk [79, 98, 106, 101, 99, 116]).symm))
      have q4 : (s2.toList == [79, 98, 106, 101, 99, 116]) = false := by rw [beq_eq_false_iff_ne]; exact q3
      clear hs2 hob
      go_wp2_with fail
      go_quiet (fail)
      go_wp2
      go_ret
      exact ⟨rfl, HDR.out _⟩
    · have h23b : (k2 == 3) = false := by simp [h23]
      clear hob
      go_wp2_with fail
      go_quiet (fail)
      go_wp2
      go_ret
      exact ⟨rfl, HDR.out _⟩
end
end Go.Proofs.YtkkfkjjmmdpafaaDoor
namespace Go.Proofs.YtkkfkjjmmdpafaaDoor
open Go.RowKit Go.Maps Go.WideMaps
set_option linter.unusedVariables false
set_option maxRecDepth 100000 in
set_option maxHeartbeats 4000000 in
theorem sBelowTy {B s : Nat} {N : List Kl} {w : World} (h : SetIs B s N w) (hB : Blt w) (k1 : Int) (s1 : ByteArray) (k2 : Int) (s2 : ByteArray) (hz1 : s1.size ≤ 140737488351232) (hz2 : s2.size ≤ 140737488351232) :
    Calls Tryd.prog 38 #[.pointer (some ⟨s, 0, none⟩), .agg #[.int .i64 k1, .string s1], .agg #[.int .i64 k2, .string s2]] w fun e w' => e = .returned (.bool (belowTy N k1 s1 k2 s2)) ∧ Ext w w' := by
  have hr1 := fun W (e : Ext w W) => sMayRef (h.ext e) k1 s1 hz1
  have hr2 := fun W (e : Ext w W) => sMayRef (h.ext e) k2 s2 hz2
  have HN1 := Lib.hid (fun W (e : Ext w W) => sNamed (h.ext e) s1 hz1)
  have HN2 := Lib.hid (fun W (e : Ext w W) => sNamed (h.ext e) s2 hz2)
  have hbl := fun W (e : Ext w W) => sBelow (h.ext e) (findZ N s1) (findZ N s2)
  have hq1 := fun W => run_eqTy k1 s1 k2 s2 W
  have hq2 := fun W => run_eqTy k2 s2 3 nObj W
  have HGL := Lib.hid (fun W (e : Ext w W) => (hB.ext e).2 0 (by omega))
  obtain ⟨W0, hW0⟩ : ∃ W0, (w.alloc (.cells #[.int .i64 k1, .string s1] 56)).alloc (.cells #[.int .i64 k2, .string s2] 56) = W0 := ⟨_, rfl⟩
  obtain ⟨p, hp⟩ : ∃ p, w.heap.size = p := ⟨_, rfl⟩
  have hb1 : W0.heap[p]? = some (.cells #[.int .i64 k1, .string s1] 56 (0, 0)) := by
    rw [← hW0, ← hp, heap_alloc_old _ _ (by simp)]
    exact heap_alloc_new w _
  have hb2 : W0.heap[p + 1]? = some (.cells #[.int .i64 k2, .string s2] 56 (0, 0)) := by
    rw [← hW0, ← hp]
    have := heap_alloc_new (w.alloc (.cells #[.int .i64 k1, .string s1] 56)) (.cells #[.int .i64 k2, .string s2] 56)
    simpa using this
  have HC : Hid (∀ W, Ext W0 W → W.cell? ⟨p, 0, none⟩ = some (.int .i64 k1) ∧ W.cell? ⟨p, 1, none⟩ = some (.string s1) ∧ W.cell? ⟨p + 1, 0, none⟩ = some (.int .i64 k2) ∧ W.cell? ⟨p + 1, 1, none⟩ = some (.string s2)) := Lib.hid fun W e => by
    have h1 := (e.block _ (lt_of_get hb1)).trans hb1
    have h2 := (e.block _ (lt_of_get hb2)).trans hb2
    exact ⟨by rw [cell_of_row W p 0 _ _ (0, 0) h1]; rfl, by rw [cell_of_row W p 1 _ _ (0, 0) h1]; rfl, by rw [cell_of_row W (p + 1) 0 _ _ (0, 0) h2]; rfl, by rw [cell_of_row W (p + 1) 1 _ _ (0, 0) h2]; rfl⟩
  have HX0 : Hid (Ext w W0) := Lib.hid (by rw [← hW0]; exact ((Ext.refl w).alloc _).alloc _)
  unfold belowTy
  obtain ⟨r1, h1⟩ : ∃ r1, refZ N k1 s1 = r1 := ⟨_, rfl⟩
  obtain ⟨r2, h2⟩ : ∃ r2, refZ N k2 s2 = r2 := ⟨_, rfl⟩
  obtain ⟨q1, h3⟩ : ∃ q1, eqTy k1 s1 k2 s2 = q1 := ⟨_, rfl⟩
  obtain ⟨q2, h4⟩ : ∃ q2, eqTy k2 s2 3 nObj = q2 := ⟨_, rfl⟩
  obtain ⟨f1, h5⟩ : ∃ f1, findZ N s1 = f1 := ⟨_, rfl⟩
  obtain ⟨f2, h6⟩ : ∃ f2, findZ N s2 = f2 := ⟨_, rfl⟩
  rw [h5] at HN1 hbl
  rw [h6] at HN2 hbl
  obtain ⟨bz, h7⟩ : ∃ bz, belowZ N f1 f2 = bz := ⟨_, rfl⟩
  simp only [h1] at hr1 ⊢
  simp only [h2] at hr2 ⊢
  simp only [h3] at hq1 ⊢
  simp only [h4] at hq2 ⊢
  simp only [h7] at hbl
  rw [h5, h6, h7]
  have HR1 := Lib.hid hr1
  have HR2 := Lib.hid hr2
  have HBL := Lib.hid hbl
  unfold nObj at hq2
  have hgn : bnm 0 = ⟨#[79, 98, 106, 101, 99, 116]⟩ := rfl
  rw [hgn] at HGL
  have y := HC.out W0 (Ext.refl _)
  obtain ⟨y0, y1, y2, y3⟩ := y
  clear h hB hz1 hz2 hr1 hr2 hbl h1 h2 h3 h4 h5 h6 h7 hb1 hb2 hgn
  go_enter Tryd.func38, Tryd.ntmps38
  go_upto_region 1 with fail
  try rw [hp]
  try rw [hW0]
  clear hW0 hp
  go_wp2_with fail
  refine (HR1.out _ (HX0.out.trans (Ext.refl _))).mono ?_
  rintro e w1 ⟨rfl, x1⟩
  have X1 := Lib.hid (((Ext.refl _)).trans x1)
  obtain ⟨y0, y1, y2, y3⟩ := HC.out w1 X1.out
  have y9 := HGL.out w1 (HX0.out.trans X1.out)
  clear x1
  cases r1
  · go_wp2
    go_ret
    exact ⟨rfl, HX0.out.trans X1.out⟩
  · go_wp2_with fail
    refine (HR2.out _ (HX0.out.trans X1.out)).mono ?_
    rintro e w2 ⟨rfl, x2⟩
    have X2 := Lib.hid ((X1.out).trans x2)
    obtain ⟨y0, y1, y2, y3⟩ := HC.out w2 X2.out
    have y9 := HGL.out w2 (HX0.out.trans X2.out)
    clear x2
    cases r2
    · go_wp2
      go_ret
      exact ⟨rfl, HX0.out.trans X2.out⟩
    · cases q1
      · cases q2
        · by_cases hk12 : k1 = k2
          · subst hk12
            have e1 := (Ext.refl w2).drew
            obtain ⟨z0, z1, z2, z3⟩ := HC.out w2.drew (X2.out.trans e1)
            go_upto_region 5 with fail
            clear y0 y1 y2 y3 y9
            go_region_held3 (fun w' => w'.cell? ⟨p, 0, none⟩ = some (.int .i64 k1) ∧ w'.cell? ⟨p, 1, none⟩ = some (.string s1) ∧ w'.cell? ⟨p + 1, 0, none⟩ = some (.int .i64 k1) ∧ w'.cell? ⟨p + 1, 1, none⟩ = some (.string s2)) (first | go_keep | with_reducible assumption | assumption) (first
              | (go_at_call 60; (with_reducible refine (HN1.out _ (HX0.out.trans (X2.out.trans e1))).mono ?_); rintro e3 w3 ⟨rfl, rfl⟩)
              | (go_at_call 60; (with_reducible refine (HN2.out _ (HX0.out.trans (X2.out.trans e1))).mono ?_); rintro e3 w3 ⟨rfl, rfl⟩)
              | (go_at_call 32; (with_reducible refine (HBL.out _ (HX0.out.trans (X2.out.trans e1))).mono ?_); rintro e4 w4 ⟨rfl, x4⟩; have X4 := Lib.hid ((X2.out.trans e1).trans x4); have f4 := HC.out w4 X4.out))
            go_wp2
            go_ret
            exact ⟨by simp, HX0.out.trans X4.out⟩
          · skip
            have hkb : (k1 == k2) = false := by simp [hk12]
            go_wp2_with fail
            go_quiet (fail)
            go_wp2
            go_ret
            exact ⟨by simp [hk12], HX0.out.trans (X2.out.drewN nq)⟩
        · go_wp2
          go_ret
          exact ⟨rfl, HX0.out.trans X2.out⟩
      · go_wp2
        go_ret
        exact ⟨rfl, HX0.out.trans X2.out⟩
end Go.Proofs.YtkkfkjjmmdpafaaDoor
