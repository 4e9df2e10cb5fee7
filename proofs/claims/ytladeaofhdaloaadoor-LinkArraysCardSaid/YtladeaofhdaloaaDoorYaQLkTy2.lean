/- Types, asked of a set: does one stand below another one. -/
import Derived.Test.YtladeaofhdaloaaDoorYaQLkTy
namespace Go.Proofs.YtladeaofhdaloaaDoor
open Go.RowKit Go.Maps Go.WideMaps
set_option linter.unusedVariables false
set_option maxRecDepth 100000 in
set_option maxHeartbeats 4000000 in
theorem sBelowTy {B s : Nat} {N : List Kl} {w : World} (h : SetIs B s N w) (hB : Blt w) (k1 : Int) (s1 : ByteArray) (k2 : Int) (s2 : ByteArray) (hz1 : s1.size ≤ 140737488351232) (hz2 : s2.size ≤ 140737488351232) :
    Calls Tryd.prog 38 #[.pointer (some ⟨s, 0, none⟩), .agg #[.int .i64 k1, .string s1], .agg #[.int .i64 k2, .string s2]] w fun e w' => e = .returned (.bool (belowTy N k1 s1 k2 s2)) ∧ Ext w w' := by
  have hr1 := fun W (e : Ext w W) => sMayRef (h.ext e) k1 s1 hz1
  have hr2 := fun W (e : Ext w W) => sMayRef (h.ext e) k2 s2 hz2
  have HN1 := Lib.hid (fun W (e : Ext w W) => sNamed (h.ext e) s1 hz1)
  have HN2 := Lib.hid (fun W (e : Ext w W) => sNamed (h.ext e) s2 hz2)
  have hbl := fun W (e : Ext w W) => sBelow (h.ext e) (findZ N s1) (findZ N s2)
  have hq1 := fun W => run_eqTy k1 s1 k2 s2 W
  have hq2 := fun W => run_eqTy k2 s2 3 nObj W
  have HGL := Lib.hid (fun W (e : Ext w W) => (hB.ext e).2 0 (by omega))
  obtain ⟨W0, hW0⟩ : ∃ W0, (w.alloc (.cells #[.int .i64 k1, .string s1] 56)).alloc (.cells #[.int .i64 k2, .string s2] 56) = W0 := ⟨_, rfl⟩
  obtain ⟨p, hp⟩ : ∃ p, w.heap.size = p := ⟨_, rfl⟩
  have hb1 : W0.heap[p]? = some (.cells #[.int .i64 k1, .string s1] 56 (0, 0)) := by
    rw [← hW0, ← hp, heap_alloc_old _ _ (by simp)]
    exact heap_alloc_new w _
  have hb2 : W0.heap[p + 1]? = some (.cells #[.int .i64 k2, .string s2] 56 (0, 0)) := by
    rw [← hW0, ← hp]
    have := heap_alloc_new (w.alloc (.cells #[.int .i64 k1, .string s1] 56)) (.cells #[.int .i64 k2, .string s2] 56)
    simpa using this
  have HC : Hid (∀ W, Ext W0 W → W.cell? ⟨p, 0, none⟩ = some (.int .i64 k1) ∧ W.cell? ⟨p, 1, none⟩ = some (.string s1) ∧ W.cell? ⟨p + 1, 0, none⟩ = some (.int .i64 k2) ∧ W.cell? ⟨p + 1, 1, none⟩ = some (.string s2)) := Lib.hid fun W e => by
    have h1 := (e.block _ (lt_of_get hb1)).trans hb1
    have h2 := (e.block _ (lt_of_get hb2)).trans hb2
    exact ⟨by rw [cell_of_row W p 0 _ _ (0, 0) h1]; rfl, by rw [cell_of_row W p 1 _ _ (0, 0) h1]; rfl, by rw [cell_of_row W (p + 1) 0 _ _ (0, 0) h2]; rfl, by rw [cell_of_row W (p + 1) 1 _ _ (0, 0) h2]; rfl⟩
  have HX0 : Hid (Ext w W0) := Lib.hid (by rw [← hW0]; exact ((Ext.refl w).alloc _).alloc _)
  unfold belowTy
  obtain ⟨r1, h1⟩ : ∃ r1, refZ N k1 s1 = r1 := ⟨_, rfl⟩
  obtain ⟨r2, h2⟩ : ∃ r2, refZ N k2 s2 = r2 := ⟨_, rfl⟩
  obtain ⟨q1, h3⟩ : ∃ q1, eqTy k1 s1 k2 s2 = q1 := ⟨_, rfl⟩
  obtain ⟨q2, h4⟩ : ∃ q2, eqTy k2 s2 3 nObj = q2 := ⟨_, rfl⟩
  obtain ⟨f1, h5⟩ : ∃ f1, findZ N s1 = f1 := ⟨_, rfl⟩
  obtain ⟨f2, h6⟩ : ∃ f2, findZ N s2 = f2 := ⟨_, rfl⟩
  rw [h5] at HN1 hbl
  rw [h6] at HN2 hbl
  obtain ⟨bz, h7⟩ : ∃ bz, belowZ N f1 f2 = bz := ⟨_, rfl⟩
  simp only [h1] at hr1 ⊢
  simp only [h2] at hr2 ⊢
  simp only [h3] at hq1 ⊢
  simp only [h4] at hq2 ⊢
  simp only [h7] at hbl
  rw [h5, h6, h7]
  have HR1 := Lib.hid hr1
  have HR2 := Lib.hid hr2
  have HBL := Lib.hid hbl
  unfold nObj at hq2
  have hgn : bnm 0 = ⟨#[79, 98, 106, 101, 99, 116]⟩ := rfl
  rw [hgn] at HGL
  have y := HC.out W0 (Ext.refl _)
  obtain ⟨y0, y1, y2, y3⟩ := y
  clear h hB hz1 hz2 hr1 hr2 hbl h1 h2 h3 h4 h5 h6 h7 hb1 hb2 hgn
  go_enter Tryd.func38, Tryd.ntmps38
  go_upto_region 1 with fail
  try rw [hp]
  try rw [hW0]
  clear hW0 hp
  go_wp2_with fail
  refine (HR1.out _ (HX0.out.trans (Ext.refl _))).mono ?_
  rintro e w1 ⟨rfl, x1⟩
  have X1 := Lib.hid (((Ext.refl _)).trans x1)
  obtain ⟨y0, y1, y2, y3⟩ := HC.out w1 X1.out
  have y9 := HGL.out w1 (HX0.out.trans X1.out)
  clear x1
  cases r1
  · go_wp2
    go_ret
    exact ⟨rfl, HX0.out.trans X1.out⟩
  · go_wp2_with fail
    refine (HR2.out _ (HX0.out.trans X1.out)).mono ?_
    rintro e w2 ⟨rfl, x2⟩
    have X2 := Lib.hid ((X1.out).trans x2)
    obtain ⟨y0, y1, y2, y3⟩ := HC.out w2 X2.out
    have y9 := HGL.out w2 (HX0.out.trans X2.out)
    clear x2
    cases r2
    · go_wp2
      go_ret
      exact ⟨rfl, HX0.out.trans X2.out⟩
    · cases q1
      · cases q2
        · by_cases hk12 : k1 = k2
          · subst hk12
            have e1 := (Ext.refl w2).drew
            obtain ⟨z0, z1, z2, z3⟩ := HC.out w2.drew (X2.out.trans e1)
            go_upto_region 5 with fail
            clear y0 y1 y2 y3 y9
            go_region_held3 (fun w' => w'.cell? ⟨p, 0, none⟩ = some (.int .i64 k1) ∧ w'.cell? ⟨p, 1, none⟩ = some (.string s1) ∧ w'.cell? ⟨p + 1, 0, none⟩ = some (.int .i64 k1) ∧ w'.cell? ⟨p + 1, 1, none⟩ = some (.string s2)) (first | go_keep | with_reducible assumption | assumption) (first
              | (go_at_call 60; (with_reducible refine (HN1.out _ (HX0.out.trans (X2.out.trans e1))).mono ?_); rintro e3 w3 ⟨rfl, rfl⟩)
              | (go_at_call 60; (with_reducible refine (HN2.out _ (HX0.out.trans (X2.out.trans e1))).mono ?_); rintro e3 w3 ⟨rfl, rfl⟩)
              | (go_at_call 32; (with_reducible refine (HBL.out _ (HX0.out.trans (X2.out.trans e1))).mono ?_); rintro e4 w4 ⟨rfl, x4⟩; have X4 := Lib.hid ((X2.out.trans e1).trans x4); have f4 := HC.out w4 X4.out))
            go_wp2
            go_ret
            exact ⟨by simp, HX0.out.trans X4.out⟩
          · skip
            have hkb : (k1 == k2) = false := by simp [hk12]
            go_wp2_with fail
            go_quiet (fail)
            go_wp2
            go_ret
            exact ⟨by simp [hk12], HX0.out.trans (X2.out.drewN nq)⟩
        · go_wp2
          go_ret
          exact ⟨rfl, HX0.out.trans X2.out⟩
      · go_wp2
        go_ret
        exact ⟨rfl, HX0.out.trans X2.out⟩
end Go.Proofs.YtladeaofhdaloaaDoor
