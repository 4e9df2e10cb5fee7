/- LinkTypes, walked. -/
import Derived.Test.YtkkfkjjmmdpafaaDoorYcK
import Derived.Test.YtkkfkjjmmdpafaaDoorYcH
import Derived.Test.YtkkfkjjmmdpafaaDoorYcA
import Derived.Test.YtkkfkjjmmdpafaaDoorYcM
import Derived.Test.YtkkfkjjmmdpafaaDoorYcO
namespace Go.Proofs.YtkkfkjjmmdpafaaDoor
open Go.RowKit
set_option linter.unusedVariables false

set_option maxRecDepth 100000 in
set_option maxHeartbeats 4000000 in
theorem linkTypes_walk (w : World) (hB : Blt w) (v : Value) (l : List KlV) (h : ShK.Row w v l) (hl : l.length * 136 ≤ 140737488351232) (hk : ∀ x ∈ l, KlOk x) (k1 : Int) (t1 : ByteArray) (hk1 : B64 k1) (ht1 : t1.size ≤ 140737488351232) (k2 : Int) (t2 : ByteArray) (hk2 : B64 k2) (ht2 : t2.size ≤ 140737488351232) :
    Calls Tryd.prog 5 #[v, .agg #[.int .i64 k1, .string t1], .agg #[.int .i64 k2, .string t2]] w fun e w' => e = .returned (.bool true) ∧ Ext w w' := by
  have HB := Lib.hid hB
  have HH := Lib.hid (fun W (e : Ext w W) => heads_any (h.ext e) hl hk)
  have HK := Lib.hid hk
  have HL := Lib.hid hl
  obtain ⟨A, cp, rfl, -⟩ := h.cut
  have HR := Lib.hid h
  have HAW := Lib.hid (fun W (e : Ext w W) => awake_any W (hB.ext e))
  obtain ⟨n, hn⟩ : ∃ n, l.length = n := ⟨_, rfl⟩
  have HN := Lib.hid hn
  rw [hn] at HH HR ⊢
  obtain ⟨K, hK⟩ : ∃ K, l.map (·.k) = K := ⟨_, rfl⟩
  rw [hK] at HH
  have HKL := Lib.hid hK
  clear h hl hk hB hn hK
  go_enter Tryd.func5, Tryd.ntmps5
  go_wp2_with fail
  refine (HH.out _ (((Ext.refl w).alloc _).alloc _)).mono ?_
  rintro e w1 ⟨A1, c1, L1, rfl, o1, k1, nl1, x1⟩
  have hnw := newH_any (HB.out.ext ((((Ext.refl w).alloc _).alloc _).trans x1)) o1.row (by
    have h1 := congrArg List.length k1
    rw [List.length_map] at h1
    rw [h1, ← HKL.out, List.length_map]
    exact HL.out) (by rw [k1, ← HKL.out]; exact map_ok rfl HK.out) nl1
  rw [k1] at hnw
  have HNW := Lib.hid hnw
  have X1' := Lib.hid ((((Ext.refl w).alloc _).alloc _).trans x1)
  have Y1' := Lib.hid x1
  clear hnw o1 k1 nl1 x1
  go_wp2_with fail
  refine HNW.out.mono ?_
  rintro e w2 ⟨x2, hr⟩
  have X2 := Lib.hid (X1'.out.trans x2)
  have YX2 := Lib.hid (Y1'.out.trans x2)
  clear HNW x2 X1' Y1'
  rcases hr with ⟨nm, er, hf, rfl⟩ | ⟨hf, s, rfl, hs⟩
  · have her := newF_err hf
    have hne : ¬ er = 0 := by omega
    have HFE := Lib.hid hf
    clear hf her
    have HRN := Lib.hid (rnew_any (HR.out.ext X2.out) HK.out HL.out)
    rw [HKL.out] at HRN
    go_wp2_with fail
    refine HRN.out.mono ?_
    rintro e w4 ⟨x4, hr2⟩
    have X4 := Lib.hid (X2.out.trans x4)
    have X24 := Lib.hid x4
    clear x4 HRN
    rcases hr2 with ⟨nm2, er2, hf2, rfl⟩ | ⟨hf2, s2, g2, n2, c2, r2, L2, rfl, hst, hrf⟩
    · have e1 := HFE.out.symm.trans hf2
      injection e1 with e1
      injection e1 with e2 e3
      subst e2 e3
      have hnn : (er != er) = false := by simp
      have hn0 : (er != 0) = true := by simp [hne]
      clear hf2
      go_wp2_with fail
      refine (HAW.out _ X4.out).mono ?_
      rintro e w3 ⟨rfl, x3⟩
      go_wp2
      go_ret
      exact ⟨rfl, X4.out.trans x3⟩
    · exact absurd (HFE.out.symm.trans hf2) (by simp)
  · have HF := Lib.hid hf
    have HS := Lib.hid hs
    clear hf hs
    have HRN := Lib.hid (rnew_any (HR.out.ext X2.out) HK.out HL.out)
    rw [HKL.out] at HRN
    go_wp2_with fail
    refine HRN.out.mono ?_
    rintro e w4 ⟨x4, hr2⟩
    have X4 := Lib.hid (X2.out.trans x4)
    have X24 := Lib.hid x4
    clear x4 HRN
    rcases hr2 with ⟨nm2, er2, hf2, rfl⟩ | ⟨hf2, s2, g2, n2, c2, r2, L2, rfl, hst, hrf⟩
    · exact absurd (HF.out.symm.trans hf2) (by simp)
    · have HOK : Hid ((grK (builtZ ++ r2)).Ok) := Lib.hid (by rw [← hst]; exact HS.out.ok)
      have HS4 := Lib.hid (HS.out.ext X24.out)
      rw [hst] at HS4
      have HIF : Hid (∀ k, k < n2 → ifsI (builtZ ++ r2) k = ints ((grK (builtZ ++ r2)).ifs k)) := Lib.hid (fun k hk => (HS4.out.gr k (by rw [hrf.lenN]; exact hk)).2)
      have hBW := fun W (e : Ext w4 W) => HB.out.ext (X4.out.trans e)
      have hM1 := fun W (e : Ext w4 W) => sMay (HS4.out.ext e) k1 t1 ht1
      have hM2 := fun W (e : Ext w4 W) => rMay (hrf.ext e) k1 t1
      have hT1 := fun W (e : Ext w4 W) => sBelowTy (HS4.out.ext e) (hBW W e) k1 t1 k2 t2 ht1 ht2
      have hT2 := fun W (e : Ext w4 W) => rBelowTy (hrf.ext e) HOK.out HIF.out k1 t1 k2 t2
      have hU1 := fun W (e : Ext w4 W) => sBelowTy (HS4.out.ext e) (hBW W e) k1 t1 k1 t1 ht1 ht1
      have hU2 := fun W (e : Ext w4 W) => rBelowTy (hrf.ext e) HOK.out HIF.out k1 t1 k1 t1
      obtain ⟨mm, hmm⟩ : ∃ mm, mayZ (builtZ ++ r2) k1 t1 = mm := ⟨_, rfl⟩
      obtain ⟨tt, htt⟩ : ∃ tt, belowTy (builtZ ++ r2) k1 t1 k2 t2 = tt := ⟨_, rfl⟩
      obtain ⟨uu, huu⟩ : ∃ uu, belowTy (builtZ ++ r2) k1 t1 k1 t1 = uu := ⟨_, rfl⟩
      simp only [hmm] at hM1 hM2
      simp only [htt] at hT1 hT2
      simp only [huu] at hU1 hU2
      have HM1 := Lib.hid hM1
      have HM2 := Lib.hid hM2
      have HT1 := Lib.hid hT1
      have HT2 := Lib.hid hT2
      have HU1 := Lib.hid hU1
      have HU2 := Lib.hid hU2
      have HAX : Hid (∀ W, Ext w4 W → Calls Tryd.prog 14 #[] W fun e w' => e = .returned (.bool true) ∧ Ext W w') := Lib.hid fun W e => HAW.out W (X4.out.trans e)
      have HXX : Hid (∀ W, Ext w4 W → Ext w W) := Lib.hid fun W e => X4.out.trans e
      have hb1 : ((w.alloc (.cells #[.int .i64 k1, .string t1] 56)).alloc (.cells #[.int .i64 k2, .string t2] 56)).heap[w.heap.size]? = some (.cells #[.int .i64 k1, .string t1] 56 (0, 0)) := by
        rw [heap_alloc_old _ _ (by simp)]
        exact heap_alloc_new w _
      have hb2 : ((w.alloc (.cells #[.int .i64 k1, .string t1] 56)).alloc (.cells #[.int .i64 k2, .string t2] 56)).heap[w.heap.size + 1]? = some (.cells #[.int .i64 k2, .string t2] 56 (0, 0)) := by
        have := heap_alloc_new (w.alloc (.cells #[.int .i64 k1, .string t1] 56)) (.cells #[.int .i64 k2, .string t2] 56)
        simpa using this
      obtain ⟨p, hp⟩ : ∃ p, w.heap.size = p := ⟨_, rfl⟩
      rw [hp] at hb1 hb2 ⊢
      have HC : Hid (∀ W, Ext w4 W → W.cell? ⟨p, 0, none⟩ = some (.int .i64 k1) ∧ W.cell? ⟨p, 1, none⟩ = some (.string t1) ∧ W.cell? ⟨p + 1, 0, none⟩ = some (.int .i64 k2) ∧ W.cell? ⟨p + 1, 1, none⟩ = some (.string t2)) := Lib.hid fun W e => by
        have e0 := (YX2.out.trans X24.out).trans e
        have h1 := (e0.block _ (lt_of_get hb1)).trans hb1
        have h2 := (e0.block _ (lt_of_get hb2)).trans hb2
        exact ⟨by rw [cell_of_row W p 0 _ _ (0, 0) h1]; rfl, by rw [cell_of_row W p 1 _ _ (0, 0) h1]; rfl, by rw [cell_of_row W (p + 1) 0 _ _ (0, 0) h2]; rfl, by rw [cell_of_row W (p + 1) 1 _ _ (0, 0) h2]; rfl⟩
      have hme : (mm == mm) = true := by simp
      have hte : (tt == tt) = true := by simp
      have hue : (uu == uu) = true := by simp
      have e1 := (Ext.refl w4).drew
      have g4 := HC.out _ e1
      clear hM1 hM2 hT1 hT2 hU1 hU2 hmm htt huu HS4 HOK HIF HAW X24 hBW hf2 hst hrf HS HF YX2 X2 HR HK HL HKL HN HB HH hk1 hk2 ht1 ht2 hb1 hb2 hp X4
      go_wp2_with fail
      go_region_held3 (fun w' => w'.cell? ⟨p, 0, none⟩ = some (.int .i64 k1) ∧ w'.cell? ⟨p, 1, none⟩ = some (.string t1) ∧ w'.cell? ⟨p + 1, 0, none⟩ = some (.int .i64 k2) ∧ w'.cell? ⟨p + 1, 1, none⟩ = some (.string t2)) (first | go_keep | with_reducible assumption | assumption) (first
        | (go_at_call 36; (with_reducible refine (HM1.out _ e1).mono ?_); rintro e5 w5 ⟨rfl, x5⟩; have X5 := Lib.hid (e1.trans x5); have g5 := HC.out w5 X5.out)
        | (go_at_call 37; (with_reducible refine (HM2.out w5 X5.out).mono ?_); rintro e6 w6 ⟨rfl, x6⟩; have X6 := Lib.hid (X5.out.trans x6); have g6 := HC.out w6 X6.out)
        | (go_at_call 38; (with_reducible refine (HT1.out w6 X6.out).mono ?_); rintro e7 w7 ⟨rfl, x7⟩; have X7 := Lib.hid (X6.out.trans x7); have g7 := HC.out w7 X7.out)
        | (go_at_call 39; (with_reducible refine (HT2.out w7 X7.out).mono ?_); rintro e8 w8 ⟨rfl, x8⟩; have X8 := Lib.hid (X7.out.trans x8); have g8 := HC.out w8 X8.out)
        | (go_at_call 38; (with_reducible refine (HU1.out w8 X8.out).mono ?_); rintro e9 w9 ⟨rfl, x9⟩; have X9 := Lib.hid (X8.out.trans x9); have g9 := HC.out w9 X9.out)
        | (go_at_call 39; (with_reducible refine (HU2.out w9 X9.out).mono ?_); rintro e10 w10 ⟨rfl, x10⟩; have X10 := Lib.hid (X9.out.trans x10); have g10 := HC.out w10 X10.out)
        | (go_at_call 14; (with_reducible refine (HAX.out w10 X10.out).mono ?_); rintro e11 w11 ⟨rfl, x11⟩; have X11 := Lib.hid (X10.out.trans x11); have g11 := HC.out w11 X11.out))
      go_wp2
      go_ret
      exact ⟨rfl, HXX.out _ X11.out⟩
end Go.Proofs.YtkkfkjjmmdpafaaDoor
