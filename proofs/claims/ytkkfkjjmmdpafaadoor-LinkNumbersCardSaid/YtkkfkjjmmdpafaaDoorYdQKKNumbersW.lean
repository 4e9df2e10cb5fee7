/- LinkNumbers, walked. -/
import Derived.Test.YtkkfkjjmmdpafaaDoorYdK
import Derived.Test.YtkkfkjjmmdpafaaDoorYdH
import Derived.Test.YtkkfkjjmmdpafaaDoorYdA
import Derived.Test.YtkkfkjjmmdpafaaDoorYdM
import Derived.Test.YtkkfkjjmmdpafaaDoorYdN
namespace Go.Proofs.YtkkfkjjmmdpafaaDoor
open Go.RowKit
set_option linter.unusedVariables false

set_option maxRecDepth 100000 in
set_option maxHeartbeats 4000000 in
theorem linkNumbers_walk (w : World) (hB : Blt w) (v : Value) (l : List KlV) (h : ShK.Row w v l) (hl : l.length * 136 ≤ 140737488351232) (hk : ∀ x ∈ l, KlOk x) (nm0 : ByteArray) (hz0 : nm0.size ≤ 140737488351232) :
    Calls Tryd.prog 3 #[v, .string nm0] w fun e w' => e = .returned (.bool true) ∧ Ext w w' := by
  have HB := Lib.hid hB
  have HH := Lib.hid (fun W (e : Ext w W) => heads_any (h.ext e) hl hk)
  have HK := Lib.hid hk
  have HL := Lib.hid hl
  obtain ⟨A, cp, rfl, -⟩ := h.cut
  have HR := Lib.hid h
  have HAW := Lib.hid (fun W (e : Ext w W) => awake_any W (hB.ext e))
  obtain ⟨n, hn⟩ : ∃ n, l.length = n := ⟨_, rfl⟩
  have HN := Lib.hid hn
  rw [hn] at HH HR ⊢
  obtain ⟨K, hK⟩ : ∃ K, l.map (·.k) = K := ⟨_, rfl⟩
  rw [hK] at HH
  have HKL := Lib.hid hK
  clear h hl hk hB hn hK
  go_enter Tryd.func3, Tryd.ntmps3
  go_wp2_with fail
  refine (HH.out _ (Ext.refl w)).mono ?_
  rintro e w1 ⟨A1, c1, L1, rfl, o1, k1, nl1, x1⟩
  have hnw := newH_any (HB.out.ext x1) o1.row (by
    have h1 := congrArg List.length k1
    rw [List.length_map] at h1
    rw [h1, ← HKL.out, List.length_map]
    exact HL.out) (by rw [k1, ← HKL.out]; exact map_ok rfl HK.out) nl1
  rw [k1] at hnw
  have HNW := Lib.hid hnw
  have SP1 := Lib.hid (Spo.of o1)
  have K1 := Lib.hid k1
  obtain ⟨lo, hlo⟩ : ∃ lo, w.heap.size = lo := ⟨_, rfl⟩
  obtain ⟨hi, hhi⟩ : ∃ hi, w1.heap.size = hi := ⟨_, rfl⟩
  have HLO := Lib.hid hlo
  have HHI := Lib.hid hhi
  rw [hlo, hhi] at SP1
  have hcc : n ≤ c1 ∧ c1 ≤ maxLen ∧ n = L1.length := by
    obtain ⟨A9, c9, e1, h1, h2, -⟩ := o1.row.cut
    injection e1 with e3 e4 e5
    exact ⟨by omega, by rw [e5]; exact h2, e4⟩
  obtain ⟨hc1, hm1, hn1⟩ := hcc
  unfold maxLen at hm1
  have HN1 := Lib.hid hn1
  have X1 := Lib.hid x1
  clear hnw o1 k1 nl1 x1 hlo hhi hn1
  go_wp2_with fail
  refine HNW.out.mono ?_
  rintro e w2 ⟨x2, hr⟩
  have X12 := Lib.hid x2
  have X2 := Lib.hid (X1.out.trans x2)
  have HRN := Lib.hid (rnew_at (HR.out.ext X2.out) HK.out HL.out)
  rw [HKL.out] at HRN
  clear HNW x2
  rcases hr with ⟨nm, er, hf, rfl⟩ | ⟨hf, s, rfl, hs⟩
  · have her := newF_err hf
    have hne : ¬ er = 0 := by omega
    have HFE := Lib.hid hf
    clear hf her
    go_wp2_with fail
    refine HRN.out.mono ?_
    rintro e w4 ⟨x4, hr2⟩
    have X4 := Lib.hid (X2.out.trans x4)
    have X24 := Lib.hid x4
    have SP4 := Lib.hid (SP1.out.ext (X12.out.trans x4))
    clear x4 HRN
    rcases hr2 with ⟨nm2, er2, hf2, rfl⟩ | ⟨hf2, s2, g2, n2, c2, r2, L2, rfl, hst, hrf, -⟩
    · have e1 := HFE.out.symm.trans hf2
      injection e1 with e1
      injection e1 with e2 e3
      subst e2 e3
      have hnn : (er != er) = false := by simp
      have hn0 : (nm.toList != nm.toList) = false := by simp
      clear hf2
      go_wp2_with fail
      go_loopw [12] (fun iv wr => ∃ k : Nat, iv = .int .i64 k ∧ k ≤ n ∧ Hid (Spo lo hi wr A1 L1) ∧ Hid (Ext w wr) ∧ Hid (Agb hi w4 wr)) (fun iv _ => n - (intOf iv).toNat)
      case atStart => exact ⟨0, rfl, by omega, SP4, X4, Lib.hid (Agb.refl _ _)⟩
      case round =>
        obtain ⟨k, rfl, hk, HS0, HX, HG⟩ := hrel
        rename World => wr
        by_cases hlt : k < n
        · have hltz : (k : Int) < (n : Int) := by omega
          have hk0 : ¬ (k : Int) < 0 := by omega
          have hkl : k < l.length := by rw [HN.out]; exact hlt
          have hkL : k < L1.length := by rw [← HN1.out]; exact hlt
          obtain ⟨x, hx⟩ : ∃ x, l[k]? = some x := ⟨l[k], List.getElem?_eq_getElem hkl⟩
          obtain ⟨y, hy⟩ : ∃ y, L1[k]? = some y := ⟨L1[k], List.getElem?_eq_getElem hkL⟩
          have hxy : y.k = x.k := by
            have h1 := congrArg (fun z => z[k]?) (K1.out.trans HKL.out.symm)
            simp only [List.getElem?_map, hx, hy, Option.map_some] at h1
            injection h1
          obtain ⟨b, o, hA, hat⟩ := rowK_at HR.out (by omega)
          subst hA
          obtain ⟨g, cur, hA1, hlg, hgh, hcur, hcl⟩ := HS0.out.cls (by omega)
          subst hA1
          obtain ⟨h1, h2, -, -⟩ := hcl k y hy
          obtain ⟨-, c1', c2', -⟩ := (hat wr HX.out k x hx).1
          have f1 : wr.cell? ⟨g, k * 7 + 1, none⟩ = some (.string x.k.nm) := by rw [cell_of_row wr g _ _ _ (0, 0) hcur, h1, hxy]
          have f2 : wr.cell? ⟨g, k * 7 + 2, none⟩ = some (.string x.k.sup) := by rw [cell_of_row wr g _ _ _ (0, 0) hcur, h2, hxy]
          obtain ⟨nm, hnm⟩ : ∃ nm, x.k.nm = nm := ⟨_, rfl⟩
          obtain ⟨su, hsu⟩ : ∃ su, x.k.sup = su := ⟨_, rfl⟩
          rw [hnm] at f1 c1'
          rw [hsu] at f2 c2'
          have hn1 : (nm.toList != nm.toList) = false := by simp
          have hn2 : (su.toList != su.toList) = false := by simp
          have HY := Lib.hid hy
          have HYM := Lib.hid (List.mem_of_getElem? hy)
          obtain ⟨vn, hvn⟩ : ∃ vn, y.vi.n = vn := ⟨_, rfl⟩
          obtain ⟨vc, hvc⟩ : ∃ vc, y.vi.c = vc := ⟨_, rfl⟩
          obtain ⟨vA, hvA⟩ : ∃ vA, y.vi.A = vA := ⟨_, rfl⟩
          have HVN := Lib.hid hvn
          have HVC := Lib.hid hvc
          have HVA := Lib.hid hvA
          clear hx hy hxy hat hcur hcl h1 h2 hnm hsu hvn hvc hvA hkl hkL hlg hgh
          go_wp2_with fail
          go_quiet (fail)
          obtain ⟨wd, hwd⟩ : ∃ wd, wr.drewN nq = wd := ⟨_, rfl⟩
          have hwe : Ext wr wd := by rw [← hwd]; exact (Ext.refl wr).drewN nq
          rw [hwd]
          have HSd := Lib.hid (HS0.out.ext hwe)
          have HXd := Lib.hid (HX.out.trans hwe)
          have HGd := Lib.hid (HG.out.trans (Agb.of hwe))
          clear hwd hwe f1 f2 c1' c2' hn1 hn2
          obtain ⟨g', cur, hA1, hlg, hgh, hcur, hcl⟩ := HSd.out.cls (by rw [← HN1.out]; omega)
          injection hA1 with hA1
          injection hA1 with hA1 _
          subst hA1
          obtain ⟨-, -, ⟨bb, h3⟩, -⟩ := hcl k y HY.out
          have f3 : wd.cell? ⟨g, k * 7 + 3, none⟩ = some (.bool bb) := by rw [cell_of_row wd g _ _ _ (0, 0) hcur, h3]
          have f4 : wd.frozen? ⟨g, k * 7 + 3, none⟩ = false := by simp [World.frozen?, hcur]
          have HS5 : Hid (Spo lo hi (wd.setCell ⟨g, k * 7 + 3, none⟩ (.bool !bb)) (some ⟨g, 0, none⟩) L1) := Lib.hid (HSd.out.flip rfl HY.out _)
          have HX5 : Hid (Ext w (wd.setCell ⟨g, k * 7 + 3, none⟩ (.bool !bb))) := Lib.hid (HXd.out.set_ (by show w.heap.size ≤ g; rw [HLO.out]; exact hlg) _)
          have HG5 : Hid (Agb hi w4 (wd.setCell ⟨g, k * 7 + 3, none⟩ (.bool !bb))) := Lib.hid (HGd.out.trans (Agb.set wd _ hgh))
          have HIF := Lib.hid (HSd.out.ifs y HYM.out)
          clear hcur hcl h3 hlg hgh
          go_wp2_with fail
          go_loopw [13] (fun jv wq => ∃ j : Nat, jv = .int .i64 j ∧ j ≤ vn ∧ Hid (Spo lo hi wq (some ⟨g, 0, none⟩) L1) ∧ Hid (Ext w wq) ∧ Hid (Agb hi w4 wq)) (fun jv _ => vn - (intOf jv).toNat)
          case atStart => exact ⟨0, rfl, by omega, HS5, HX5, HG5⟩
          case round =>
            obtain ⟨j, rfl, hj, HS6, HX6, HG6⟩ := hrel
            rename World => wq
            obtain ⟨hv1, hv2, -⟩ := HIF.out
            rw [HVN.out, HVC.out] at hv1
            rw [HVC.out] at hv2
            unfold maxLen at hv2
            have g4 : wq.cell? ⟨g, k * 7 + 4, none⟩ = some (.slice vA vn vc) := by
              obtain ⟨g', cur', hA', -, -, hcur', hcl'⟩ := HS6.out.cls (by rw [← HN1.out]; omega)
              injection hA' with hA'
              injection hA' with hA' _
              subst hA'
              rw [cell_of_row wq g _ _ _ (0, 0) hcur', (hcl' k y HY.out).2.2.2, HVN.out, HVC.out, HVA.out]
            by_cases hjt : j < vn
            · have hjz : (j : Int) < (vn : Int) := by omega
              have hj0 : ¬ (j : Int) < 0 := by omega
              obtain ⟨q, cu, hqA, hql, hqh, hqc, hqs⟩ := (HS6.out.ifs y HYM.out).2.2 (by rw [HVN.out]; omega)
              rw [HVA.out] at hqA
              subst hqA
              rw [HVN.out] at hqs
              obtain ⟨u, hu⟩ : ∃ u, cu[j]? = some u := ⟨cu[j]'(by omega), Array.getElem?_eq_getElem _⟩
              have i1 : wq.cell? ⟨q, j, none⟩ = some u := by rw [cell_of_row wq q _ _ _ (0, 0) hqc]; exact hu
              have i2 : wq.frozen? ⟨q, j, none⟩ = false := by simp [World.frozen?, hqc]
              have HS7 : Hid (Spo lo hi (wq.setCell ⟨q, j, none⟩ (.string ⟨#[115, 112, 111, 105, 108, 116]⟩)) (some ⟨g, 0, none⟩) L1) := Lib.hid (HS6.out.spoil HYM.out (by rw [HVN.out]; omega) HVA.out j _)
              have HX7 : Hid (Ext w (wq.setCell ⟨q, j, none⟩ (.string ⟨#[115, 112, 111, 105, 108, 116]⟩))) := Lib.hid (HX6.out.set_ (by show w.heap.size ≤ q; rw [HLO.out]; exact hql) _)
              have HG7 : Hid (Agb hi w4 (wq.setCell ⟨q, j, none⟩ (.string ⟨#[115, 112, 111, 105, 108, 116]⟩))) := Lib.hid (HG6.out.trans (Agb.set wq _ hqh))
              clear hu hql hqh hqc hqs
              go_wp2_with fail
              go_roundw
              case rel => exact ⟨j + 1, by go_num, by omega, HS7, HX7, HG7⟩
              case measure => first | (simp [intOf]; omega) | simp [intOf]
            · have hjz : ¬ (j : Int) < (vn : Int) := by omega
              go_wp2_with fail
              go_roundw
              case rel => exact ⟨k + 1, by go_num, by omega, HS6, HX6, HG6⟩
              case measure => first | (simp [intOf]; omega) | simp [intOf]
        · have hltz : ¬ (k : Int) < (n : Int) := by omega
          clear HS0 SP4
          go_wp2_with fail
          refine (HAW.out _ HX.out).mono ?_
          rintro e w6 ⟨rfl, x6⟩
          go_wp2
          go_ret
          exact ⟨rfl, HX.out.trans x6⟩
    · exact absurd (HFE.out.symm.trans hf2) (by simp)
  · have HF := Lib.hid hf
    have HS := Lib.hid hs
    clear hf hs
    go_wp2_with fail
    refine HRN.out.mono ?_
    rintro e w4 ⟨x4, hr2⟩
    have X4 := Lib.hid (X2.out.trans x4)
    have X24 := Lib.hid x4
    have SP4 := Lib.hid (SP1.out.ext (X12.out.trans x4))
    clear x4 HRN
    rcases hr2 with ⟨nm2, er2, hf2, rfl⟩ | ⟨hf2, s2, g2, n2, c2, r2, L2, rfl, hst, hrf, hs2, hg2, hmem⟩
    · exact absurd (HF.out.symm.trans hf2) (by simp)
    · have HS4 := Lib.hid (HS.out.ext X24.out)
      rw [hst, HHI.out] at HS4
      have HRF4 := Lib.hid hrf
      have HMEM := Lib.hid hmem
      clear hf2 hst hrf hmem HS HF
      go_wp2_with fail
      go_loopw [12] (fun iv wr => ∃ k : Nat, iv = .int .i64 k ∧ k ≤ n ∧ Hid (Spo lo hi wr A1 L1) ∧ Hid (Ext w wr) ∧ Hid (Agb hi w4 wr)) (fun iv _ => n - (intOf iv).toNat)
      case atStart => exact ⟨0, rfl, by omega, SP4, X4, Lib.hid (Agb.refl _ _)⟩
      case round =>
        obtain ⟨k, rfl, hk, HS0, HX, HG⟩ := hrel
        rename World => wr
        by_cases hlt : k < n
        · have hltz : (k : Int) < (n : Int) := by omega
          have hk0 : ¬ (k : Int) < 0 := by omega
          have hkl : k < l.length := by rw [HN.out]; exact hlt
          have hkL : k < L1.length := by rw [← HN1.out]; exact hlt
          obtain ⟨x, hx⟩ : ∃ x, l[k]? = some x := ⟨l[k], List.getElem?_eq_getElem hkl⟩
          obtain ⟨y, hy⟩ : ∃ y, L1[k]? = some y := ⟨L1[k], List.getElem?_eq_getElem hkL⟩
          have hxy : y.k = x.k := by
            have h1 := congrArg (fun z => z[k]?) (K1.out.trans HKL.out.symm)
            simp only [List.getElem?_map, hx, hy, Option.map_some] at h1
            injection h1
          obtain ⟨b, o, hA, hat⟩ := rowK_at HR.out (by omega)
          subst hA
          obtain ⟨g, cur, hA1, hlg, hgh, hcur, hcl⟩ := HS0.out.cls (by omega)
          subst hA1
          obtain ⟨h1, h2, -, -⟩ := hcl k y hy
          obtain ⟨-, c1', c2', -⟩ := (hat wr HX.out k x hx).1
          have f1 : wr.cell? ⟨g, k * 7 + 1, none⟩ = some (.string x.k.nm) := by rw [cell_of_row wr g _ _ _ (0, 0) hcur, h1, hxy]
          have f2 : wr.cell? ⟨g, k * 7 + 2, none⟩ = some (.string x.k.sup) := by rw [cell_of_row wr g _ _ _ (0, 0) hcur, h2, hxy]
          obtain ⟨nm, hnm⟩ : ∃ nm, x.k.nm = nm := ⟨_, rfl⟩
          obtain ⟨su, hsu⟩ : ∃ su, x.k.sup = su := ⟨_, rfl⟩
          rw [hnm] at f1 c1'
          rw [hsu] at f2 c2'
          have hn1 : (nm.toList != nm.toList) = false := by simp
          have hn2 : (su.toList != su.toList) = false := by simp
          have HY := Lib.hid hy
          have HYM := Lib.hid (List.mem_of_getElem? hy)
          obtain ⟨vn, hvn⟩ : ∃ vn, y.vi.n = vn := ⟨_, rfl⟩
          obtain ⟨vc, hvc⟩ : ∃ vc, y.vi.c = vc := ⟨_, rfl⟩
          obtain ⟨vA, hvA⟩ : ∃ vA, y.vi.A = vA := ⟨_, rfl⟩
          have HVN := Lib.hid hvn
          have HVC := Lib.hid hvc
          have HVA := Lib.hid hvA
          clear hx hy hxy hat hcur hcl h1 h2 hnm hsu hvn hvc hvA hkl hkL hlg hgh
          go_wp2_with fail
          go_quiet (fail)
          obtain ⟨wd, hwd⟩ : ∃ wd, wr.drewN nq = wd := ⟨_, rfl⟩
          have hwe : Ext wr wd := by rw [← hwd]; exact (Ext.refl wr).drewN nq
          rw [hwd]
          have HSd := Lib.hid (HS0.out.ext hwe)
          have HXd := Lib.hid (HX.out.trans hwe)
          have HGd := Lib.hid (HG.out.trans (Agb.of hwe))
          clear hwd hwe f1 f2 c1' c2' hn1 hn2
          obtain ⟨g', cur, hA1, hlg, hgh, hcur, hcl⟩ := HSd.out.cls (by rw [← HN1.out]; omega)
          injection hA1 with hA1
          injection hA1 with hA1 _
          subst hA1
          obtain ⟨-, -, ⟨bb, h3⟩, -⟩ := hcl k y HY.out
          have f3 : wd.cell? ⟨g, k * 7 + 3, none⟩ = some (.bool bb) := by rw [cell_of_row wd g _ _ _ (0, 0) hcur, h3]
          have f4 : wd.frozen? ⟨g, k * 7 + 3, none⟩ = false := by simp [World.frozen?, hcur]
          have HS5 : Hid (Spo lo hi (wd.setCell ⟨g, k * 7 + 3, none⟩ (.bool !bb)) (some ⟨g, 0, none⟩) L1) := Lib.hid (HSd.out.flip rfl HY.out _)
          have HX5 : Hid (Ext w (wd.setCell ⟨g, k * 7 + 3, none⟩ (.bool !bb))) := Lib.hid (HXd.out.set_ (by show w.heap.size ≤ g; rw [HLO.out]; exact hlg) _)
          have HG5 : Hid (Agb hi w4 (wd.setCell ⟨g, k * 7 + 3, none⟩ (.bool !bb))) := Lib.hid (HGd.out.trans (Agb.set wd _ hgh))
          have HIF := Lib.hid (HSd.out.ifs y HYM.out)
          clear hcur hcl h3 hlg hgh
          go_wp2_with fail
          go_loopw [13] (fun jv wq => ∃ j : Nat, jv = .int .i64 j ∧ j ≤ vn ∧ Hid (Spo lo hi wq (some ⟨g, 0, none⟩) L1) ∧ Hid (Ext w wq) ∧ Hid (Agb hi w4 wq)) (fun jv _ => vn - (intOf jv).toNat)
          case atStart => exact ⟨0, rfl, by omega, HS5, HX5, HG5⟩
          case round =>
            obtain ⟨j, rfl, hj, HS6, HX6, HG6⟩ := hrel
            rename World => wq
            obtain ⟨hv1, hv2, -⟩ := HIF.out
            rw [HVN.out, HVC.out] at hv1
            rw [HVC.out] at hv2
            unfold maxLen at hv2
            have g4 : wq.cell? ⟨g, k * 7 + 4, none⟩ = some (.slice vA vn vc) := by
              obtain ⟨g', cur', hA', -, -, hcur', hcl'⟩ := HS6.out.cls (by rw [← HN1.out]; omega)
              injection hA' with hA'
              injection hA' with hA' _
              subst hA'
              rw [cell_of_row wq g _ _ _ (0, 0) hcur', (hcl' k y HY.out).2.2.2, HVN.out, HVC.out, HVA.out]
            by_cases hjt : j < vn
            · have hjz : (j : Int) < (vn : Int) := by omega
              have hj0 : ¬ (j : Int) < 0 := by omega
              obtain ⟨q, cu, hqA, hql, hqh, hqc, hqs⟩ := (HS6.out.ifs y HYM.out).2.2 (by rw [HVN.out]; omega)
              rw [HVA.out] at hqA
              subst hqA
              rw [HVN.out] at hqs
              obtain ⟨u, hu⟩ : ∃ u, cu[j]? = some u := ⟨cu[j]'(by omega), Array.getElem?_eq_getElem _⟩
              have i1 : wq.cell? ⟨q, j, none⟩ = some u := by rw [cell_of_row wq q _ _ _ (0, 0) hqc]; exact hu
              have i2 : wq.frozen? ⟨q, j, none⟩ = false := by simp [World.frozen?, hqc]
              have HS7 : Hid (Spo lo hi (wq.setCell ⟨q, j, none⟩ (.string ⟨#[115, 112, 111, 105, 108, 116]⟩)) (some ⟨g, 0, none⟩) L1) := Lib.hid (HS6.out.spoil HYM.out (by rw [HVN.out]; omega) HVA.out j _)
              have HX7 : Hid (Ext w (wq.setCell ⟨q, j, none⟩ (.string ⟨#[115, 112, 111, 105, 108, 116]⟩))) := Lib.hid (HX6.out.set_ (by show w.heap.size ≤ q; rw [HLO.out]; exact hql) _)
              have HG7 : Hid (Agb hi w4 (wq.setCell ⟨q, j, none⟩ (.string ⟨#[115, 112, 111, 105, 108, 116]⟩))) := Lib.hid (HG6.out.trans (Agb.set wq _ hqh))
              clear hu hql hqh hqc hqs
              go_wp2_with fail
              go_roundw
              case rel => exact ⟨j + 1, by go_num, by omega, HS7, HX7, HG7⟩
              case measure => first | (simp [intOf]; omega) | simp [intOf]
            · have hjz : ¬ (j : Int) < (vn : Int) := by omega
              go_wp2_with fail
              go_roundw
              case rel => exact ⟨k + 1, by go_num, by omega, HS6, HX6, HG6⟩
              case measure => first | (simp [intOf]; omega) | simp [intOf]
        · have hltz : ¬ (k : Int) < (n : Int) := by omega
          clear HS0 SP4
          have HS5 := Lib.hid (HS4.out.agb HG.out)
          have hblk : ∀ q, hi ≤ q → q < w4.heap.size → wr.heap[q]? = w4.heap[q]? := HG.out.same
          have hext24 : hi ≤ w2.heap.size := by rw [← HHI.out]; exact X12.out.size
          have HRF := Lib.hid (HRF4.out.agb (hblk s2 (by omega) HRF4.out.sl) (hblk g2 (by omega) HRF4.out.gsl) HG.out.size (fun x hx => by
            rcases HMEM.out x hx with h | h
            · obtain ⟨q, hq, rfl⟩ := List.mem_map.1 h
              have h2 : ∀ y ∈ builtR, y.ifs = [] := by decide
              have h3 := h2 q (List.mem_of_mem_take hq)
              unfold NestK kv
              rw [h3]
              exact Shp.Row.nil ShS wr
            · exact Shp.Row.ext (HR.out.low x h) HX.out))
          have hlN : (builtZ ++ r2).length = n2 := HRF.out.lenN
          have d0 := HRF.out.c0
          have hcap := HRF.out.cap
          have hm72 := HRF.out.n72
          have hnu1 := fun W (e : Ext wr W) => sNumber (HS5.out.ext e) nm0 hz0
          have hnu2 := fun W (e : Ext wr W) => rNumber (HRF.out.ext e) nm0
          have HD := Lib.hid (fun W (e : Ext wr W) => (HRF.out.ext e).c0)
          obtain ⟨fu, hfu⟩ : ∃ fu, (if findZ (builtZ ++ r2) nm0 < 0 then 0 else findZ (builtZ ++ r2) nm0) = fu := ⟨_, rfl⟩
          obtain ⟨fb, hfb⟩ : ∃ fb, decide (0 ≤ findZ (builtZ ++ r2) nm0) = fb := ⟨_, rfl⟩
          simp only [hfu, hfb] at hnu1 hnu2
          have HNU1 := Lib.hid hnu1
          have HNU2 := Lib.hid hnu2
          have HLE := Lib.hid (fun W (e : Ext wr W) => sLen (HS5.out.ext e))
          rw [hlN] at HLE
          have HCL : Hid (∀ z : Int, ∃ (nz cn cs : ByteArray) (sz : Int) (il : List Int) (bz cb : Bool), ∀ W, Ext wr W →
              Calls Tryd.prog 18 #[.pointer (some ⟨s, 0, none⟩), .int .i64 z] W (fun e w' => (∃ (A0 : Option Addr) (n0 c0 : Nat) (b3 : Bool) (A4 : Option Addr) (n4 c4 : Nat) (A5 : Option Addr) (n5 c5 : Nat) (A6 : Option Addr) (n6 c6 : Nat), e = .returned (.tuple #[.agg #[.slice A0 n0 c0, .string cn, .string cs, .bool b3, .slice A4 n4 c4, .slice A5 n5 c5, .slice A6 n6 c6], .bool cb])) ∧ Ext W w') ∧
              Calls Tryd.prog 19 #[.pointer (some ⟨s2, 0, none⟩), .int .i64 z] W (fun e w' => (∃ (A0 : Option Addr) (n0 c0 : Nat) (b3 : Bool) (A4 : Option Addr) (n4 c4 : Nat) (A5 : Option Addr) (n5 c5 : Nat) (A6 : Option Addr) (n6 c6 : Nat), e = .returned (.tuple #[.agg #[.slice A0 n0 c0, .string cn, .string cs, .bool b3, .slice A4 n4 c4, .slice A5 n5 c5, .slice A6 n6 c6], .bool cb])) ∧ Ext W w') ∧
              Calls Tryd.prog 20 #[.pointer (some ⟨s, 0, none⟩), .int .i64 z] W (fun e w' => e = .returned (.string nz) ∧ Ext W w') ∧
              Calls Tryd.prog 21 #[.pointer (some ⟨s2, 0, none⟩), .int .i64 z] W (fun e w' => e = .returned (.string nz) ∧ Ext W w') ∧
              Calls Tryd.prog 22 #[.pointer (some ⟨s, 0, none⟩), .int .i64 z] W (fun e w' => e = .returned (.int .i64 sz) ∧ Ext W w') ∧
              Calls Tryd.prog 23 #[.pointer (some ⟨s2, 0, none⟩), .int .i64 z] W (fun e w' => e = .returned (.int .i64 sz) ∧ Ext W w') ∧
              Calls Tryd.prog 25 #[.pointer (some ⟨s, 0, none⟩), .int .i64 z] W (fun e w' => ∃ v', e = .returned v' ∧ Own W.heap.size w' 3 .i64 v' il ∧ Ext W w') ∧
              Calls Tryd.prog 26 #[.pointer (some ⟨s2, 0, none⟩), .int .i64 z] W (fun e w' => ∃ v', e = .returned v' ∧ Own W.heap.size w' 3 .i64 v' il ∧ Ext W w') ∧
              Calls Tryd.prog 27 #[.pointer (some ⟨s, 0, none⟩), .int .i64 z] W (fun e w' => e = .returned (.bool bz) ∧ Ext W w') ∧
              Calls Tryd.prog 28 #[.pointer (some ⟨s2, 0, none⟩), .int .i64 z] W (fun e w' => e = .returned (.bool bz) ∧ Ext W w')) := Lib.hid fun z =>
            ⟨nameZ (builtZ ++ r2) z, cnmZ (builtZ ++ r2) z, cspZ (builtZ ++ r2) z, superZ (builtZ ++ r2) z, ifsZ (builtZ ++ r2) z, infZ (builtZ ++ r2) z, clsZ (builtZ ++ r2) z, fun W e =>
              ⟨sClass (HS5.out.ext e) z, rClass (HRF.out.ext e) z, sName (HS5.out.ext e) z, (rName (HRF.out.ext e) z).mono fun _ _ h => ⟨h.1, by rw [h.2]; exact Ext.refl _⟩,
               sSuper (HS5.out.ext e) z, (rSuper (HRF.out.ext e) z).mono fun _ _ h => ⟨h.1, by obtain ⟨q, hq⟩ := h.2; rw [hq]; exact (Ext.refl _).drewN q⟩,
               sIfs (HS5.out.ext e) z, rIfs (HRF.out.ext e) z, sIsI (HS5.out.ext e) z, (rIsI (HRF.out.ext e) z).mono fun _ _ h => ⟨h.1, by rw [h.2]; exact Ext.refl _⟩⟩⟩
          have HAX : Hid (∀ W, Ext wr W → Calls Tryd.prog 14 #[] W fun e w' => e = .returned (.bool true) ∧ Ext W w') := Lib.hid fun W e => HAW.out W (HX.out.trans e)
          have HXX : Hid (∀ W, Ext wr W → Ext w W) := Lib.hid fun W e => HX.out.trans e
          have e1 := (Ext.refl wr).drew
          have g1 := HD.out _ e1
          have hfe : (fu == fu) = true := by simp
          have hfbe : (fb == fb) = true := by simp
          clear hblk hext24 hlN hnu1 hnu2 hfu hfb HS4 HRF4 HMEM HG HS5 HRF HX HAW X4 X2 X24 X1 HR HK HL HKL HN HB HH SP1 K1 HLO HHI HN1 X12 hz0
          go_wp2_with fail
          go_region_held3 (fun w' => w'.cell? ⟨s2, 0, none⟩ = some (.slice (some ⟨g2, 0, none⟩) n2 c2)) (first | go_keep | with_reducible assumption | assumption) (first
            | (go_at_call 15; (with_reducible refine (HLE.out _ e1).mono ?_); rintro e3 w3 ⟨rfl, rfl⟩))
          go_wp2_with fail
          refine (HNU1.out _ (Ext.refl _).drew).mono ?_
          rintro e y ⟨rfl, hy⟩
          subst hy
          go_wp2_with fail
          refine (HNU2.out _ (Ext.refl _).drew).mono ?_
          rintro e y ⟨rfl, hy⟩
          subst hy
          go_wp2_with fail
          go_loopw [18] (fun iv wz => ∃ z : Int, iv = .int .i64 z ∧ -1 ≤ z ∧ z ≤ (n2 : Int) + 1 ∧ Hid (Ext wr wz)) (fun iv _ => ((n2 : Int) + 1 - intOf iv).toNat)
          case atStart => exact ⟨-1, rfl, by omega, by omega, Lib.hid ((Ext.refl _).drew)⟩
          case round =>
            obtain ⟨z, rfl, hz1, hz2, HZ⟩ := hrel
            rename World => wz
            have d1 := HD.out _ HZ.out
            by_cases hlt : z ≤ (n2 : Int)
            · obtain ⟨nz, cn, cs, sz, il, bz, cb, hc⟩ := HCL.out z
              have HC := Lib.hid hc
              have hwz : IntKind.i64.wrap (z + 1) = z + 1 := by rw [IntKind.wrap_i64]; omega
              clear hc
              go_wp2_with fail
              refine ((HC.out _ HZ.out).1).mono ?_
              rintro e w5 ⟨⟨A0, n0, m0, b3, A4, n4, m4, A5, n5, m5, A6, n6, m6, rfl⟩, x5⟩
              obtain ⟨W5, hW5⟩ : ∃ W5, w5.alloc (.cells #[.slice A0 n0 m0, .string cn, .string cs, .bool b3, .slice A4 n4 m4, .slice A5 n5 m5, .slice A6 n6 m6] 36) = W5 := ⟨_, rfl⟩
              obtain ⟨q5, hq5⟩ : ∃ q5, w5.heap.size = q5 := ⟨_, rfl⟩
              have hb5 : W5.heap[q5]? = some (.cells #[.slice A0 n0 m0, .string cn, .string cs, .bool b3, .slice A4 n4 m4, .slice A5 n5 m5, .slice A6 n6 m6] 36 (0, 0)) := by rw [← hW5, ← hq5]; exact heap_alloc_new w5 _
              have X5 : Hid (Ext wr W5) := Lib.hid (by rw [← hW5]; exact (HZ.out.trans x5).alloc _)
              clear x5
              go_wp2_with fail
              try rw [hq5]
              try rw [hW5]
              clear hW5 hq5
              refine ((HC.out _ X5.out).2.1).mono ?_
              rintro e w6 ⟨⟨E0, k0, j0, d3, E4, k4, j4, E5, k5, j5, E6, k6, j6, rfl⟩, x6⟩
              obtain ⟨W6, hW6⟩ : ∃ W6, w6.alloc (.cells #[.slice E0 k0 j0, .string cn, .string cs, .bool d3, .slice E4 k4 j4, .slice E5 k5 j5, .slice E6 k6 j6] 36) = W6 := ⟨_, rfl⟩
              obtain ⟨q6, hq6⟩ : ∃ q6, w6.heap.size = q6 := ⟨_, rfl⟩
              have hb6 : W6.heap[q6]? = some (.cells #[.slice E0 k0 j0, .string cn, .string cs, .bool d3, .slice E4 k4 j4, .slice E5 k5 j5, .slice E6 k6 j6] 36 (0, 0)) := by rw [← hW6, ← hq6]; exact heap_alloc_new w6 _
              have X6 : Hid (Ext wr W6) := Lib.hid (by rw [← hW6]; exact (X5.out.trans x6).alloc _)
              have hb5' : W6.heap[q5]? = some (.cells #[.slice A0 n0 m0, .string cn, .string cs, .bool b3, .slice A4 n4 m4, .slice A5 n5 m5, .slice A6 n6 m6] 36 (0, 0)) := by rw [← hW6]; exact (((x6).alloc _).block q5 (lt_of_get hb5)).trans hb5
              have HCX : Hid (∀ W, Ext W6 W → W.cell? ⟨q5, 1, none⟩ = some (.string cn) ∧ W.cell? ⟨q5, 2, none⟩ = some (.string cs) ∧ W.cell? ⟨q6, 1, none⟩ = some (.string cn) ∧ W.cell? ⟨q6, 2, none⟩ = some (.string cs)) := Lib.hid fun W e => by
                have h1 := (e.block _ (lt_of_get hb5')).trans hb5'
                have h2 := (e.block _ (lt_of_get hb6)).trans hb6
                exact ⟨by rw [cell_of_row W q5 1 _ _ (0, 0) h1]; rfl, by rw [cell_of_row W q5 2 _ _ (0, 0) h1]; rfl, by rw [cell_of_row W q6 1 _ _ (0, 0) h2]; rfl, by rw [cell_of_row W q6 2 _ _ (0, 0) h2]; rfl⟩
              have b1 : (nz.toList != nz.toList) = false := by simp
              have b2 : (sz != sz) = false := by simp
              have bb3 : (bz != bz) = false := by simp
              have b4 : (cn.toList != cn.toList) = false := by simp
              have b5 : (cs.toList != cs.toList) = false := by simp
              have b6 : (cb != cb) = false := by simp
              have HEQ : Hid (∀ v1 v2 W, Row W .i64 v1 il → Row W .i64 v2 il → Calls Tryd.prog 24 #[v1, v2] W (Quiet W (.bool true))) := Lib.hid fun v1 v2 W h1 h2 => by
                have := eqInts_any v1 v2 il il W h1 h2
                rwa [decide_eq_true rfl] at this
              clear x6 hb5 hb5' hb6
              go_wp2_with fail
              try rw [hq6]
              try rw [hW6]
              clear hW6 hq6
              refine ((HC.out _ X6.out).2.2.1).mono ?_
              rintro e w7 ⟨rfl, x7⟩
              have Y7 := Lib.hid x7
              have X7 := Lib.hid (X6.out.trans x7)
              clear x7
              go_wp2_with fail
              refine ((HC.out _ X7.out).2.2.2.1).mono ?_
              rintro e w8 ⟨rfl, x8⟩
              have Y8 := Lib.hid (Y7.out.trans x8)
              have X8 := Lib.hid (X7.out.trans x8)
              clear x8
              go_wp2_with fail
              refine ((HC.out _ X8.out).2.2.2.2.1).mono ?_
              rintro e w9 ⟨rfl, x9⟩
              have Y9 := Lib.hid (Y8.out.trans x9)
              have X9 := Lib.hid (X8.out.trans x9)
              clear x9
              go_wp2_with fail
              refine ((HC.out _ X9.out).2.2.2.2.2.1).mono ?_
              rintro e wa ⟨rfl, xa⟩
              have YA := Lib.hid (Y9.out.trans xa)
              have XA := Lib.hid (X9.out.trans xa)
              clear xa
              go_wp2_with fail
              refine ((HC.out _ XA.out).2.2.2.2.2.2.1).mono ?_
              rintro e wb ⟨vb, rfl, ob, xb⟩
              have OB := Lib.hid ob
              have YB := Lib.hid (YA.out.trans xb)
              have XB := Lib.hid (XA.out.trans xb)
              clear xb ob
              go_wp2_with fail
              refine ((HC.out _ XB.out).2.2.2.2.2.2.2.1).mono ?_
              rintro e wc ⟨vc, rfl, oc, xc⟩
              have OC := Lib.hid oc.row
              have OBC := Lib.hid (OB.out.ext xc).row
              have YC := Lib.hid (YB.out.trans xc)
              have XC := Lib.hid (XB.out.trans xc)
              clear xc oc
              go_wp2_with fail
              refine (HEQ.out _ _ _ OBC.out OC.out).mono ?_
              rintro e we ⟨rfl, qe, rfl⟩
              obtain ⟨WE, hWE⟩ : ∃ WE, wc.drewN qe = WE := ⟨_, rfl⟩
              have YE : Hid (Ext W6 WE) := Lib.hid (by rw [← hWE]; exact YC.out.drewN qe)
              have XE : Hid (Ext wr WE) := Lib.hid (by rw [← hWE]; exact XC.out.drewN qe)
              rw [hWE]
              clear hWE
              go_wp2_with fail
              refine ((HC.out _ XE.out).2.2.2.2.2.2.2.2.1).mono ?_
              rintro e wf ⟨rfl, xf⟩
              have YF := Lib.hid (YE.out.trans xf)
              have XF := Lib.hid (XE.out.trans xf)
              clear xf
              go_wp2_with fail
              refine ((HC.out _ XF.out).2.2.2.2.2.2.2.2.2).mono ?_
              rintro e wg ⟨rfl, xg⟩
              have YG := Lib.hid (YF.out.trans xg)
              have XG := Lib.hid (XF.out.trans xg)
              clear xg
              obtain ⟨c1, c2, c3, c4⟩ := HCX.out _ YG.out
              go_wp2_with fail
              go_roundw
              case rel => exact ⟨z + 1, rfl, by omega, by omega, XG⟩
              case measure => first | (simp [intOf]; omega) | simp [intOf]
            · go_wp2_with fail
              refine (HAX.out _ HZ.out).mono ?_
              rintro e wy ⟨rfl, xy⟩
              go_wp2
              go_ret
              exact ⟨rfl, HXX.out _ (HZ.out.trans xy)⟩
end Go.Proofs.YtkkfkjjmmdpafaaDoor
