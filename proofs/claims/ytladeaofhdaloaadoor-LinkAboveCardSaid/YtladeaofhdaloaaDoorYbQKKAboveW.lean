/- LinkAbove, walked. -/
import Derived.Test.YtladeaofhdaloaaDoorYbK
import Derived.Test.YtladeaofhdaloaaDoorYbH
import Derived.Test.YtladeaofhdaloaaDoorYbM
import Derived.Test.YtladeaofhdaloaaDoorYbN
namespace Go.Proofs.YtladeaofhdaloaaDoor
open Go.RowKit
set_option linter.unusedVariables false

set_option maxRecDepth 100000 in
set_option maxHeartbeats 4000000 in
theorem linkAbove_walk (w : World) (hB : Blt w) (v : Value) (l : List KlV) (h : ShK.Row w v l) (hl : l.length * 136 ≤ 140737488351232) (hk : ∀ x ∈ l, KlOk x) (a : Int) (ha : B64 a) (b : Int) (hb : B64 b) :
    Calls Tryd.prog 4 #[v, .int .i64 a, .int .i64 b] w fun e w' => e = .returned (.bool true) ∧ Ext w w' := by
  have HB := Lib.hid hB
  have HH := Lib.hid (fun W (e : Ext w W) => heads_any (h.ext e) hl hk)
  have HK := Lib.hid hk
  have HL := Lib.hid hl
  obtain ⟨A, cp, rfl, -⟩ := h.cut
  have HR := Lib.hid h
  have HAW := Lib.hid (fun W (e : Ext w W) => awake_any W (hB.ext e))
  obtain ⟨n, hn⟩ : ∃ n, l.length = n := ⟨_, rfl⟩
  have HN := Lib.hid hn
  rw [hn] at HH HR ⊢
  obtain ⟨K, hK⟩ : ∃ K, l.map (·.k) = K := ⟨_, rfl⟩
  rw [hK] at HH
  have HKL := Lib.hid hK
  clear h hl hk hB hn hK
  go_enter Tryd.func4, Tryd.ntmps4
  go_wp2_with fail
  refine (HH.out _ (Ext.refl w)).mono ?_
  rintro e w1 ⟨A1, c1, L1, rfl, o1, k1, nl1, x1⟩
  have hnw := newH_any (HB.out.ext ((Ext.refl w).trans x1)) o1.row (by
    have h1 := congrArg List.length k1
    rw [List.length_map] at h1
    rw [h1, ← HKL.out, List.length_map]
    exact HL.out) (by rw [k1, ← HKL.out]; exact map_ok rfl HK.out) nl1
  rw [k1] at hnw
  have HNW := Lib.hid hnw
  have X1' := Lib.hid ((Ext.refl w).trans x1)
  have Y1' := Lib.hid x1
  clear hnw o1 k1 nl1 x1
  go_wp2_with fail
  refine HNW.out.mono ?_
  rintro e w2 ⟨x2, hr⟩
  have X2 := Lib.hid (X1'.out.trans x2)
  have YX2 := Lib.hid (Y1'.out.trans x2)
  clear HNW x2 X1' Y1'
  rcases hr with ⟨nm, er, hf, rfl⟩ | ⟨hf, s, rfl, hs⟩
  · have her := newF_err hf
    have hne : ¬ er = 0 := by omega
    have HFE := Lib.hid hf
    clear hf her
    have HRN := Lib.hid (rnew_any (HR.out.ext X2.out) HK.out HL.out)
    rw [HKL.out] at HRN
    go_wp2_with fail
    refine HRN.out.mono ?_
    rintro e w4 ⟨x4, hr2⟩
    have X4 := Lib.hid (X2.out.trans x4)
    have X24 := Lib.hid x4
    clear x4 HRN
    rcases hr2 with ⟨nm2, er2, hf2, rfl⟩ | ⟨hf2, s2, g2, n2, c2, r2, L2, rfl, hst, hrf⟩
    · have e1 := HFE.out.symm.trans hf2
      injection e1 with e1
      injection e1 with e2 e3
      subst e2 e3
      have hnn : (er != er) = false := by simp
      have hn0 : (er != 0) = true := by simp [hne]
      clear hf2
      go_wp2_with fail
      refine (HAW.out _ X4.out).mono ?_
      rintro e w3 ⟨rfl, x3⟩
      go_wp2
      go_ret
      exact ⟨rfl, X4.out.trans x3⟩
    · exact absurd (HFE.out.symm.trans hf2) (by simp)
  · have HF := Lib.hid hf
    have HS := Lib.hid hs
    clear hf hs
    have HRN := Lib.hid (rnew_any (HR.out.ext X2.out) HK.out HL.out)
    rw [HKL.out] at HRN
    go_wp2_with fail
    refine HRN.out.mono ?_
    rintro e w4 ⟨x4, hr2⟩
    have X4 := Lib.hid (X2.out.trans x4)
    have X24 := Lib.hid x4
    clear x4 HRN
    rcases hr2 with ⟨nm2, er2, hf2, rfl⟩ | ⟨hf2, s2, g2, n2, c2, r2, L2, rfl, hst, hrf⟩
    · exact absurd (HF.out.symm.trans hf2) (by simp)
    · have HOK : Hid ((grK (builtZ ++ r2)).Ok) := Lib.hid (by rw [← hst]; exact HS.out.ok)
      have HS4 := Lib.hid (HS.out.ext X24.out)
      rw [hst] at HS4
      have HIF : Hid (∀ k, k < n2 → ifsI (builtZ ++ r2) k = ints ((grK (builtZ ++ r2)).ifs k)) := Lib.hid (fun k hk => (HS4.out.gr k (by rw [hrf.lenN]; exact hk)).2)
      have HRF := Lib.hid hrf
      have d0 := hrf.c0
      have hm72 := hrf.n72
      have hm8 : 8 ≤ n2 := by rw [← hrf.lenN]; simp [builtZ]
      have hcap := hrf.cap
      obtain ⟨x, hx, lx⟩ := bring_nat a (n := n2 + 3) (by omega)
      obtain ⟨y, hy, ly⟩ := bring_nat b (n := n2 + 3) (by omega)
      have h3 : ((n2 + 3 : Nat) : Int) = (n2 : Int) + 3 := by omega
      rw [h3] at hx hy
      have Hx := Lib.hid (fun W => bring_any a ((n2 : Int) + 3) W ha.1 ha.2 (by omega) (by omega))
      have Hy := Lib.hid (fun W => bring_any b ((n2 : Int) + 3) W hb.1 hb.2 (by omega) (by omega))
      rw [hx] at Hx
      rw [hy] at Hy
      clear hx hy h3 hf2 hst hrf HS HF YX2 X2 ha hb HR HK HL HKL HN HB HH
      go_wp2_with fail
      refine (Hx.out _).mono ?_
      rintro e w3 ⟨rfl, rfl⟩
      go_wp2_with fail
      refine (Hy.out _).mono ?_
      rintro e w3 ⟨rfl, rfl⟩
      obtain ⟨zx, hzx⟩ : ∃ zx : Int, (x : Int) - 1 = zx := ⟨_, rfl⟩
      obtain ⟨zy, hzy⟩ : ∃ zy : Int, (y : Int) - 1 = zy := ⟨_, rfl⟩
      have hA1 := fun W (e : Ext w4 W) => sAbove (HS4.out.ext e) zx
      have hA2 := fun W (e : Ext w4 W) => rAbove (HRF.out.ext e) HOK.out HIF.out zx
      have hB1 := fun W (e : Ext w4 W) => sBelow (HS4.out.ext e) zx zy
      have hB2 := fun W (e : Ext w4 W) => rBelow (HRF.out.ext e) HOK.out HIF.out zx zy
      have hC1 := fun W (e : Ext w4 W) => sCommon (HS4.out.ext e) zx zy
      have hC2 := fun W (e : Ext w4 W) => rCommon (HRF.out.ext e) HOK.out zx zy
      obtain ⟨al, hal⟩ : ∃ al, aboveZ (builtZ ++ r2) zx = al := ⟨_, rfl⟩
      obtain ⟨bb, hbb⟩ : ∃ bb, belowZ (builtZ ++ r2) zx zy = bb := ⟨_, rfl⟩
      obtain ⟨cc, hcc⟩ : ∃ cc, commonZ (builtZ ++ r2) zx zy = cc := ⟨_, rfl⟩
      simp only [hal] at hA1 hA2
      simp only [hbb] at hB1 hB2
      simp only [hcc] at hC1 hC2
      have HA1 := Lib.hid hA1
      have HA2 := Lib.hid hA2
      have HB1 := Lib.hid hB1
      have HB2 := Lib.hid hB2
      have HC1 := Lib.hid hC1
      have HC2 := Lib.hid hC2
      have HEQ : Hid (∀ v1 v2 W, Row W .i64 v1 al → Row W .i64 v2 al → Calls Tryd.prog 24 #[v1, v2] W (Quiet W (.bool true))) := Lib.hid fun v1 v2 W h1 h2 => by
        have := eqInts_any v1 v2 al al W h1 h2
        rwa [decide_eq_true rfl] at this
      have HAX : Hid (∀ W, Ext w4 W → Calls Tryd.prog 14 #[] W fun e w' => e = .returned (.bool true) ∧ Ext W w') := Lib.hid fun W e => HAW.out W (X4.out.trans e)
      have HXX : Hid (∀ W, Ext w4 W → Ext w W) := Lib.hid fun W e => X4.out.trans e
      have hbe : (bb == bb) = true := by simp
      have hce : (cc == cc) = true := by simp
      clear hA1 hA2 hB1 hB2 hC1 hC2 hal hbb hcc HS4 HRF HOK HIF HAW Hx Hy X24
      go_wp2_with fail
      try rw [hzx]
      try rw [hzy]
      clear hzx hzy
      refine (HA1.out _ (Ext.refl _)).mono ?_
      rintro e w5 ⟨v5, rfl, o5, x5⟩
      have O5 := Lib.hid o5
      have X5 := Lib.hid x5
      clear o5 x5
      go_wp2_with fail
      refine (HA2.out _ X5.out).mono ?_
      rintro e w6 ⟨v6, rfl, o6, x6⟩
      have O6 := Lib.hid o6
      have O56 := Lib.hid (O5.out.ext x6)
      have X6 := Lib.hid (X5.out.trans x6)
      clear o6 x6
      go_wp2_with fail
      refine (HEQ.out _ _ _ O56.out.row O6.out.row).mono ?_
      rintro e w7 ⟨rfl, q7, rfl⟩
      obtain ⟨W7, hW7⟩ : ∃ W7, w6.drewN q7 = W7 := ⟨_, rfl⟩
      have X67 : Hid (Ext w6 W7) := Lib.hid (by rw [← hW7]; exact (Ext.refl w6).drewN q7)
      rw [hW7]
      have O7 := Lib.hid (O56.out.ext X67.out)
      have X7 := Lib.hid (X6.out.trans X67.out)
      clear hW7
      obtain ⟨q, hq⟩ : ∃ q, al.length = q := ⟨_, rfl⟩
      have hq2 := O7.out.1
      obtain ⟨A5, c5, e5, hc5, hm5, -⟩ := O7.out.row
      subst e5
      rw [hq] at hc5 hq2 ⊢
      unfold maxLen at hm5
      have HBK : Hid (0 < q → ∃ g5, A5 = some ⟨g5, 0, none⟩ ∧ w4.heap.size ≤ g5 ∧ ∃ cur, W7.heap[g5]? = some (.cells cur 3 (0, 0)) ∧ q ≤ cur.size) := Lib.hid (fun h0 => by
        rcases hq2.2 with ⟨h1, h2⟩ | ⟨g5, cap, cur, h1, h2, h3, h4, h5, h6, -⟩
        · omega
        · injection h1 with h1 _ _
          exact ⟨g5, h1, h2, cur, h3, by omega⟩)
      clear hq2 hq
      go_wp2_with fail
      go_loopw [17] (fun kv wr => ∃ k : Nat, kv = .int .i64 k ∧ k ≤ q ∧ Hid (Ext w4 wr) ∧ Hid (0 < q → ∃ g5, A5 = some ⟨g5, 0, none⟩ ∧ w4.heap.size ≤ g5 ∧ ∃ cur, wr.heap[g5]? = some (.cells cur 3 (0, 0)) ∧ q ≤ cur.size)) (fun kv _ => q - (intOf kv).toNat)
      case atStart => exact ⟨0, rfl, by omega, X7, HBK⟩
      case round =>
        obtain ⟨k, rfl, hk, HX, HC⟩ := hrel
        rename World => wr
        by_cases hlt : k < q
        · have hltz : (k : Int) < (q : Int) := by omega
          have hk0 : ¬ (k : Int) < 0 := by omega
          obtain ⟨g5, hA, hg5, cur, hcur, hsz⟩ := HC.out (by omega)
          subst hA
          obtain ⟨u, hu⟩ : ∃ u, cur[k]? = some u := ⟨cur[k]'(by omega), Array.getElem?_eq_getElem _⟩
          have hc1 : wr.cell? ⟨g5, k, none⟩ = some u := by rw [cell_of_row wr g5 k _ _ (0, 0) hcur]; exact hu
          have hf1 : wr.frozen? ⟨g5, k, none⟩ = false := by simp [World.frozen?, hcur]
          have HX2 : Hid (Ext w4 (wr.setCell ⟨g5, k, none⟩ (.int .i64 (-5)))) := Lib.hid (HX.out.set_ (by show w4.heap.size ≤ g5; exact hg5) _)
          have HC2 : Hid (0 < q → ∃ g6, some (⟨g5, 0, none⟩ : Addr) = some ⟨g6, 0, none⟩ ∧ w4.heap.size ≤ g6 ∧ ∃ cur, (wr.setCell ⟨g5, k, none⟩ (.int .i64 (-5))).heap[g6]? = some (.cells cur 3 (0, 0)) ∧ q ≤ cur.size) := Lib.hid (fun _ => ⟨g5, rfl, hg5, _, heap_setCell_same wr g5 k _ _ _ hcur, by simpa using hsz⟩)
          clear hcur hu hsz hg5
          go_wp2_with fail
          go_roundw
          case rel => exact ⟨k + 1, by go_num, by omega, HX2, HC2⟩
          case measure => first | (simp [intOf]; omega) | simp [intOf]
        · have hltz : ¬ (k : Int) < (q : Int) := by omega
          clear HC HBK O7 X7 O56 O6 O5 X5 X6 X67
          go_wp2_with fail
          refine (HA1.out _ HX.out).mono ?_
          rintro e w8 ⟨v8, rfl, o8, x8⟩
          have O8 := Lib.hid o8
          have X8 := Lib.hid (HX.out.trans x8)
          clear o8 x8
          go_wp2_with fail
          refine (HA2.out _ X8.out).mono ?_
          rintro e w9 ⟨v9, rfl, o9, x9⟩
          have O9 := Lib.hid o9
          have O89 := Lib.hid (O8.out.ext x9)
          have X9 := Lib.hid (X8.out.trans x9)
          clear o9 x9
          go_wp2_with fail
          refine (HEQ.out _ _ _ O89.out.row O9.out.row).mono ?_
          rintro e wa ⟨rfl, qa, rfl⟩
          have XA := Lib.hid (X9.out.drewN qa)
          go_wp2_with fail
          refine (HB1.out _ XA.out).mono ?_
          rintro e vXB ⟨rfl, xXB⟩
          have XB := Lib.hid (XA.out.trans xXB)
          clear xXB
          go_wp2_with fail
          refine (HB2.out _ XB.out).mono ?_
          rintro e vXC ⟨rfl, xXC⟩
          have XC := Lib.hid (XB.out.trans xXC)
          clear xXC
          go_wp2_with fail
          refine (HC1.out _ XC.out).mono ?_
          rintro e vXD ⟨rfl, xXD⟩
          have XD := Lib.hid (XC.out.trans xXD)
          clear xXD
          go_wp2_with fail
          refine (HC2.out _ XD.out).mono ?_
          rintro e vXD2 ⟨rfl, xXD2⟩
          have XD2 := Lib.hid (XD.out.trans xXD2)
          clear xXD2
          go_wp2_with fail
          refine (HAX.out _ XD2.out).mono ?_
          rintro e vXE ⟨rfl, xXE⟩
          have XE := Lib.hid (XD2.out.trans xXE)
          clear xXE
          go_wp2
          go_ret
          exact ⟨rfl, HXX.out _ XE.out⟩
end Go.Proofs.YtladeaofhdaloaaDoor
