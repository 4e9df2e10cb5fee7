/- Several texts of this proof, one behind the other. -/
import Derived.Test.YtcgajgileehbbaaZa
import Derived.Test.YtcgajgileehbbaaOpsRda
import Derived.Test.YtcgajgileehbbaaOpsA
import Derived.BigQuiet
import Derived.Test.YtcgajgileehbbaaOpsG
import Derived.Test.YtcgajgileehbbaaOpsC
import Derived.Deep.RegionHeld3
import Derived.Deep.CutRange
import Derived.LoopN
import Derived.Test.YtcgajgileehbbaaOpsEn
import Derived.Test.YtcgajgileehbbaaOpsRen
import Derived.Test.YtcgajgileehbbaaOpsZ
/- The document's Cut, walked. -/
namespace Go.Proofs.Ytcgajgileehbbaa
open Go.RowKit
set_option linter.unusedVariables false

theorem last_of {l : List In} {q : Nat} (h : l.length = q + 1) : l.getD (l.length - 1) i0 = gn l q := by rw [h]; rfl
theorem cutZ_mid {b : List Int} (h1 : ¬ 8192 < b.length) (h2 : ¬ b.length = 0) : cutZ b = cutL (cutF b 0) := by unfold cutZ; rw [if_neg h1, if_neg h2]
theorem cutL_bad {b : List Int} {R : List In × Int × Int} {a e : Int} (h : R = ([], a, e)) (he : e ≠ 0) : cutL R = ([], a, e) := by
  unfold cutL
  rw [h]
  simp only
  rw [if_neg he]
theorem cutL_astray {R : List In × Int × Int} {l : List In} {F : Int} (h : R = (l, 0, 0)) (hf : firstNot (good l) l = (F, true)) : cutL R = ([], F, 70) := by
  unfold cutL
  rw [h]
  simp only
  rw [if_pos trivial, hf]
  simp
theorem cutL_end {R : List In × Int × Int} {l : List In} {F : Int} {q : Nat} (h : R = (l, 0, 0)) (hf : firstNot (good l) l = (F, false)) (hq : l.length = q + 1) : cutL R = if endsZ (gn l q).o = true then (l, 0, 0) else ([], (gn l q).a, 70) := by
  unfold cutL
  rw [h]
  simp only
  rw [if_pos trivial, hf, last_of hq]
  simp
set_option maxRecDepth 100000 in
set_option maxHeartbeats 4000000 in
theorem refCut_any (v : Value) (b : List Int) (w : World) (h : Row w .u8 v b) (hlb : b.length ≤ 140737488355328) :
    Calls Try.prog 13 #[v] w (Ret w (CutAns w.heap.size (cutZ b))) := by
  have H := Lib.hid h
  have HB := Lib.hid (bytes_row h)
  obtain ⟨A, c, rfl, hc, hm, -⟩ := h
  unfold maxLen at hm
  obtain ⟨n, hn⟩ : ∃ n, n = b.length := ⟨_, rfl⟩
  rw [← hn] at hc H ⊢
  have Hn := Lib.hid hn
  by_cases hbig : 8192 < b.length
  · have HZ := Lib.hid (show cutZ b = ([], 0, 5) by unfold cutZ; rw [if_pos hbig])
    have hbig : 8192 < n := by omega
    clear hn
    go_enter Try.func13, Try.ntmps13
    go_wp2
    go_ret3
    exact Ret.mk (CutAns.bad HZ.out) (Ext.refl w)
  by_cases hnone : b.length = 0
  · have HZ := Lib.hid (show cutZ b = ([], 0, 70) by unfold cutZ; rw [if_neg hbig, if_pos hnone])
    obtain rfl : n = 0 := by omega
    clear hn
    go_enter Try.func13, Try.ntmps13
    go_wp2
    go_ret3
    exact Ret.mk (CutAns.bad HZ.out) (Ext.refl w)
  have HZ := Lib.hid (cutZ_mid hbig hnone)
  have hn0 : 0 < n := by omega
  have hn1 : n ≤ 8192 := by omega
  have hb0 : 0 < b.length := by omega
  obtain ⟨R, hR⟩ : ∃ R, cutF b 0 = R := ⟨_, rfl⟩
  have HC : Hid (Come b R [] 0) := Lib.hid (hR ▸ Come.start b)
  have HL : Hid (∀ l, R = (l, 0, 0) → ∃ q, l.length = q + 1) := Lib.hid (fun l hl => by
    have := cutF_one HB.out hb0 (by rw [hR, hl])
    rw [hR, hl] at this
    simp only at this
    exact ⟨l.length - 1, by omega⟩)
  rw [hR] at HZ
  clear hR hn hbig hnone hb0
  have hz0 : ((n : Int) == 0) = false := by simp; omega
  go_enter Try.func13, Try.ntmps13
  go_wp2
  go_loopw [5, 6] (fun u i wr => ∃ (k : Nat) (acc : List In), i = .int .i64 k ∧ k ≤ n ∧ acc.length ≤ k ∧ Hid (OwnI w.heap.size wr u acc) ∧ Hid (Come b R acc k) ∧ Hid (Ext w wr)) (fun _ i _ => n - (intOf i).toNat)
  case atStart => exact ⟨0, [], rfl, by omega, by simp, Lib.hid (OwnI.nil _ _), HC, Lib.hid (Ext.refl w)⟩
  case round =>
    obtain ⟨k, acc, rfl, hk, hak, HO, HCk, HX⟩ := hrel
    by_cases hlt : k < n
    · have hd := refDecode_any _ b k wr (H.out.ext HX.out) hlb
      obtain ⟨D, hD⟩ : ∃ D, opsDec b k = D := ⟨_, rfl⟩
      rw [hD] at hd
      obtain ⟨x, j, er⟩ := D
      have HD := Lib.hid hd
      by_cases he : er = 0
      · subst he
        obtain ⟨i, hi1, hi2, hi3⟩ := dec_next HB.out (k := k) (by rw [hD])
        rw [hD] at hi1
        simp only at hi1
        subst hi1
        have HN := Lib.hid (HCk.out.next HB.out (by have := Hn.out; omega) hD)
        rw [← Hn.out] at hi3
        clear hd hD
        go_wp2_with fail
        refine HD.out.mono ?_
        rintro e w1 ⟨v', rfl, ⟨u1, u2, rfl, o1, o2⟩, x1⟩
        obtain ⟨B1, n1, c1, rfl⟩ := o1.slice
        obtain ⟨B2, n2, c2, rfl⟩ := o2.slice
        have O1 := Lib.hid o1
        have O2 := Lib.hid o2
        have X1 := Lib.hid x1
        have hsz := HX.out.size
        have hsz1 := x1.size
        clear o1 o2 x1
        unfold In.vals
        go_wp2_with (at_builtin; go_loud (refine wpList_appI _ rfl _ _ w.heap.size rfl _ acc rfl ((HO.out.ext X1.out).ext (((Ext.refl _).alloc _).alloc _)) (w1.heap.size + 1) x (.slice B1 n1 c1) (.slice B2 n2 c2) 34 rfl (two_at' _ _ _) ((O1.out.base hsz).ext (((Ext.refl _).alloc _).alloc _)) ((O2.out.base hsz).ext (((Ext.refl _).alloc _).alloc _)) (by omega) (by simp; omega) ?_); intro u' w2 ho2 hg2 _)
        have X2 := Lib.hid ((((HX.out.trans X1.out).alloc (.cells #[.int .i64 x.a, .int .i64 x.o, .int .i64 x.n, .int .i64 x.m, .slice B1 n1 c1, .slice B2 n2 c2] 34)).alloc (.cells #[.int .i64 x.a, .int .i64 x.o, .int .i64 x.n, .int .i64 x.m, .slice B1 n1 c1, .slice B2 n2 c2] 34)).grown hg2 (fun g hg => HO.out.low g hg))
        have HO2 := Lib.hid ho2
        clear ho2 hg2
        go_wp2_with fail
        go_roundw
        case rel => exact ⟨i, acc ++ [x], rfl, hi3, by simp; omega, HO2, HN, X2⟩
        case measure => simp [intOf]; omega
      · have HE := Lib.hid (HCk.out.bad (by have := Hn.out; omega) (by rw [hD]; exact he))
        rw [hD] at HE
        have HE' := Lib.hid (HZ.out.trans (cutL_bad (b := b) HE.out he))
        have hb : (er != 0) = true := by simpa using he
        clear hd hD
        go_wp2_with fail
        refine HD.out.mono ?_
        rintro e w1 ⟨v', rfl, ⟨u1, u2, rfl, o1, o2⟩, x1⟩
        obtain ⟨B1, n1, c1, rfl⟩ := o1.slice
        obtain ⟨B2, n2, c2, rfl⟩ := o2.slice
        have X1 := Lib.hid x1
        clear o1 o2 x1
        unfold In.vals
        go_wp2
        go_ret3
        exact Ret.mk (CutAns.bad HE'.out) ((HX.out.trans X1.out).alloc _)
    · have HE := Lib.hid (HCk.out.end_ (by have := Hn.out; omega))
      obtain ⟨q, hq⟩ := HL.out _ HE.out
      obtain ⟨A1, c1, rfl, hc1, hm1⟩ := HO.out.slice
      unfold maxLen at hm1
      have HQ := Lib.hid hq
      have HO' : Hid (OwnI w.heap.size wr (.slice A1 (q + 1) c1) acc) := by rw [hq] at HO; exact HO
      rw [hq] at hc1 ⊢
      clear hq
      have HG := Lib.hid (refgoes_any (.slice A1 (q + 1) c1) acc wr HO'.out.row)
      obtain ⟨F, hF⟩ : ∃ F, firstNot (good acc) acc = F := ⟨_, rfl⟩
      obtain ⟨fa, fb⟩ := F
      rw [hF] at HG
      cases fb
      · have HT := Lib.hid (HZ.out.trans (cutL_end HE.out hF HQ.out))
        clear hF
        obtain ⟨b1, o1, rfl, hat⟩ := HO'.out.row.at (by have := HQ.out; omega)
        obtain ⟨v1, v2, hat⟩ := hat q (by have := HQ.out; omega)
        obtain ⟨A3, c3, rfl, -⟩ := (hat _ (Ext.refl wr)).2.1
        obtain ⟨A4, c4, rfl, -⟩ := (hat _ (Ext.refl wr)).2.2
        have HA := Lib.hid hat
        obtain ⟨x, hx⟩ : ∃ x, gn acc q = x := ⟨_, rfl⟩
        rw [hx] at HA HT
        have hwq : IntKind.i64.wrap (((q + 1 : Nat) : Int) - 1) = q := by rw [IntKind.wrap_i64]; omega
        clear hat hx
        go_wp2_with fail
        refine HG.out.mono ?_
        rintro e w1 ⟨rfl, x1⟩
        obtain ⟨y0, y1, y2, y3, y4, y5⟩ := (HA.out _ x1).1
        have X1 := Lib.hid x1
        clear x1
        have HN := Lib.hid (fun W => refEnds_any x.o W)
        by_cases he : endsZ x.o = true
        · rw [he] at HN HT
          clear he
          go_wp2_with fail
          refine (HN.out _).mono ?_
          rintro e w2 ⟨rfl, rfl⟩
          go_wp2
          go_ret3
          refine Ret.mk (CutAns.good (HT.out.trans (if_pos trivial)) (HO'.out.ext (X1.out.alloc _))) ((HX.out.trans X1.out).alloc _)
        · have he : endsZ x.o = false := by simpa using he
          rw [he] at HN HT
          clear he
          go_wp2_with fail
          refine (HN.out _).mono ?_
          rintro e w2 ⟨rfl, rfl⟩
          go_wp2
          go_quiet (fail)
          go_wp2
          go_ret3
          refine Ret.mk (CutAns.bad (HT.out.trans (if_neg (by simp)))) (((HX.out.trans X1.out).alloc _).drewN _)
      · have HT := Lib.hid (HZ.out.trans (cutL_astray HE.out hF))
        clear hF
        go_wp2_with fail
        refine HG.out.mono ?_
        rintro e w1 ⟨rfl, x1⟩
        go_wp2
        go_ret3
        exact Ret.mk (CutAns.bad HT.out) (HX.out.trans x1)
end Go.Proofs.Ytcgajgileehbbaa
/- The project's astray and Cut, walked. -/
namespace Go.Proofs.Ytcgajgileehbbaa
open Go.RowKit
set_option linter.unusedVariables false

set_option maxRecDepth 100000 in
set_option maxHeartbeats 4000000 in
theorem astray_any (v : Value) (l : List In) (w : World) (h : RowI w v l) (ha : Within l) :
    Calls Try.prog 34 #[v] w fun e w' => e = .returned (.tuple #[.int .i64 (firstNot (good l) l).1, .bool (firstNot (good l) l).2]) ∧ Ext w w' := by
  have H := Lib.hid h
  obtain ⟨A, c, rfl, -⟩ := h.cut
  have HB := Lib.hid (beginnings_any _ l w h ha)
  have HF := Lib.hid (fun W (e : Ext w W) f g (hf : FB W f g) (hg : BG W g l) => firstBut_any 54 #[.pointer (some ⟨f, 0, none⟩)] (good l) _ l W (H.out.ext e) (fun args W => Try.call54 args W)
    (fun W' e' x hx v1 v2 h1 h2 => astray1_any x v1 v2 f g l W' h1 h2 (hf.ext e') (hg.ext e') ha))
  obtain ⟨F, hF⟩ : ∃ F, firstNot (good l) l = F := ⟨_, rfl⟩
  rw [hF] at HF ⊢
  clear h ha hF
  go_enter Try.func34, Try.ntmps34
  go_wp2_with fail
  refine HB.out.mono ?_
  rintro e w1 ⟨g, rfl, hg, hs, x1⟩
  have HG := Lib.hid hg
  have X1 := Lib.hid x1
  clear hg x1
  go_wp2_with fail
  refine (HF.out _ (X1.out.alloc _) w1.heap.size g (heap_alloc_new w1 _) (HG.out.ext ((Ext.refl w1).alloc _))).mono ?_
  rintro e w2 ⟨rfl, x2⟩
  go_wp2
  go_ret2
  exact ⟨rfl, (X1.out.alloc _).trans x2⟩
set_option maxRecDepth 100000 in
set_option maxHeartbeats 4000000 in
theorem Cut_any (v : Value) (b : List Int) (w : World) (h : Row w .u8 v b) :
    Calls Try.prog 12 #[v] w (Ret w (CutAns w.heap.size (cutZ b))) := by
  have H := Lib.hid h
  have HB := Lib.hid (bytes_row h)
  obtain ⟨A, c, rfl, hc, hm, -⟩ := h
  unfold maxLen at hm
  obtain ⟨n, hn⟩ : ∃ n, n = b.length := ⟨_, rfl⟩
  rw [← hn] at hc H ⊢
  have Hn := Lib.hid hn
  by_cases hbig : 8192 < b.length
  · have HZ := Lib.hid (show cutZ b = ([], 0, 5) by unfold cutZ; rw [if_pos hbig])
    have hbig : 8192 < n := by omega
    clear hn
    go_enter Try.func12, Try.ntmps12
    go_wp2
    go_ret3
    exact Ret.mk (CutAns.bad HZ.out) (Ext.refl w)
  by_cases hnone : b.length = 0
  · have HZ := Lib.hid (show cutZ b = ([], 0, 70) by unfold cutZ; rw [if_neg hbig, if_pos hnone])
    obtain rfl : n = 0 := by omega
    clear hn
    go_enter Try.func12, Try.ntmps12
    go_wp2
    go_ret3
    exact Ret.mk (CutAns.bad HZ.out) (Ext.refl w)
  have HZ := Lib.hid (cutZ_mid hbig hnone)
  have hn0 : 0 < n := by omega
  have hn1 : n ≤ 8192 := by omega
  have hb0 : 0 < b.length := by omega
  have hd := decodeAll_any (.slice A n c) b w H.out (by omega)
  obtain ⟨R, hR⟩ : ∃ R, cutF b 0 = R := ⟨_, rfl⟩
  have HL : Hid (R.2.2 = 0 → ∃ q, R.1.length = q + 1) := Lib.hid (fun hl => by
    have := cutF_one HB.out hb0 (by rw [hR, hl])
    rw [hR] at this
    exact ⟨R.1.length - 1, by omega⟩)
  have HW : Hid (R.2.2 = 0 → Within R.1) := Lib.hid (fun hl x hx => by
    have := cutF_all HB.out _ 0 rfl (by rw [hR, hl]) x (by rw [hR]; exact hx)
    have h1 := (may_parts this.1).1
    exact ⟨h1.1, h1.2.1⟩)
  have HR0 : Hid (R.2.2 = 0 → R.2.1 = 0) := Lib.hid (fun hl => by rw [← hR] at hl ⊢; exact cuts_zero hl)
  have HR1 : Hid (R.2.2 ≠ 0 → R.1 = []) := Lib.hid (fun hl => by rw [← hR] at hl ⊢; exact cuts_none hl)
  rw [hR] at HZ hd
  have HD := Lib.hid hd
  clear hR hn hbig hnone hb0 hd
  have hz0 : ((n : Int) == 0) = false := by simp; omega
  obtain ⟨acc, k, er⟩ := R
  simp only at HL HW HR0 HR1 HD
  go_enter Try.func12, Try.ntmps12
  go_wp2_with fail
  refine HD.out.mono ?_
  rintro e w1 ⟨v', rfl, ⟨u, rfl, ho⟩, x1⟩
  have HO := Lib.hid ho
  have X1 := Lib.hid x1
  clear ho x1
  by_cases he : er = 0
  · subst he
    obtain rfl : k = 0 := HR0.out rfl
    obtain ⟨q, hq⟩ := HL.out rfl
    obtain ⟨A1, c1, rfl, hc1, hm1⟩ := HO.out.slice
    unfold maxLen at hm1
    have HQ := Lib.hid hq
    have HO' : Hid (OwnI w.heap.size w1 (.slice A1 (q + 1) c1) acc) := by rw [hq] at HO; exact HO
    rw [hq] at hc1 ⊢
    clear hq
    have HG := Lib.hid (astray_any (.slice A1 (q + 1) c1) acc w1 HO'.out.row (HW.out rfl))
    obtain ⟨F, hF⟩ : ∃ F, firstNot (good acc) acc = F := ⟨_, rfl⟩
    obtain ⟨fa, fb⟩ := F
    rw [hF] at HG
    cases fb
    · have HT := Lib.hid (HZ.out.trans (cutL_end rfl hF HQ.out))
      clear hF
      obtain ⟨b1, o1, rfl, hat⟩ := HO'.out.row.at (by have := HQ.out; omega)
      obtain ⟨v1, v2, hat⟩ := hat q (by have := HQ.out; omega)
      obtain ⟨A3, c3, rfl, -⟩ := (hat _ (Ext.refl w1)).2.1
      obtain ⟨A4, c4, rfl, -⟩ := (hat _ (Ext.refl w1)).2.2
      have HA := Lib.hid hat
      obtain ⟨x, hx⟩ : ∃ x, gn acc q = x := ⟨_, rfl⟩
      rw [hx] at HA HT
      have hwq : IntKind.i64.wrap (((q + 1 : Nat) : Int) - 1) = q := by rw [IntKind.wrap_i64]; omega
      have HB' := Lib.hid (fun (W0 W : World) e => boxed (w := W0) (W := W) (x := x) (v1 := .slice A3 x.to.length c3) (v2 := .slice A4 x.ks.length c4) e)
      unfold In.vals at HB'
      clear hat hx
      go_wp2_with fail
      refine HG.out.mono ?_
      rintro e w2 ⟨rfl, x2⟩
      obtain ⟨y0, y1, y2, y3, y4, y5⟩ := (HA.out _ x2).1
      have X2 := Lib.hid x2
      clear x2
      have HN := Lib.hid (fun W => Ends_any x.o W)
      by_cases he : endsZ x.o = true
      · rw [he] at HN HT
        clear he
        go_wp2_with fail
        refine (HN.out _).mono ?_
        rintro e w3 ⟨rfl, x3⟩
        go_wp2
        go_ret3
        exact Ret.mk (CutAns.good (HT.out.trans (if_pos trivial)) (HO'.out.ext ((X2.out.alloc _).trans x3))) (((X1.out.trans X2.out).alloc _).trans x3)
      · have he' : endsZ x.o = false := by simpa using he
        rw [he'] at HN HT
        clear he he'
        go_wp2_with fail
        refine (HN.out _).mono ?_
        rintro e w3 ⟨rfl, x3⟩
        obtain ⟨d0, d1, d2, d3, d4, d5⟩ := HB'.out w2 w3 x3
        go_wp2
        go_quiet (fail)
        go_wp2
        go_ret3
        exact Ret.mk (CutAns.bad (HT.out.trans (if_neg (by simp)))) ((((X1.out.trans X2.out).alloc _).trans x3).drewN _)
    · have HT := Lib.hid (HZ.out.trans (cutL_astray rfl hF))
      clear hF
      go_wp2_with fail
      refine HG.out.mono ?_
      rintro e w2 ⟨rfl, x2⟩
      go_wp2
      go_ret3
      exact Ret.mk (CutAns.bad HT.out) (X1.out.trans x2)
  · obtain rfl : acc = [] := HR1.out he
    have hb : (er != 0) = true := by simpa using he
    have HT := Lib.hid (HZ.out.trans (cutL_bad (b := b) rfl he))
    clear he
    go_wp2
    go_ret3
    exact Ret.mk (CutAns.bad HT.out) X1.out
end Go.Proofs.Ytcgajgileehbbaa
/- The document's Same of lists of instructions. (gen_codeg.py) -/
namespace Go.Proofs.Ytcgajgileehbbaa
open Go.RowKit
set_option linter.unusedVariables false

theorem conj12 {a b c d e f g h i j k l : Prop} (p : a ∧ b ∧ c ∧ d ∧ e ∧ f) (q : g ∧ h ∧ i ∧ j ∧ k ∧ l) : a ∧ b ∧ c ∧ d ∧ e ∧ f ∧ g ∧ h ∧ i ∧ j ∧ k ∧ l := by
  obtain ⟨p1, p2, p3, p4, p5, p6⟩ := p
  exact ⟨p1, p2, p3, p4, p5, p6, q⟩
theorem take_next_ne {l m : List In} {k : Nat} (hl : k < l.length) (hm : k < m.length) (h : ¬ gn l k = gn m k) : ¬ l = m := fun e => h (by rw [e])
theorem take_next_eq {l m : List In} {k : Nat} (hl : k < l.length) (hm : k < m.length) (h : l.take k = m.take k) (hg : gn l k = gn m k) : l.take (k + 1) = m.take (k + 1) := by
  rw [List.take_succ_eq_append_getElem hl, List.take_succ_eq_append_getElem hm, h, ← gn_get hl, ← gn_get hm, hg]
set_option maxRecDepth 100000 in
set_option maxHeartbeats 4000000 in
theorem refSameL_any (v1 v2 : Value) (l1 l2 : List In) (w : World) (h1 : RowI w v1 l1) (h2 : RowI w v2 l2) :
    Calls Try.prog 14 #[v1, v2] w fun e w' => e = .returned (.bool (decide (l1 = l2))) ∧ Ext w w' := by
  have H1 := Lib.hid h1
  have H2 := Lib.hid h2
  obtain ⟨A, c, rfl, hc, hm, -⟩ := h1.cut
  obtain ⟨A', c', rfl, hc', hm', -⟩ := h2.cut
  unfold maxLen at hm hm'
  by_cases hl : l1.length = l2.length
  · obtain ⟨n, hn⟩ : ∃ n, n = l1.length := ⟨_, rfl⟩
    rw [← hl, ← hn] at hc' H2
    rw [← hn] at hc H1
    rw [← hl, ← hn]
    have Hn := Lib.hid hn
    have Hl := Lib.hid hl
    clear hn hl h1 h2
    go_enter Try.func14, Try.ntmps14
    go_wp2
    go_loopw [5] (fun i wr => ∃ (k : Nat), i = .int .i64 k ∧ k ≤ n ∧ Hid (l1.take k = l2.take k) ∧ Hid (Ext w wr)) (fun i _ => n - (intOf i).toNat)
    case atStart => exact ⟨0, rfl, by omega, Lib.hid rfl, Lib.hid (Ext.refl w)⟩
    case round =>
      obtain ⟨k, rfl, hk, HT, HX⟩ := hrel
      by_cases hlt : k < n
      · have hk1 : k < l1.length := by have := Hn.out; omega
        have hk2 : k < l2.length := by have := Hn.out; have := Hl.out; omega
        obtain ⟨b1, o1, rfl, hat1⟩ := H1.out.at (by omega)
        obtain ⟨u1, u2, hat1⟩ := hat1 k hk1
        obtain ⟨b2, o2, rfl, hat2⟩ := H2.out.at (by omega)
        obtain ⟨u3, u4, hat2⟩ := hat2 k hk2
        obtain ⟨A1, c1, rfl, -⟩ := (hat1 _ HX.out).2.1
        obtain ⟨A2, c2, rfl, -⟩ := (hat1 _ HX.out).2.2
        obtain ⟨A3, c3, rfl, -⟩ := (hat2 _ HX.out).2.1
        obtain ⟨A4, c4, rfl, -⟩ := (hat2 _ HX.out).2.2
        have hN := take_next_eq hk1 hk2 HT.out
        have hM := take_next_ne hk1 hk2
        obtain ⟨x, hx⟩ : ∃ x, gn l1 k = x := ⟨_, rfl⟩
        obtain ⟨y, hy⟩ : ∃ y, gn l2 k = y := ⟨_, rfl⟩
        rw [hx, hy] at hN hM
        rw [hx] at hat1
        rw [hy] at hat2
        have HA1 := Lib.hid hat1
        have HA2 := Lib.hid hat2
        have HS := Lib.hid (fun W (e : Ext w W) => refSame_any x y _ _ _ _ W (hat1 W e).2.1 (hat1 W e).2.2 (hat2 W e).2.1 (hat2 W e).2.2)
        have HF : ∀ W, Ext w W → W.cell? ⟨b1, o1 + k * 6, none⟩ = some (.int .i64 x.a) ∧ W.cell? ⟨b1, o1 + k * 6 + 1, none⟩ = some (.int .i64 x.o) ∧ W.cell? ⟨b1, o1 + k * 6 + 2, none⟩ = some (.int .i64 x.n) ∧ W.cell? ⟨b1, o1 + k * 6 + 3, none⟩ = some (.int .i64 x.m) ∧ W.cell? ⟨b1, o1 + k * 6 + 4, none⟩ = some ((.slice A1 x.to.length c1)) ∧ W.cell? ⟨b1, o1 + k * 6 + 5, none⟩ = some ((.slice A2 x.ks.length c2)) ∧ W.cell? ⟨b2, o2 + k * 6, none⟩ = some (.int .i64 y.a) ∧ W.cell? ⟨b2, o2 + k * 6 + 1, none⟩ = some (.int .i64 y.o) ∧ W.cell? ⟨b2, o2 + k * 6 + 2, none⟩ = some (.int .i64 y.n) ∧ W.cell? ⟨b2, o2 + k * 6 + 3, none⟩ = some (.int .i64 y.m) ∧ W.cell? ⟨b2, o2 + k * 6 + 4, none⟩ = some ((.slice A3 y.to.length c3)) ∧ W.cell? ⟨b2, o2 + k * 6 + 5, none⟩ = some ((.slice A4 y.ks.length c4)) := fun W e => conj12 (hat1 W e).1 (hat2 W e).1
        have f0 := HF wr.drew HX.out.drew
        have HFF := Lib.hid HF
        have e1 := HX.out.drew
        unfold In.vals at HS
        have HN := Lib.hid hN
        have HM := Lib.hid hM
        clear hat1 hat2 hx hy hN hM HF
        obtain ⟨r, hr⟩ : ∃ r, decide (x = y) = r := ⟨_, rfl⟩
        rw [hr] at HS
        have HR := Lib.hid hr
        clear hr
        go_wp2_with fail
        go_region_held3 (fun w' => w'.cell? ⟨b1, o1 + k * 6, none⟩ = some (.int .i64 x.a) ∧ w'.cell? ⟨b1, o1 + k * 6 + 1, none⟩ = some (.int .i64 x.o) ∧ w'.cell? ⟨b1, o1 + k * 6 + 2, none⟩ = some (.int .i64 x.n) ∧ w'.cell? ⟨b1, o1 + k * 6 + 3, none⟩ = some (.int .i64 x.m) ∧ w'.cell? ⟨b1, o1 + k * 6 + 4, none⟩ = some ((.slice A1 x.to.length c1)) ∧ w'.cell? ⟨b1, o1 + k * 6 + 5, none⟩ = some ((.slice A2 x.ks.length c2)) ∧ w'.cell? ⟨b2, o2 + k * 6, none⟩ = some (.int .i64 y.a) ∧ w'.cell? ⟨b2, o2 + k * 6 + 1, none⟩ = some (.int .i64 y.o) ∧ w'.cell? ⟨b2, o2 + k * 6 + 2, none⟩ = some (.int .i64 y.n) ∧ w'.cell? ⟨b2, o2 + k * 6 + 3, none⟩ = some (.int .i64 y.m) ∧ w'.cell? ⟨b2, o2 + k * 6 + 4, none⟩ = some ((.slice A3 y.to.length c3)) ∧ w'.cell? ⟨b2, o2 + k * 6 + 5, none⟩ = some ((.slice A4 y.ks.length c4))) (first | with_reducible assumption) (first
          | (go_at_call 38; (with_reducible refine (HS.out _ e1).mono ?_); rintro e w2 ⟨rfl, x2⟩; have f1 := HFF.out w2 (e1.trans x2)))
        cases r
        · have HE := Lib.hid (decide_eq_false (HM.out (of_decide_eq_false HR.out)))
          go_wp2
          go_ret
          exact ⟨by rw [HE.out]; rfl, e1.trans x2⟩
        · have HE := Lib.hid (HN.out (of_decide_eq_true HR.out))
          clear f0 f1
          go_wp2_with fail
          go_roundw
          case rel => exact ⟨k + 1, by go_num, by omega, HE, Lib.hid (e1.trans x2)⟩
          case measure => simp [intOf]; omega
      · have HE := Lib.hid (decide_eq_true (show l1 = l2 by
          have := HT.out
          rwa [List.take_of_length_le (by have := Hn.out; omega), List.take_of_length_le (by have := Hn.out; have := Hl.out; omega)] at this))
        go_wp2
        go_ret
        exact ⟨by rw [HE.out]; rfl, HX.out⟩
  · have hb : ((l1.length : Int) != (l2.length : Int)) = true := by simp; omega
    have HE := Lib.hid (decide_eq_false (show ¬ l1 = l2 from fun e => hl (by rw [e])))
    clear h1 h2 hl
    go_enter Try.func14, Try.ntmps14
    go_wp2
    go_ret
    exact ⟨by rw [HE.out]; rfl, Ext.refl w⟩
end Go.Proofs.Ytcgajgileehbbaa
/- Join, the project's and the document's, walked. -/
namespace Go.Proofs.Ytcgajgileehbbaa
open Go.RowKit
set_option linter.unusedVariables false

/-- What joining answers. -/
def JoinAns (B : Nat) (r : List Int × Int) (v : Value) (w' : World) : Prop := ∃ u, v = .tuple #[u, .int .i64 r.2] ∧ Own B w' 5 .u8 u r.1
theorem JoinAns.bad {w : World} {B : Nat} {R : List Int × Int} {e : Int} (h : R = ([], e)) : JoinAns B R (.tuple #[.slice none 0 0, .int .i64 e]) w := by
  subst h
  exact ⟨_, rfl, Own.nil _ _ _ _⟩
theorem JoinAns.good {w : World} {B : Nat} {R : List Int × Int} {u : Value} {l : List Int} (h : R = (l, 0)) (ho : Own B w 5 .u8 u l) : JoinAns B R (.tuple #[u, .int .i64 0]) w := by
  subst h
  exact ⟨_, rfl, ho⟩
theorem joinF_yes {l : List In} {k : Nat} {b : List Int} (h : k < l.length) (h1 : mayI (gn l k) = true) (h2 : (gn l k).a = b.length) : joinF (l.drop k) b = joinF (l.drop (k + 1)) (b ++ encB (gn l k)) := by
  rw [gn_get h] at *
  rw [List.drop_eq_getElem_cons h, joinF, if_pos ⟨h1, h2⟩]
theorem joinF_no {l : List In} {k : Nat} {b : List Int} (h : k < l.length) (h1 : ¬ (mayI (gn l k) = true ∧ (gn l k).a = b.length)) : joinF (l.drop k) b = none := by
  rw [gn_get h] at *
  rw [List.drop_eq_getElem_cons h, joinF, if_neg h1]
theorem joinZ_none {l : List In} (h : joinF l [] = none) : joinZ l = ([], 70) := by unfold joinZ; rw [h]
theorem joinZ_some {l : List In} {b : List Int} (h : joinF l [] = some b) : joinZ l = if (cutZ b).2.2 = 0 then (b, 0) else ([], 70) := by unfold joinZ; rw [h]
set_option maxRecDepth 100000 in
set_option maxHeartbeats 4000000 in
theorem Join_any (v : Value) (l : List In) (w : World) (h : RowI w v l) :
    Calls Try.prog 18 #[v] w (Ret w (JoinAns w.heap.size (joinZ l))) := by
  have H := Lib.hid h
  obtain ⟨A, c, rfl, hc, hm, -⟩ := h.cut
  unfold maxLen at hm
  obtain ⟨n, hn⟩ : ∃ n, n = l.length := ⟨_, rfl⟩
  rw [← hn] at hc H ⊢
  have Hn := Lib.hid hn
  clear hn h
  go_enter Try.func18, Try.ntmps18
  go_wp2
  go_loopw [4, 14] (fun u i wr => ∃ (k : Nat) (bb : List Int), i = .int .i64 k ∧ k ≤ n ∧ bb.length ≤ 20000 ∧ Hid (Own w.heap.size wr 5 .u8 u bb) ∧ Hid (joinF l [] = joinF (l.drop k) bb) ∧ Hid (Ext w wr)) (fun _ i _ => n - (intOf i).toNat)
  case atStart => exact ⟨0, [], rfl, by omega, by simp, Lib.hid (Own.nil _ _ _ _), Lib.hid rfl, Lib.hid (Ext.refl w)⟩
  case round =>
    obtain ⟨k, bb, rfl, hk, hbb, HO, HJ, HX⟩ := hrel
    obtain ⟨A0, c0, rfl, hc0, hm0, -⟩ := HO.out.row
    unfold maxLen at hm0
    by_cases hlt : k < n
    · have hkl : k < l.length := by have := Hn.out; omega
      obtain ⟨b, o, rfl, hat⟩ := H.out.at (by omega)
      obtain ⟨v1, v2, hat⟩ := hat k hkl
      have hr1 := (hat _ HX.out).2.1
      have hr2 := (hat _ HX.out).2.2
      obtain ⟨A1, c1, rfl, -⟩ := id hr1
      obtain ⟨A2, c2, rfl, -⟩ := id hr2
      obtain ⟨y0, y1, y2, y3, y4, y5⟩ := (hat _ HX.out).1
      have HC := Lib.hid (fun W (e : Ext wr W) => Encode_any (gn l k) _ _ W (hr1.ext e) (hr2.ext e))
      have hN := fun a b => HJ.out.trans (joinF_yes hkl a b)
      have hH := fun a => HJ.out.trans (joinF_no hkl a)
      obtain ⟨x, hx⟩ : ∃ x, gn l k = x := ⟨_, rfl⟩
      rw [hx] at y0 y1 y2 y3 y4 y5 HC hN hH
      have HB := Lib.hid (fun W e => boxed (w := wr) (W := W) (x := x) (v1 := .slice A1 x.to.length c1) (v2 := .slice A2 x.ks.length c2) e)
      obtain ⟨d0, d1, d2, d3, d4, d5⟩ := HB.out _ (Ext.refl _)
      unfold In.vals at HC HB d0 d1 d2 d3 d4 d5
      have HN := Lib.hid hN
      have HH := Lib.hid hH
      clear hat hx hkl hr1 hr2 hN hH
      by_cases hm : mayI x = true
      · rw [show opsEnc x = (encB x, 0) by unfold opsEnc; rw [if_pos hm]] at HC
        have he := encB_len hm
        have ha := (may_parts hm).1
        by_cases hl : x.a = bb.length
        · have HE := Lib.hid (HN.out hm hl)
          have hb : (x.a != (bb.length : Int)) = false := by simp [hl]
          have hbl : bb.length < 8192 := by omega
          clear hm hl ha
          go_wp2_with fail
          refine (HC.out _ ((Ext.refl wr).alloc _)).mono ?_
          rintro e w1 ⟨v', rfl, ⟨u1, rfl, p1⟩, x1⟩
          have X1 := Lib.hid x1
          have P1 := Lib.hid p1
          have hsz := HX.out.size
          have hsz1 := x1.size
          clear d0 d1 d2 d3 d4 d5 x1 p1
          obtain ⟨d0, d1, d2, d3, d4, d5⟩ := HB.out _ X1.out
          go_wp2_with (at_builtin; go_loud (refine wpList_app _ rfl _ _ w.heap.size 22 5 _ 1 .u8 rfl Try.underlying22 info8 rfl (by omega) _ bb rfl (HO.out.ext (((Ext.refl wr).alloc _).trans X1.out)) u1 (encB x) rfl P1.out.row (by omega) (by simp at hsz1; omega) ?_); intro u' w2 ho2 hg2 _)
          have X2 := Lib.hid (((HX.out.alloc (.cells #[.int .i64 x.a, .int .i64 x.o, .int .i64 x.n, .int .i64 x.m, .slice A1 x.to.length c1, .slice A2 x.ks.length c2] 34)).trans X1.out).grown hg2 (fun g hg => HO.out.low g hg))
          have HO2 := Lib.hid ho2
          clear ho2 hg2 d0 d1 d2 d3 d4 d5
          go_wp2_with fail
          go_roundw
          case rel => exact ⟨k + 1, bb ++ encB x, by go_num, by omega, by simp; omega, HO2, HE, X2⟩
          case measure => simp [intOf]; omega
        · have HE := Lib.hid (joinZ_none (HH.out (fun e => hl e.2)))
          have hb : (x.a != (bb.length : Int)) = true := by simp [hl]
          clear hm hl ha
          go_wp2_with fail
          refine (HC.out _ ((Ext.refl wr).alloc _)).mono ?_
          rintro e w1 ⟨v', rfl, ⟨u1, rfl, p1⟩, x1⟩
          have X1 := Lib.hid x1
          clear d0 d1 d2 d3 d4 d5 x1 p1
          obtain ⟨d0, d1, d2, d3, d4, d5⟩ := HB.out _ X1.out
          go_wp2
          go_ret2
          exact Ret.mk (JoinAns.bad HE.out) ((HX.out.alloc _).trans X1.out)
      · rw [show opsEnc x = ([], 2) by unfold opsEnc; rw [if_neg hm]] at HC
        have HE := Lib.hid (joinZ_none (HH.out (fun e => hm e.1)))
        clear hm
        go_wp2_with fail
        refine (HC.out _ ((Ext.refl wr).alloc _)).mono ?_
        rintro e w1 ⟨v', rfl, ⟨u1, rfl, p1⟩, x1⟩
        have X1 := Lib.hid x1
        clear d0 d1 d2 d3 d4 d5 x1 p1
        obtain ⟨d0, d1, d2, d3, d4, d5⟩ := HB.out _ X1.out
        go_wp2
        go_ret2
        exact Ret.mk (JoinAns.bad HE.out) ((HX.out.alloc _).trans X1.out)
    · have HE := Lib.hid (joinZ_some (show joinF l [] = some bb by rw [HJ.out, List.drop_of_length_le (by have := Hn.out; omega)]; rfl))
      have HC := Lib.hid (Cut_any (.slice A0 bb.length c0) bb wr HO.out.row)
      obtain ⟨R, hR⟩ : ∃ R, cutZ bb = R := ⟨_, rfl⟩
      obtain ⟨m, a, er⟩ := R
      rw [hR] at HC HE
      simp only at HE
      clear hR
      go_wp2_with fail
      refine HC.out.mono ?_
      rintro e w1 ⟨v', rfl, ⟨u1, rfl, p1⟩, x1⟩
      by_cases he : er = 0
      · subst he
        rw [if_pos rfl] at HE
        go_wp2
        go_ret2
        exact Ret.mk (JoinAns.good HE.out (HO.out.ext x1)) (HX.out.trans x1)
      · have hb : (er != 0) = true := by simpa using he
        rw [if_neg he] at HE
        clear he
        go_wp2
        go_ret2
        exact Ret.mk (JoinAns.bad HE.out) (HX.out.trans x1)
set_option maxRecDepth 100000 in
set_option maxHeartbeats 4000000 in
theorem refJoin_any (v : Value) (l : List In) (w : World) (h : RowI w v l) :
    Calls Try.prog 19 #[v] w (Ret w (JoinAns w.heap.size (joinZ l))) := by
  have H := Lib.hid h
  obtain ⟨A, c, rfl, hc, hm, -⟩ := h.cut
  unfold maxLen at hm
  obtain ⟨n, hn⟩ : ∃ n, n = l.length := ⟨_, rfl⟩
  rw [← hn] at hc H ⊢
  have Hn := Lib.hid hn
  clear hn h
  go_enter Try.func19, Try.ntmps19
  go_wp2
  go_loopw [4, 5] (fun u i wr => ∃ (k : Nat) (bb : List Int), i = .int .i64 k ∧ k ≤ n ∧ bb.length ≤ 20000 ∧ Hid (Own w.heap.size wr 5 .u8 u bb) ∧ Hid (joinF l [] = joinF (l.drop k) bb) ∧ Hid (Ext w wr)) (fun _ i _ => n - (intOf i).toNat)
  case atStart => exact ⟨0, [], rfl, by omega, by simp, Lib.hid (Own.nil _ _ _ _), Lib.hid rfl, Lib.hid (Ext.refl w)⟩
  case round =>
    obtain ⟨k, bb, rfl, hk, hbb, HO, HJ, HX⟩ := hrel
    obtain ⟨A0, c0, rfl, hc0, hm0, -⟩ := HO.out.row
    unfold maxLen at hm0
    by_cases hlt : k < n
    · have hkl : k < l.length := by have := Hn.out; omega
      obtain ⟨b, o, rfl, hat⟩ := H.out.at (by omega)
      obtain ⟨v1, v2, hat⟩ := hat k hkl
      have hr1 := (hat _ HX.out).2.1
      have hr2 := (hat _ HX.out).2.2
      obtain ⟨A1, c1, rfl, -⟩ := id hr1
      obtain ⟨A2, c2, rfl, -⟩ := id hr2
      obtain ⟨y0, y1, y2, y3, y4, y5⟩ := (hat _ HX.out).1
      have HC := Lib.hid (fun W (e : Ext wr W) => refEncode_any (gn l k) _ _ W (hr1.ext e) (hr2.ext e))
      have hN := fun a b => HJ.out.trans (joinF_yes hkl a b)
      have hH := fun a => HJ.out.trans (joinF_no hkl a)
      obtain ⟨x, hx⟩ : ∃ x, gn l k = x := ⟨_, rfl⟩
      rw [hx] at y0 y1 y2 y3 y4 y5 HC hN hH
      have hat' := hat
      rw [hx] at hat'
      have HB := Lib.hid (fun W (e : Ext wr W) => (hat' W (HX.out.trans e)).1)
      unfold In.vals at HC
      have HN := Lib.hid hN
      have HH := Lib.hid hH
      clear hat hat' hx hkl hr1 hr2 hN hH
      by_cases hm : mayI x = true
      · rw [show opsEnc x = (encB x, 0) by unfold opsEnc; rw [if_pos hm]] at HC
        have he := encB_len hm
        have ha := (may_parts hm).1
        by_cases hl : x.a = bb.length
        · have HE := Lib.hid (HN.out hm hl)
          have hb : (x.a != (bb.length : Int)) = false := by simp [hl]
          have hbl : bb.length < 8192 := by omega
          clear hm hl ha
          go_wp2_with fail
          refine (HC.out _ (Ext.refl wr)).mono ?_
          rintro e w1 ⟨v', rfl, ⟨u1, rfl, p1⟩, x1⟩
          have X1 := Lib.hid x1
          have P1 := Lib.hid p1
          have hsz := HX.out.size
          have hsz1 := x1.size
          clear y0 y1 y2 y3 y4 y5 x1 p1
          obtain ⟨d0, d1, d2, d3, d4, d5⟩ := HB.out _ X1.out
          go_wp2_with (at_builtin; go_loud (refine wpList_app _ rfl _ _ w.heap.size 22 5 _ 1 .u8 rfl Try.underlying22 info8 rfl (by omega) _ bb rfl (HO.out.ext X1.out) u1 (encB x) rfl P1.out.row (by omega) (by omega) ?_); intro u' w2 ho2 hg2 _)
          have X2 := Lib.hid ((HX.out.trans X1.out).grown hg2 (fun g hg => HO.out.low g hg))
          have HO2 := Lib.hid ho2
          clear ho2 hg2 d0 d1 d2 d3 d4 d5
          go_wp2_with fail
          go_roundw
          case rel => exact ⟨k + 1, bb ++ encB x, by go_num, by omega, by simp; omega, HO2, HE, X2⟩
          case measure => simp [intOf]; omega
        · have HE := Lib.hid (joinZ_none (HH.out (fun e => hl e.2)))
          have hb : (x.a != (bb.length : Int)) = true := by simp [hl]
          clear hm hl ha
          go_wp2_with fail
          refine (HC.out _ (Ext.refl wr)).mono ?_
          rintro e w1 ⟨v', rfl, ⟨u1, rfl, p1⟩, x1⟩
          have X1 := Lib.hid x1
          clear y0 y1 y2 y3 y4 y5 x1 p1
          obtain ⟨d0, d1, d2, d3, d4, d5⟩ := HB.out _ X1.out
          go_wp2
          go_ret2
          exact Ret.mk (JoinAns.bad HE.out) (HX.out.trans X1.out)
      · rw [show opsEnc x = ([], 2) by unfold opsEnc; rw [if_neg hm]] at HC
        have HE := Lib.hid (joinZ_none (HH.out (fun e => hm e.1)))
        clear hm
        go_wp2_with fail
        refine (HC.out _ (Ext.refl wr)).mono ?_
        rintro e w1 ⟨v', rfl, ⟨u1, rfl, p1⟩, x1⟩
        have X1 := Lib.hid x1
        clear y0 y1 y2 y3 y4 y5 x1 p1
        obtain ⟨d0, d1, d2, d3, d4, d5⟩ := HB.out _ X1.out
        go_wp2
        go_ret2
        exact Ret.mk (JoinAns.bad HE.out) (HX.out.trans X1.out)
    · have HE := Lib.hid (joinZ_some (show joinF l [] = some bb by rw [HJ.out, List.drop_of_length_le (by have := Hn.out; omega)]; rfl))
      have HC := Lib.hid (refCut_any (.slice A0 bb.length c0) bb wr HO.out.row (by omega))
      have HF := Lib.hid (show joinF l [] = some bb by rw [HJ.out, List.drop_of_length_le (by have := Hn.out; omega)]; rfl)
      obtain ⟨R, hR⟩ : ∃ R, cutZ bb = R := ⟨_, rfl⟩
      have HM : Hid (R.2.2 = 0 → R.1 = l) := Lib.hid (fun e => by rw [← hR] at e ⊢; exact joinF_cutZ HF.out e)
      obtain ⟨m, a, er⟩ := R
      rw [hR] at HC HE
      simp only at HE HM
      clear hR
      go_wp2_with fail
      refine HC.out.mono ?_
      rintro e w1 ⟨v', rfl, ⟨u1, rfl, p1⟩, x1⟩
      by_cases he : er = 0
      · subst he
        rw [if_pos rfl] at HE
        obtain rfl : m = l := HM.out rfl
        have HS := Lib.hid (refSameL_any (.slice A n c) u1 m m w1 (H.out.ext (HX.out.trans x1)) p1.row)
        rw [decide_eq_true (rfl : m = m)] at HS
        have HO1 := Lib.hid (HO.out.ext x1)
        have X1 := Lib.hid x1
        clear p1 x1
        go_wp2_with fail
        refine HS.out.mono ?_
        rintro e w2 ⟨rfl, x2⟩
        go_wp2
        go_ret2
        exact Ret.mk (JoinAns.good HE.out (HO1.out.ext x2)) ((HX.out.trans X1.out).trans x2)
      · have hb : (er != 0) = true := by simpa using he
        rw [if_neg he] at HE
        clear he
        go_wp2
        go_ret2
        exact Ret.mk (JoinAns.bad HE.out) (HX.out.trans x1)
end Go.Proofs.Ytcgajgileehbbaa
/- The project's Place, walked. -/
namespace Go.Proofs.Ytcgajgileehbbaa
open Go.RowKit
set_option linter.unusedVariables false

theorem gn_some {l : List In} {k : Nat} (h : k < l.length) : l[k]? = some (gn l k) := by rw [gn_get h]; simp [h]
set_option maxRecDepth 100000 in
set_option maxHeartbeats 4000000 in
/-- IndexFunc over instructions, with any function literal that tells of them. -/
theorem indexIns_any (fid : FuncId) (caps : Array Value) (p : In → Bool) (v : Value) (l : List In) (w : World) (h : RowI w v l)
    (hc : ∀ args W, (callFunc fid args).run Try.prog W = .ok (.enter fid args) W)
    (hp : ∀ W, Ext w W → ∀ x ∈ l, ∀ v1 v2, Row W .i64 v1 x.to → Row W .i64 v2 x.ks → Calls Try.prog fid (#[.agg (x.vals v1 v2)] ++ caps) W fun e w' => e = .returned (.bool (p x)) ∧ Ext W w') :
    Calls Try.prog 41 #[v, .func (.func fid) #[] caps] w fun e w' => e = .returned (.int .i64 (idxP p l 0)) ∧ Ext w w' := by
  have H := Lib.hid h
  obtain ⟨A, c, rfl, hc0, hm, -⟩ := h.cut
  unfold maxLen at hm
  obtain ⟨n, hn⟩ : ∃ n, n = l.length := ⟨_, rfl⟩
  rw [← hn] at hc0 H ⊢
  have Hn := Lib.hid hn
  have HP := Lib.hid hp
  obtain ⟨F, hF⟩ : ∃ F, idxP p l 0 = F := ⟨_, rfl⟩
  have HF := Lib.hid hF
  rw [hF]
  clear hn h hp hF
  go_enter Try.func41, Try.ntmps41
  go_wp2
  go_loopw [8] (fun i wr => ∃ (k : Nat), i = .int .i64 k ∧ k ≤ n ∧ Hid (F = idxP p (l.drop k) k) ∧ Hid (Ext w wr)) (fun i _ => n - (intOf i).toNat)
  case atStart => exact ⟨0, rfl, by omega, Lib.hid HF.out.symm, Lib.hid (Ext.refl w)⟩
  case round =>
    obtain ⟨k, rfl, hk, HQ, HX⟩ := hrel
    by_cases hlt : k < n
    · have hkl : k < l.length := by have := Hn.out; omega
      obtain ⟨b, o, rfl, hat⟩ := H.out.at (by omega)
      obtain ⟨v1, v2, hat⟩ := hat k hkl
      have hr1 := (hat _ HX.out).2.1
      have hr2 := (hat _ HX.out).2.2
      obtain ⟨A1, c1, rfl, -⟩ := id hr1
      obtain ⟨A2, c2, rfl, -⟩ := id hr2
      obtain ⟨y0, y1, y2, y3, y4, y5⟩ := (hat _ HX.out).1
      have HC := Lib.hid (HP.out wr HX.out _ (gn_mem hkl) _ _ hr1 hr2)
      have hN : p (gn l k) = false → F = idxP p (l.drop (k + 1)) (k + 1) := fun e => HQ.out.trans (idxP_next (gn_some hkl) e)
      have hH : p (gn l k) = true → F = k := fun e => HQ.out.trans (idxP_here (gn_some hkl) e)
      obtain ⟨x, hx⟩ : ∃ x, gn l k = x := ⟨_, rfl⟩
      rw [hx] at y0 y1 y2 y3 y4 y5 HC hN hH
      unfold In.vals at HC
      obtain ⟨r, hr⟩ : ∃ r, p x = r := ⟨_, rfl⟩
      rw [hr] at HC hN hH
      have HN := Lib.hid hN
      have HH := Lib.hid hH
      clear hat hx hkl hr hr1 hr2 hN hH
      go_wp2_with fail
      refine HC.out.mono ?_
      rintro e w1 ⟨rfl, x1⟩
      have X1 := Lib.hid x1
      clear x1
      cases r
      · have HE := Lib.hid (HN.out rfl)
        go_wp2_with fail
        go_roundw
        case rel => exact ⟨k + 1, by go_num, by omega, HE, Lib.hid (HX.out.trans X1.out)⟩
        case measure => simp [intOf]; omega
      · have HE := Lib.hid (HH.out rfl)
        go_wp2
        go_ret
        exact ⟨by rw [HE.out]; rfl, HX.out.trans X1.out⟩
    · have HE := Lib.hid (show F = -1 by rw [HQ.out, List.drop_of_length_le (by have := Hn.out; omega)]; rfl)
      go_wp2
      go_ret
      exact ⟨by rw [HE.out]; rfl, HX.out⟩
set_option maxRecDepth 100000 in
theorem place1_any (x : In) (v1 v2 : Value) (g : Nat) (t : Int) (w : World) (h1 : Row w .i64 v1 x.to) (h2 : Row w .i64 v2 x.ks) (hg : w.cell? ⟨g, 0, none⟩ = some (.int .i64 t) ∧ g < w.heap.size) :
    Calls Try.prog 42 #[.agg (x.vals v1 v2), .pointer (some ⟨g, 0, none⟩)] w fun e w' => e = .returned (.bool (decide (x.a = t))) ∧ Ext w w' := by
  obtain ⟨A1, k1, rfl, -⟩ := h1
  obtain ⟨A2, k2, rfl, -⟩ := h2
  obtain ⟨hg, hl⟩ := hg
  obtain ⟨d0, d1, d2, d3, d4, d5⟩ := boxed (w := w) (x := x) (v1 := .slice A1 x.to.length k1) (v2 := .slice A2 x.ks.length k2) (Ext.refl _)
  unfold In.vals at d0 d1 d2 d3 d4 d5 ⊢
  have hne : ¬ g = w.heap.size := by omega
  go_enter Try.func42, Try.ntmps42
  go_wp2
  go_ret
  refine ⟨?_, (Ext.refl w).alloc _⟩
  have e : (x.a == t) = decide (x.a = t) := by by_cases h : x.a = t <;> simp [h]
  simp [e]
theorem place_idx {l : List In} {t : Int} : ∀ {k : Nat}, (∃ j : Nat, idxP (fun x => decide (x.a = t)) l k = j ∧ placeF t l k = ((j : Int), true)) ∨ (idxP (fun x => decide (x.a = t)) l k = -1 ∧ placeF t l k = (0, false)) := by
  induction l with
  | nil => intro k; exact .inr ⟨rfl, rfl⟩
  | cons x l ih =>
    intro k
    unfold idxP placeF
    by_cases h : x.a = t
    · rw [if_pos (decide_eq_true h), if_pos h]
      exact .inl ⟨k, rfl, rfl⟩
    · rw [if_neg (by simp [h]), if_neg h]
      exact ih
set_option maxRecDepth 100000 in
set_option maxHeartbeats 4000000 in
theorem Place_any (v : Value) (l : List In) (t : Int) (w : World) (h : RowI w v l) :
    Calls Try.prog 20 #[v, .int .i64 t] w fun e w' => e = .returned (.tuple #[.int .i64 (placeZ l t).1, .bool (placeZ l t).2]) ∧ Ext w w' := by
  have hi := fun (W : World) (e : Ext w W) (hg : W.cell? ⟨w.heap.size, 0, none⟩ = some (.int .i64 t) ∧ w.heap.size < W.heap.size) => indexIns_any 42 #[.pointer (some ⟨w.heap.size, 0, none⟩)] (fun x => decide (x.a = t)) v l W (h.ext e) (fun args W => Try.call42 args W)
    (fun W' e' x hx v1 v2 h1 h2 => place1_any x v1 v2 w.heap.size t W' h1 h2 ⟨(e'.cell (p := ⟨w.heap.size, 0, none⟩) hg.2).trans hg.1, Nat.lt_of_lt_of_le hg.2 e'.size⟩)
  obtain ⟨A, c, rfl, -⟩ := h.cut
  have hb : (w.alloc (.cells #[.int .i64 t] 3)).cell? ⟨w.heap.size, 0, none⟩ = some (.int .i64 t) := by
    rw [cell_of_row _ w.heap.size 0 _ 3 (0, 0) (heap_alloc_new w _)]
    rfl
  have hi1 := hi _ ((Ext.refl w).alloc (.cells #[.int .i64 t] 3)) ⟨hb, by simp⟩
  rcases place_idx (l := l) (t := t) (k := 0) with ⟨j, h1, h2⟩ | ⟨h1, h2⟩
  all_goals
    rw [h1] at hi1
    have HI := Lib.hid hi1
    have HZ := Lib.hid (show placeZ l t = _ from h2)
    clear h hi hi1 h1 h2 hb
    go_enter Try.func20, Try.ntmps20
    go_wp2_with fail
    refine HI.out.mono ?_
    rintro e w1 ⟨rfl, x1⟩
    go_wp2
    go_ret2
    rw [HZ.out]
    refine ⟨?_, ((Ext.refl w).alloc _).trans x1⟩
    first
      | rfl
      | (simp; done)
      | (simp; omega)
end Go.Proofs.Ytcgajgileehbbaa
