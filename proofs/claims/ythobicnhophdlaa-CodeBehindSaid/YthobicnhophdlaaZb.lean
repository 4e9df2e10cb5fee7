/- Several texts of this proof, one behind the other. -/
import Derived.Test.YthobicnhophdlaaZa
import Derived.Test.YthobicnhophdlaaOpsRda
import Derived.Test.YthobicnhophdlaaOpsA
import Derived.BigQuiet
import Derived.Test.YthobicnhophdlaaOpsG
import Derived.Test.YthobicnhophdlaaOpsC
import Derived.Deep.RegionHeld3
import Derived.Deep.CutRange
import Derived.LoopN
/- The document's Cut, walked. -/
namespace Go.Proofs.Ythobicnhophdlaa
open Go.RowKit
set_option linter.unusedVariables false

theorem last_of {l : List In} {q : Nat} (h : l.length = q + 1) : l.getD (l.length - 1) i0 = gn l q := by rw [h]; rfl
theorem cutZ_mid {b : List Int} (h1 : ¬ 8192 < b.length) (h2 : ¬ b.length = 0) : cutZ b = cutL (cutF b 0) := by unfold cutZ; rw [if_neg h1, if_neg h2]
theorem cutL_bad {b : List Int} {R : List In × Int × Int} {a e : Int} (h : R = ([], a, e)) (he : e ≠ 0) : cutL R = ([], a, e) := by
  unfold cutL
  rw [h]
  simp only
  rw [if_neg he]
theorem cutL_astray {R : List In × Int × Int} {l : List In} {F : Int} (h : R = (l, 0, 0)) (hf : firstNot (good l) l = (F, true)) : cutL R = ([], F, 70) := by
  unfold cutL
  rw [h]
  simp only
  rw [if_pos trivial, hf]
  simp
theorem cutL_end {R : List In × Int × Int} {l : List In} {F : Int} {q : Nat} (h : R = (l, 0, 0)) (hf : firstNot (good l) l = (F, false)) (hq : l.length = q + 1) : cutL R = if endsZ (gn l q).o = true then (l, 0, 0) else ([], (gn l q).a, 70) := by
  unfold cutL
  rw [h]
  simp only
  rw [if_pos trivial, hf, last_of hq]
  simp
end Go.Proofs.Ythobicnhophdlaa
/- The project's astray and Cut, walked. -/
namespace Go.Proofs.Ythobicnhophdlaa
open Go.RowKit
set_option linter.unusedVariables false

set_option maxRecDepth 100000 in
set_option maxHeartbeats 4000000 in
theorem astray_any (v : Value) (l : List In) (w : World) (h : RowI w v l) (ha : Within l) :
    Calls Try.prog 9 #[v] w fun e w' => e = .returned (.tuple #[.int .i64 (firstNot (good l) l).1, .bool (firstNot (good l) l).2]) ∧ Ext w w' := by
  have H := Lib.hid h
  obtain ⟨A, c, rfl, -⟩ := h.cut
  have HB := Lib.hid (beginnings_any _ l w h ha)
  have HF := Lib.hid (fun W (e : Ext w W) f g (hf : FB W f g) (hg : BG W g l) => firstBut_any 17 #[.pointer (some ⟨f, 0, none⟩)] (good l) _ l W (H.out.ext e) (fun args W => Try.call17 args W)
    (fun W' e' x hx v1 v2 h1 h2 => astray1_any x v1 v2 f g l W' h1 h2 (hf.ext e') (hg.ext e') ha))
  obtain ⟨F, hF⟩ : ∃ F, firstNot (good l) l = F := ⟨_, rfl⟩
  rw [hF] at HF ⊢
  clear h ha hF
  go_enter Try.func9, Try.ntmps9
  go_wp2_with fail
  refine HB.out.mono ?_
  rintro e w1 ⟨g, rfl, hg, hs, x1⟩
  have HG := Lib.hid hg
  have X1 := Lib.hid x1
  clear hg x1
  go_wp2_with fail
  refine (HF.out _ (X1.out.alloc _) w1.heap.size g (heap_alloc_new w1 _) (HG.out.ext ((Ext.refl w1).alloc _))).mono ?_
  rintro e w2 ⟨rfl, x2⟩
  go_wp2
  go_ret2
  exact ⟨rfl, (X1.out.alloc _).trans x2⟩
set_option maxRecDepth 100000 in
set_option maxHeartbeats 4000000 in
theorem Cut_any (v : Value) (b : List Int) (w : World) (h : Row w .u8 v b) :
    Calls Try.prog 4 #[v] w (Ret w (CutAns w.heap.size (cutZ b))) := by
  have H := Lib.hid h
  have HB := Lib.hid (bytes_row h)
  obtain ⟨A, c, rfl, hc, hm, -⟩ := h
  unfold maxLen at hm
  obtain ⟨n, hn⟩ : ∃ n, n = b.length := ⟨_, rfl⟩
  rw [← hn] at hc H ⊢
  have Hn := Lib.hid hn
  by_cases hbig : 8192 < b.length
  · have HZ := Lib.hid (show cutZ b = ([], 0, 5) by unfold cutZ; rw [if_pos hbig])
    have hbig : 8192 < n := by omega
    clear hn
    go_enter Try.func4, Try.ntmps4
    go_wp2
    go_ret3
    exact Ret.mk (CutAns.bad HZ.out) (Ext.refl w)
  by_cases hnone : b.length = 0
  · have HZ := Lib.hid (show cutZ b = ([], 0, 70) by unfold cutZ; rw [if_neg hbig, if_pos hnone])
    obtain rfl : n = 0 := by omega
    clear hn
    go_enter Try.func4, Try.ntmps4
    go_wp2
    go_ret3
    exact Ret.mk (CutAns.bad HZ.out) (Ext.refl w)
  have HZ := Lib.hid (cutZ_mid hbig hnone)
  have hn0 : 0 < n := by omega
  have hn1 : n ≤ 8192 := by omega
  have hb0 : 0 < b.length := by omega
  have hd := decodeAll_any (.slice A n c) b w H.out (by omega)
  obtain ⟨R, hR⟩ : ∃ R, cutF b 0 = R := ⟨_, rfl⟩
  have HL : Hid (R.2.2 = 0 → ∃ q, R.1.length = q + 1) := Lib.hid (fun hl => by
    have := cutF_one HB.out hb0 (by rw [hR, hl])
    rw [hR] at this
    exact ⟨R.1.length - 1, by omega⟩)
  have HW : Hid (R.2.2 = 0 → Within R.1) := Lib.hid (fun hl x hx => by
    have := cutF_all HB.out _ 0 rfl (by rw [hR, hl]) x (by rw [hR]; exact hx)
    have h1 := (may_parts this.1).1
    exact ⟨h1.1, h1.2.1⟩)
  have HR0 : Hid (R.2.2 = 0 → R.2.1 = 0) := Lib.hid (fun hl => by rw [← hR] at hl ⊢; exact cuts_zero hl)
  have HR1 : Hid (R.2.2 ≠ 0 → R.1 = []) := Lib.hid (fun hl => by rw [← hR] at hl ⊢; exact cuts_none hl)
  rw [hR] at HZ hd
  have HD := Lib.hid hd
  clear hR hn hbig hnone hb0 hd
  have hz0 : ((n : Int) == 0) = false := by simp; omega
  obtain ⟨acc, k, er⟩ := R
  simp only at HL HW HR0 HR1 HD
  go_enter Try.func4, Try.ntmps4
  go_wp2_with fail
  refine HD.out.mono ?_
  rintro e w1 ⟨v', rfl, ⟨u, rfl, ho⟩, x1⟩
  have HO := Lib.hid ho
  have X1 := Lib.hid x1
  clear ho x1
  by_cases he : er = 0
  · subst he
    obtain rfl : k = 0 := HR0.out rfl
    obtain ⟨q, hq⟩ := HL.out rfl
    obtain ⟨A1, c1, rfl, hc1, hm1⟩ := HO.out.slice
    unfold maxLen at hm1
    have HQ := Lib.hid hq
    have HO' : Hid (OwnI w.heap.size w1 (.slice A1 (q + 1) c1) acc) := by rw [hq] at HO; exact HO
    rw [hq] at hc1 ⊢
    clear hq
    have HG := Lib.hid (astray_any (.slice A1 (q + 1) c1) acc w1 HO'.out.row (HW.out rfl))
    obtain ⟨F, hF⟩ : ∃ F, firstNot (good acc) acc = F := ⟨_, rfl⟩
    obtain ⟨fa, fb⟩ := F
    rw [hF] at HG
    cases fb
    · have HT := Lib.hid (HZ.out.trans (cutL_end rfl hF HQ.out))
      clear hF
      obtain ⟨b1, o1, rfl, hat⟩ := HO'.out.row.at (by have := HQ.out; omega)
      obtain ⟨v1, v2, hat⟩ := hat q (by have := HQ.out; omega)
      obtain ⟨A3, c3, rfl, -⟩ := (hat _ (Ext.refl w1)).2.1
      obtain ⟨A4, c4, rfl, -⟩ := (hat _ (Ext.refl w1)).2.2
      have HA := Lib.hid hat
      obtain ⟨x, hx⟩ : ∃ x, gn acc q = x := ⟨_, rfl⟩
      rw [hx] at HA HT
      have hwq : IntKind.i64.wrap (((q + 1 : Nat) : Int) - 1) = q := by rw [IntKind.wrap_i64]; omega
      have HB' := Lib.hid (fun (W0 W : World) e => boxed (w := W0) (W := W) (x := x) (v1 := .slice A3 x.to.length c3) (v2 := .slice A4 x.ks.length c4) e)
      unfold In.vals at HB'
      clear hat hx
      go_wp2_with fail
      refine HG.out.mono ?_
      rintro e w2 ⟨rfl, x2⟩
      obtain ⟨y0, y1, y2, y3, y4, y5⟩ := (HA.out _ x2).1
      have X2 := Lib.hid x2
      clear x2
      have HN := Lib.hid (fun W => Ends_any x.o W)
      by_cases he : endsZ x.o = true
      · rw [he] at HN HT
        clear he
        go_wp2_with fail
        refine (HN.out _).mono ?_
        rintro e w3 ⟨rfl, x3⟩
        go_wp2
        go_ret3
        exact Ret.mk (CutAns.good (HT.out.trans (if_pos trivial)) (HO'.out.ext ((X2.out.alloc _).trans x3))) (((X1.out.trans X2.out).alloc _).trans x3)
      · have he' : endsZ x.o = false := by simpa using he
        rw [he'] at HN HT
        clear he he'
        go_wp2_with fail
        refine (HN.out _).mono ?_
        rintro e w3 ⟨rfl, x3⟩
        obtain ⟨d0, d1, d2, d3, d4, d5⟩ := HB'.out w2 w3 x3
        go_wp2
        go_quiet (fail)
        go_wp2
        go_ret3
        exact Ret.mk (CutAns.bad (HT.out.trans (if_neg (by simp)))) ((((X1.out.trans X2.out).alloc _).trans x3).drewN _)
    · have HT := Lib.hid (HZ.out.trans (cutL_astray rfl hF))
      clear hF
      go_wp2_with fail
      refine HG.out.mono ?_
      rintro e w2 ⟨rfl, x2⟩
      go_wp2
      go_ret3
      exact Ret.mk (CutAns.bad HT.out) (X1.out.trans x2)
  · obtain rfl : acc = [] := HR1.out he
    have hb : (er != 0) = true := by simpa using he
    have HT := Lib.hid (HZ.out.trans (cutL_bad (b := b) rfl he))
    clear he
    go_wp2
    go_ret3
    exact Ret.mk (CutAns.bad HT.out) X1.out
end Go.Proofs.Ythobicnhophdlaa
/- The document's Same of lists of instructions. (gen_codeg.py) -/
namespace Go.Proofs.Ythobicnhophdlaa
open Go.RowKit
set_option linter.unusedVariables false

theorem conj12 {a b c d e f g h i j k l : Prop} (p : a ∧ b ∧ c ∧ d ∧ e ∧ f) (q : g ∧ h ∧ i ∧ j ∧ k ∧ l) : a ∧ b ∧ c ∧ d ∧ e ∧ f ∧ g ∧ h ∧ i ∧ j ∧ k ∧ l := by
  obtain ⟨p1, p2, p3, p4, p5, p6⟩ := p
  exact ⟨p1, p2, p3, p4, p5, p6, q⟩
theorem take_next_ne {l m : List In} {k : Nat} (hl : k < l.length) (hm : k < m.length) (h : ¬ gn l k = gn m k) : ¬ l = m := fun e => h (by rw [e])
theorem take_next_eq {l m : List In} {k : Nat} (hl : k < l.length) (hm : k < m.length) (h : l.take k = m.take k) (hg : gn l k = gn m k) : l.take (k + 1) = m.take (k + 1) := by
  rw [List.take_succ_eq_append_getElem hl, List.take_succ_eq_append_getElem hm, h, ← gn_get hl, ← gn_get hm, hg]
set_option maxRecDepth 100000 in
set_option maxHeartbeats 4000000 in
theorem refSameL_any (v1 v2 : Value) (l1 l2 : List In) (w : World) (h1 : RowI w v1 l1) (h2 : RowI w v2 l2) :
    Calls Try.prog 7 #[v1, v2] w fun e w' => e = .returned (.bool (decide (l1 = l2))) ∧ Ext w w' := by
  have H1 := Lib.hid h1
  have H2 := Lib.hid h2
  obtain ⟨A, c, rfl, hc, hm, -⟩ := h1.cut
  obtain ⟨A', c', rfl, hc', hm', -⟩ := h2.cut
  unfold maxLen at hm hm'
  by_cases hl : l1.length = l2.length
  · obtain ⟨n, hn⟩ : ∃ n, n = l1.length := ⟨_, rfl⟩
    rw [← hl, ← hn] at hc' H2
    rw [← hn] at hc H1
    rw [← hl, ← hn]
    have Hn := Lib.hid hn
    have Hl := Lib.hid hl
    clear hn hl h1 h2
    go_enter Try.func7, Try.ntmps7
    go_wp2
    go_loopw [5] (fun i wr => ∃ (k : Nat), i = .int .i64 k ∧ k ≤ n ∧ Hid (l1.take k = l2.take k) ∧ Hid (Ext w wr)) (fun i _ => n - (intOf i).toNat)
    case atStart => exact ⟨0, rfl, by omega, Lib.hid rfl, Lib.hid (Ext.refl w)⟩
    case round =>
      obtain ⟨k, rfl, hk, HT, HX⟩ := hrel
      by_cases hlt : k < n
      · have hk1 : k < l1.length := by have := Hn.out; omega
        have hk2 : k < l2.length := by have := Hn.out; have := Hl.out; omega
        obtain ⟨b1, o1, rfl, hat1⟩ := H1.out.at (by omega)
        obtain ⟨u1, u2, hat1⟩ := hat1 k hk1
        obtain ⟨b2, o2, rfl, hat2⟩ := H2.out.at (by omega)
        obtain ⟨u3, u4, hat2⟩ := hat2 k hk2
        obtain ⟨A1, c1, rfl, -⟩ := (hat1 _ HX.out).2.1
        obtain ⟨A2, c2, rfl, -⟩ := (hat1 _ HX.out).2.2
        obtain ⟨A3, c3, rfl, -⟩ := (hat2 _ HX.out).2.1
        obtain ⟨A4, c4, rfl, -⟩ := (hat2 _ HX.out).2.2
        have hN := take_next_eq hk1 hk2 HT.out
        have hM := take_next_ne hk1 hk2
        obtain ⟨x, hx⟩ : ∃ x, gn l1 k = x := ⟨_, rfl⟩
        obtain ⟨y, hy⟩ : ∃ y, gn l2 k = y := ⟨_, rfl⟩
        rw [hx, hy] at hN hM
        rw [hx] at hat1
        rw [hy] at hat2
        have HA1 := Lib.hid hat1
        have HA2 := Lib.hid hat2
        have HS := Lib.hid (fun W (e : Ext w W) => refSame_any x y _ _ _ _ W (hat1 W e).2.1 (hat1 W e).2.2 (hat2 W e).2.1 (hat2 W e).2.2)
        have HF : ∀ W, Ext w W → W.cell? ⟨b1, o1 + k * 6, none⟩ = some (.int .i64 x.a) ∧ W.cell? ⟨b1, o1 + k * 6 + 1, none⟩ = some (.int .i64 x.o) ∧ W.cell? ⟨b1, o1 + k * 6 + 2, none⟩ = some (.int .i64 x.n) ∧ W.cell? ⟨b1, o1 + k * 6 + 3, none⟩ = some (.int .i64 x.m) ∧ W.cell? ⟨b1, o1 + k * 6 + 4, none⟩ = some ((.slice A1 x.to.length c1)) ∧ W.cell? ⟨b1, o1 + k * 6 + 5, none⟩ = some ((.slice A2 x.ks.length c2)) ∧ W.cell? ⟨b2, o2 + k * 6, none⟩ = some (.int .i64 y.a) ∧ W.cell? ⟨b2, o2 + k * 6 + 1, none⟩ = some (.int .i64 y.o) ∧ W.cell? ⟨b2, o2 + k * 6 + 2, none⟩ = some (.int .i64 y.n) ∧ W.cell? ⟨b2, o2 + k * 6 + 3, none⟩ = some (.int .i64 y.m) ∧ W.cell? ⟨b2, o2 + k * 6 + 4, none⟩ = some ((.slice A3 y.to.length c3)) ∧ W.cell? ⟨b2, o2 + k * 6 + 5, none⟩ = some ((.slice A4 y.ks.length c4)) := fun W e => conj12 (hat1 W e).1 (hat2 W e).1
        have f0 := HF wr.drew HX.out.drew
        have HFF := Lib.hid HF
        have e1 := HX.out.drew
        unfold In.vals at HS
        have HN := Lib.hid hN
        have HM := Lib.hid hM
        clear hat1 hat2 hx hy hN hM HF
        obtain ⟨r, hr⟩ : ∃ r, decide (x = y) = r := ⟨_, rfl⟩
        rw [hr] at HS
        have HR := Lib.hid hr
        clear hr
        go_wp2_with fail
        go_region_held3 (fun w' => w'.cell? ⟨b1, o1 + k * 6, none⟩ = some (.int .i64 x.a) ∧ w'.cell? ⟨b1, o1 + k * 6 + 1, none⟩ = some (.int .i64 x.o) ∧ w'.cell? ⟨b1, o1 + k * 6 + 2, none⟩ = some (.int .i64 x.n) ∧ w'.cell? ⟨b1, o1 + k * 6 + 3, none⟩ = some (.int .i64 x.m) ∧ w'.cell? ⟨b1, o1 + k * 6 + 4, none⟩ = some ((.slice A1 x.to.length c1)) ∧ w'.cell? ⟨b1, o1 + k * 6 + 5, none⟩ = some ((.slice A2 x.ks.length c2)) ∧ w'.cell? ⟨b2, o2 + k * 6, none⟩ = some (.int .i64 y.a) ∧ w'.cell? ⟨b2, o2 + k * 6 + 1, none⟩ = some (.int .i64 y.o) ∧ w'.cell? ⟨b2, o2 + k * 6 + 2, none⟩ = some (.int .i64 y.n) ∧ w'.cell? ⟨b2, o2 + k * 6 + 3, none⟩ = some (.int .i64 y.m) ∧ w'.cell? ⟨b2, o2 + k * 6 + 4, none⟩ = some ((.slice A3 y.to.length c3)) ∧ w'.cell? ⟨b2, o2 + k * 6 + 5, none⟩ = some ((.slice A4 y.ks.length c4))) (first | with_reducible assumption) (first
          | (go_at_call 13; (with_reducible refine (HS.out _ e1).mono ?_); rintro e w2 ⟨rfl, x2⟩; have f1 := HFF.out w2 (e1.trans x2)))
        cases r
        · have HE := Lib.hid (decide_eq_false (HM.out (of_decide_eq_false HR.out)))
          go_wp2
          go_ret
          exact ⟨by rw [HE.out]; rfl, e1.trans x2⟩
        · have HE := Lib.hid (HN.out (of_decide_eq_true HR.out))
          clear f0 f1
          go_wp2_with fail
          go_roundw
          case rel => exact ⟨k + 1, by go_num, by omega, HE, Lib.hid (e1.trans x2)⟩
          case measure => simp [intOf]; omega
      · have HE := Lib.hid (decide_eq_true (show l1 = l2 by
          have := HT.out
          rwa [List.take_of_length_le (by have := Hn.out; omega), List.take_of_length_le (by have := Hn.out; have := Hl.out; omega)] at this))
        go_wp2
        go_ret
        exact ⟨by rw [HE.out]; rfl, HX.out⟩
  · have hb : ((l1.length : Int) != (l2.length : Int)) = true := by simp; omega
    have HE := Lib.hid (decide_eq_false (show ¬ l1 = l2 from fun e => hl (by rw [e])))
    clear h1 h2 hl
    go_enter Try.func7, Try.ntmps7
    go_wp2
    go_ret
    exact ⟨by rw [HE.out]; rfl, Ext.refl w⟩
end Go.Proofs.Ythobicnhophdlaa
