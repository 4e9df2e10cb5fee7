/- Several texts of this proof, one behind the other. -/
import Derived.Test.YtokmeomjdpfknaaGreatDoorZbAB
import Derived.Test.YtokmeomjdpfknaaGreatDoorZbM
import Derived.Test.YtokmeomjdpfknaaGreatDoorZbAA
import Derived.Deep.RegionHeld3
import Derived.BigQuiet
namespace Go.Proofs.YtokmeomjdpfknaaGreatDoor
open Go.RowKit
set_option linter.unusedVariables false
set_option maxRecDepth 100000 in
set_option maxHeartbeats 8000000 in
theorem constFits_any (x : In) (v1 v2 : Value) (vp : Value) (pool : List Cst) (w : World) (h1 : Row w .i64 v1 x.to) (h2 : Row w .i64 v2 x.ks) (hp : ShC.Row w vp pool) (hm : mayI x = true) :
    Calls Tryz.prog 205 #[.agg (x.vals v1 v2), vp] w fun e w' => e = .returned (.bool (cfitZ pool x)) ∧ Ext w w' := by
  obtain ⟨a, o, n, m, tt, ks⟩ := x
  obtain ⟨A1, k1, rfl, -⟩ := h1
  obtain ⟨A2, k2, rfl, -⟩ := h2
  obtain ⟨Ap, cp, rfl, -⟩ := hp.cut
  have HC := Lib.hid (fun vk l W (e : Ext w W) (hk : Row W .i64 vk l) => isConst_any _ pool n vk l W (hp.ext e) hk)
  simp only at *
  unfold In.vals
  simp only
  clear hp
  rcases opcase_all o with H0 | H1 | H2 | H3 | H4 | H5 | HG
  · rw [cfitZ_any (x := ⟨a, o, n, m, tt, ks⟩) (by simp only; omega)]
    clear hm
    rcases H0 with rfl | rfl
    all_goals
      go_enter Tryz.func205, Tryz.ntmps205
      go_wp2
      go_ret
      exact ⟨rfl, (Ext.refl w).alloc _⟩
  · rw [cfitZ_any (x := ⟨a, o, n, m, tt, ks⟩) (by simp only; omega)]
    clear hm
    rcases H1 with rfl | rfl | rfl | rfl | rfl
    all_goals
      go_enter Tryz.func205, Tryz.ntmps205
      go_wp2
      go_ret
      exact ⟨rfl, (Ext.refl w).alloc _⟩
  · rw [cfitZ_ldc (x := ⟨a, o, n, m, tt, ks⟩) H2]
    clear hm
    subst H2
    all_goals
      have HK := Lib.hid (fun vk W (e : Ext w W) hk => HC.out vk [2, 3] W e hk)
      rw [isKs_two] at HK
      go_enter Tryz.func205, Tryz.ntmps205
      go_wp2_with fail
      refine (HK.out (.slice (some ⟨w.heap.size + 1, 0, none⟩) 2 2) _ (((Ext.refl w).alloc _).alloc _) (row_lit2 w _ _ 2 3 (by decide) (by decide))).mono ?_
      rintro e w1 ⟨rfl, rfl⟩
      go_wp2
      go_ret
      exact ⟨rfl, ((Ext.refl w).alloc _).alloc _⟩
  · rw [cfitZ_fld (x := ⟨a, o, n, m, tt, ks⟩) H3]
    clear hm
    rcases H3 with rfl | rfl | rfl | rfl
    all_goals
      have HK := Lib.hid (fun vk W (e : Ext w W) hk => HC.out vk [5] W e hk)
      rw [isKs_one] at HK
      go_enter Tryz.func205, Tryz.ntmps205
      go_wp2_with fail
      refine (HK.out (.slice (some ⟨w.heap.size + 1, 0, none⟩) 1 1) _ (((Ext.refl w).alloc _).alloc _) (row_lit1 w _ _ 5 (by decide))).mono ?_
      rintro e w1 ⟨rfl, rfl⟩
      go_wp2
      go_ret
      exact ⟨rfl, ((Ext.refl w).alloc _).alloc _⟩
  · rw [cfitZ_cls (x := ⟨a, o, n, m, tt, ks⟩) H4]
    clear hm
    rcases H4 with rfl | rfl | rfl | rfl
    all_goals
      have HK := Lib.hid (fun vk W (e : Ext w W) hk => HC.out vk [4] W e hk)
      rw [isKs_one] at HK
      go_enter Tryz.func205, Tryz.ntmps205
      go_wp2_with fail
      refine (HK.out (.slice (some ⟨w.heap.size + 1, 0, none⟩) 1 1) _ (((Ext.refl w).alloc _).alloc _) (row_lit1 w _ _ 4 (by decide))).mono ?_
      rintro e w1 ⟨rfl, rfl⟩
      go_wp2
      go_ret
      exact ⟨rfl, ((Ext.refl w).alloc _).alloc _⟩
  · rw [cfitZ_mth (x := ⟨a, o, n, m, tt, ks⟩) H5]
    clear hm
    rcases H5 with rfl | rfl | rfl | rfl
    all_goals
      have HK := Lib.hid (fun vk W (e : Ext w W) hk => HC.out vk [6] W e hk)
      rw [isKs_one] at HK
      go_enter Tryz.func205, Tryz.ntmps205
      go_wp2_with fail
      refine (HK.out (.slice (some ⟨w.heap.size + 1, 0, none⟩) 1 1) _ (((Ext.refl w).alloc _).alloc _) (row_lit1 w _ _ 6 (by decide))).mono ?_
      rintro e w1 ⟨rfl, rfl⟩
      go_wp2
      go_ret
      exact ⟨rfl, ((Ext.refl w).alloc _).alloc _⟩
  · rw [cfitZ_any (x := ⟨a, o, n, m, tt, ks⟩) (by simp only; omega)]
    clear hm
    have e3 : (o == 3) = false := by simp; omega
    have e61 : (o == 61) = false := by simp; omega
    have e62 : (o == 62) = false := by simp; omega
    have e63 : (o == 63) = false := by simp; omega
    have e64 : (o == 64) = false := by simp; omega
    have e65 : (o == 65) = false := by simp; omega
    have e68 : (o == 68) = false := by simp; omega
    have e76 : (o == 76) = false := by simp; omega
    have e77 : (o == 77) = false := by simp; omega
    have e79 : (o == 79) = false := by simp; omega
    have e80 : (o == 80) = false := by simp; omega
    have e81 : (o == 81) = false := by simp; omega
    have e82 : (o == 82) = false := by simp; omega
    clear HG
    go_enter Tryz.func205, Tryz.ntmps205
    go_wp2
    go_ret
    exact ⟨rfl, (Ext.refl w).alloc _⟩
end Go.Proofs.YtokmeomjdpfknaaGreatDoor
namespace Go.Proofs.YtokmeomjdpfknaaGreatDoor
open Go.RowKit
set_option linter.unusedVariables false

def One (w : World) (g : Nat) (u : Value) : Prop := w.cell? ⟨g, 0, none⟩ = some u ∧ g < w.heap.size
theorem One.ext {w w' : World} {g : Nat} {u : Value} (h : One w g u) (e : Ext w w') : One w' g u := ⟨(e.cell (p := ⟨g, 0, none⟩) h.2).trans h.1, Nat.lt_of_lt_of_le h.2 e.size⟩
theorem One.new (w : World) (u : Value) (T : TypeId) : One (w.alloc (.cells #[u] T)) w.heap.size u := by
  refine ⟨?_, by simp⟩
  rw [cell_of_row _ w.heap.size 0 _ T (0, 0) (heap_alloc_new w _)]
  rfl
theorem One.new2 (w : World) (X : Obj) (u : Value) (T : TypeId) : One ((w.alloc X).alloc (.cells #[u] T)) (w.heap.size + 1) u := by
  have h := One.new (w.alloc X) u T
  rwa [show (w.alloc X).heap.size = w.heap.size + 1 by simp] at h
set_option maxRecDepth 100000 in
set_option maxHeartbeats 4000000 in
theorem unfit1_any (x : In) (v1 v2 : Value) (gl gp : Nat) (lo : Int) (vp : Value) (pool : List Cst) (w : World) (h1 : Row w .i64 v1 x.to) (h2 : Row w .i64 v2 x.ks) (hl : One w gl (.int .i64 lo)) (hg : One w gp vp) (hp : ShC.Row w vp pool) (hm : mayI x = true) :
    Calls Tryz.prog 203 #[.agg (x.vals v1 v2), .pointer (some ⟨gl, 0, none⟩), .pointer (some ⟨gp, 0, none⟩)] w fun e w' => e = .returned (.bool (fitZ lo pool x)) ∧ Ext w w' := by
  have HL := Lib.hid (fun W (e : Ext w W) => localFits_any x v1 v2 lo W (h1.ext e) (h2.ext e) hm)
  have HC := Lib.hid (fun W (e : Ext w W) => constFits_any x v1 v2 vp pool W (h1.ext e) (h2.ext e) (hp.ext e) hm)
  have HG := Lib.hid hg
  rw [fitZ_both]
  obtain ⟨A1, k1, rfl, -⟩ := h1
  obtain ⟨A2, k2, rfl, -⟩ := h2
  obtain ⟨Ap, cp, rfl, -⟩ := hp.cut
  have HB := Lib.hid (fun W e => boxed (w := w) (W := W) (x := x) (v1 := .slice A1 x.to.length k1) (v2 := .slice A2 x.ks.length k2) e)
  obtain ⟨d0, d1, d2, d3, d4, d5⟩ := HB.out _ (Ext.refl _)
  obtain ⟨r1, hr1⟩ : ∃ r, lfitZ lo x = r := ⟨_, rfl⟩
  obtain ⟨r2, hr2⟩ : ∃ r, cfitZ pool x = r := ⟨_, rfl⟩
  rw [hr1] at HL ⊢
  rw [hr2] at HC ⊢
  obtain ⟨y0, hlt⟩ := hl
  have hne : ¬ gl = w.heap.size := by omega
  unfold In.vals at HL HC HB d0 d1 d2 d3 d4 d5 ⊢
  clear hr1 hr2 hm hp hg
  go_enter Tryz.func203, Tryz.ntmps203
  go_wp2_with fail
  refine (HL.out _ ((Ext.refl w).alloc _)).mono ?_
  rintro e w1 ⟨rfl, x1⟩
  have X1 := Lib.hid x1
  clear x1 d0 d1 d2 d3 d4 d5 y0
  cases r1
  · go_wp2
    go_ret
    exact ⟨rfl, ((Ext.refl w).alloc _).trans X1.out⟩
  · obtain ⟨d0, d1, d2, d3, d4, d5⟩ := HB.out _ X1.out
    have z0 := (HG.out.ext (((Ext.refl w).alloc _).trans X1.out)).1
    go_wp2_with fail
    refine (HC.out _ (((Ext.refl w).alloc _).trans X1.out)).mono ?_
    rintro e w2 ⟨rfl, x2⟩
    go_wp2
    go_ret
    exact ⟨by simp, (((Ext.refl w).alloc _).trans X1.out).trans x2⟩
set_option maxRecDepth 100000 in
set_option maxHeartbeats 4000000 in
theorem unfit_any (v : Value) (l : List In) (lo : Int) (vp : Value) (pool : List Cst) (w : World) (h : RowI w v l) (hp : ShC.Row w vp pool) (hm : ∀ x ∈ l, mayI x = true) :
    Calls Tryz.prog 171 #[v, .int .i64 lo, vp] w fun e w' => e = .returned (.tuple #[.int .i64 (firstNot (fitZ lo pool) l).1, .bool (firstNot (fitZ lo pool) l).2]) ∧ Ext w w' := by
  have HF := Lib.hid (fun W (e : Ext w W) g1 g2 (o1 : One W g1 (.int .i64 lo)) (o2 : One W g2 vp) => firstBut_any 203 #[.pointer (some ⟨g1, 0, none⟩), .pointer (some ⟨g2, 0, none⟩)] (fitZ lo pool) v l W (h.ext e) (fun args W => Tryz.call203 args W)
    (fun W' e' x hx v1 v2 h1 h2 => unfit1_any x v1 v2 g1 g2 lo vp pool W' h1 h2 (o1.ext e') (o2.ext e') (hp.ext (e.trans e')) (hm x hx)))
  obtain ⟨A, c, rfl, -⟩ := h.cut
  obtain ⟨Ap, cp, rfl, -⟩ := hp.cut
  obtain ⟨F, hF⟩ : ∃ F, firstNot (fitZ lo pool) l = F := ⟨_, rfl⟩
  rw [hF] at HF ⊢
  clear h hp hm hF
  go_enter Tryz.func171, Tryz.ntmps171
  go_wp2_with fail
  refine (HF.out _ (((Ext.refl w).alloc _).alloc _) w.heap.size (w.heap.size + 1) ((One.new w _ _).ext ((Ext.refl _).alloc _)) (One.new2 w _ _ _)).mono ?_
  rintro e w2 ⟨rfl, x2⟩
  go_wp2
  go_ret2
  exact ⟨rfl, (((Ext.refl w).alloc _).alloc _).trans x2⟩
set_option maxRecDepth 100000 in
set_option maxHeartbeats 4000000 in
theorem roomFits_any (m : Me) (va vc vh : Value) (w : World) (h : MeAt w m va vc vh) :
    Calls Tryz.prog 172 #[.agg (m.vals va vc vh)] w fun e w' => e = .returned (.bool (roomZ m)) ∧ Ext w w' := by
  obtain ⟨Aa, ca, rfl, -⟩ := h.1.cut
  obtain ⟨Ac, cc, rfl, -⟩ := id h.2.1
  obtain ⟨Ah, ch, rfl, -⟩ := h.2.2.cut
  unfold Me.vals roomZ
  clear h
  by_cases h1 : 0 ≤ m.sk
  · by_cases h2 : m.sk ≤ 255
    · by_cases h3 : 0 ≤ m.lo
      · rw [show decide (0 ≤ m.sk ∧ m.sk ≤ 255 ∧ 0 ≤ m.lo ∧ m.lo ≤ 255) = decide (m.lo ≤ 255) by simp [h1, h2, h3]]
        go_enter Tryz.func172, Tryz.ntmps172
        go_wp2
        go_ret
        exact ⟨rfl, (Ext.refl w).alloc _⟩
      · rw [show decide (0 ≤ m.sk ∧ m.sk ≤ 255 ∧ 0 ≤ m.lo ∧ m.lo ≤ 255) = false by simp [h3]]
        go_enter Tryz.func172, Tryz.ntmps172
        go_wp2
        go_ret
        exact ⟨rfl, (Ext.refl w).alloc _⟩
    · rw [show decide (0 ≤ m.sk ∧ m.sk ≤ 255 ∧ 0 ≤ m.lo ∧ m.lo ≤ 255) = false by simp [h2]]
      go_enter Tryz.func172, Tryz.ntmps172
      go_wp2
      go_ret
      exact ⟨rfl, (Ext.refl w).alloc _⟩
  · rw [show decide (0 ≤ m.sk ∧ m.sk ≤ 255 ∧ 0 ≤ m.lo ∧ m.lo ≤ 255) = false by simp [h1]]
    go_enter Tryz.func172, Tryz.ntmps172
    go_wp2
    go_ret
    exact ⟨rfl, (Ext.refl w).alloc _⟩
end Go.Proofs.YtokmeomjdpfknaaGreatDoor
namespace Go.Proofs.YtokmeomjdpfknaaGreatDoor
open Go.RowKit
set_option linter.unusedVariables false

set_option maxRecDepth 100000 in
set_option maxHeartbeats 4000000 in
theorem hand1_any (h : Hd) (f g gm gp : Nat) (l : List In) (m : Me) (va vc vh vp : Value) (pool : List Cst) (w : World) (hf : FB w f g) (hg : BG w g l) (ha : Within l) (hm : MeB w gm m va vc vh) (hmr : MeAt w m va vc vh) (hpv : One w gp vp) (hp : ShC.Row w vp pool) :
    Calls Tryz.prog 207 #[.agg h.vals, .pointer (some ⟨f, 0, none⟩), .pointer (some ⟨gm, 0, none⟩), .pointer (some ⟨gp, 0, none⟩)] w fun e w' => e = .returned (.bool (handZ l m.code.length pool h)) ∧ Ext w w' := by
  obtain ⟨xf, xt, xa, xc⟩ := h
  have HB := Lib.hid (fun t => begins_any t g l (w.alloc (.cells #[.int .i64 xf, .int .i64 xt, .int .i64 xa, .int .i64 xc] 58)) (hg.ext ((Ext.refl w).alloc _)) ha)
  have HC := Lib.hid (fun vk W (e : Ext w W) (hk : Row W .i64 vk [4]) => isConst_any vp pool xc vk [4] W (hp.ext e) hk)
  have hb1 := HB.out xf
  have hb2 := HB.out xa
  have hb3 := HB.out xt
  rw [isKs_one] at HC
  obtain ⟨r1, hr1⟩ : ∃ r, hasAt l xf = r := ⟨_, rfl⟩
  obtain ⟨r2, hr2⟩ : ∃ r, hasAt l xa = r := ⟨_, rfl⟩
  obtain ⟨r3, hr3⟩ : ∃ r, hasAt l xt = r := ⟨_, rfl⟩
  obtain ⟨r4, hr4⟩ : ∃ r, isKZ pool xc 4 4 = r := ⟨_, rfl⟩
  obtain ⟨n, hn⟩ : ∃ n, m.code.length = n := ⟨_, rfl⟩
  obtain ⟨Z, hZ⟩ : ∃ Z, handZ l m.code.length pool ⟨xf, xt, xa, xc⟩ = Z := ⟨_, rfl⟩
  have HZ : Hid (Z = (r1 && (r2 && (decide (xf < xt) && ((r3 || decide (xt = (n : Int))) && (decide (xc = 0) || r4)))))) := Lib.hid (by rw [← hZ]; unfold handZ; rw [hr1, hr2, hr3, hr4, hn])
  rw [hr1] at hb1
  rw [hr2] at hb2
  rw [hr3] at hb3
  rw [hr4] at HC
  rw [hZ]
  have H1 := Lib.hid hb1
  have H2 := Lib.hid hb2
  have H3 := Lib.hid hb3
  obtain ⟨Ac, cc, rfl, -⟩ := id hmr.2.1
  obtain ⟨Ap, cp, rfl, -⟩ := hp.cut
  have yf := hf.cell
  have ym := hm.cells.2.2.2.2.2.2.2.2.1
  have yp := hpv.1
  have lf := lt_of_get hf
  have lm := hm.lt
  have lp := hpv.2
  have nf : ¬ f = w.heap.size := by omega
  have nm : ¬ gm = w.heap.size := by omega
  have np : ¬ gp = w.heap.size := by omega
  rw [hn] at ym
  unfold Hd.vals
  clear hb1 hb2 hb3 hr1 hr2 hr3 hr4 hn hZ hf hg ha hm hmr hpv hp HB
  go_enter Tryz.func207, Tryz.ntmps207
  go_wp2_with fail
  refine H1.out.mono ?_
  rintro e w1 ⟨rfl, rfl⟩
  cases r1
  · go_wp2
    go_ret
    exact ⟨by rw [HZ.out]; rfl, (Ext.refl w).alloc _⟩
  go_wp2_with fail
  refine H2.out.mono ?_
  rintro e w1 ⟨rfl, rfl⟩
  cases r2
  · go_wp2
    go_ret
    exact ⟨by rw [HZ.out]; rfl, (Ext.refl w).alloc _⟩
  by_cases hlt : xf < xt
  case neg =>
    rw [decide_eq_false hlt] at HZ
    go_wp2
    go_ret
    exact ⟨by rw [HZ.out]; rfl, (Ext.refl w).alloc _⟩
  rw [decide_eq_true hlt] at HZ
  go_wp2_with fail
  refine H3.out.mono ?_
  rintro e w1 ⟨rfl, rfl⟩
  have last : ∀ (s : Bool), r3 = s → (s = true ∨ (s = false ∧ (xt == (n : Int)) = true)) → (r3 || decide (xt = (n : Int))) = true := by
    rintro s rfl (h | ⟨h, h2⟩)
    · rw [h]; rfl
    · rw [h]; simpa using h2
  cases r3
  · by_cases htn : xt = (n : Int)
    · have bt : (xt == (n : Int)) = true := by simpa using htn
      rw [decide_eq_true htn] at HZ
      clear last htn
      by_cases hc : xc = 0
      · have bc : (xc == 0) = true := by simpa using hc
        rw [decide_eq_true hc] at HZ
        clear hc
        go_wp2
        go_ret
        exact ⟨by rw [HZ.out]; rfl, (Ext.refl w).alloc _⟩
      · have bc : (xc == 0) = false := by simpa using hc
        rw [decide_eq_false hc] at HZ
        clear hc
        go_wp2_with fail
        refine (HC.out (.slice (some ⟨w.heap.size + 1, 0, none⟩) 1 1) _ (((Ext.refl w).alloc _).alloc _) (row_lit1 w _ _ 4 (by decide))).mono ?_
        rintro e w1 ⟨rfl, rfl⟩
        go_wp2
        go_ret
        exact ⟨by rw [HZ.out]; simp, ((Ext.refl w).alloc _).alloc _⟩
    · have bt : (xt == (n : Int)) = false := by simpa using htn
      rw [decide_eq_false htn] at HZ
      clear last htn
      go_wp2
      go_ret
      exact ⟨by rw [HZ.out]; simp, (Ext.refl w).alloc _⟩
  · clear last
    by_cases hc : xc = 0
    · have bc : (xc == 0) = true := by simpa using hc
      rw [decide_eq_true hc] at HZ
      clear hc
      go_wp2
      go_ret
      exact ⟨by rw [HZ.out]; simp, (Ext.refl w).alloc _⟩
    · have bc : (xc == 0) = false := by simpa using hc
      rw [decide_eq_false hc] at HZ
      clear hc
      go_wp2_with fail
      refine (HC.out (.slice (some ⟨w.heap.size + 1, 0, none⟩) 1 1) _ (((Ext.refl w).alloc _).alloc _) (row_lit1 w _ _ 4 (by decide))).mono ?_
      rintro e w1 ⟨rfl, rfl⟩
      go_wp2
      go_ret
      exact ⟨by rw [HZ.out]; simp, ((Ext.refl w).alloc _).alloc _⟩
def FH (w : World) (f2 f gm gp : Nat) : Prop := One w f2 (.func (.func 207) #[] #[.pointer (some ⟨f, 0, none⟩), .pointer (some ⟨gm, 0, none⟩), .pointer (some ⟨gp, 0, none⟩)])
set_option maxRecDepth 100000 in
set_option maxHeartbeats 4000000 in
theorem hand2_any (h : Hd) (f2 f gm gp : Nat) (r : Bool) (w : World) (hf : FH w f2 f gm gp)
    (hc : ∀ W, Ext w W → Calls Tryz.prog 207 #[.agg h.vals, .pointer (some ⟨f, 0, none⟩), .pointer (some ⟨gm, 0, none⟩), .pointer (some ⟨gp, 0, none⟩)] W fun e w' => e = .returned (.bool r) ∧ Ext W w') :
    Calls Tryz.prog 210 #[.agg h.vals, .pointer (some ⟨f2, 0, none⟩)] w fun e w' => e = .returned (.bool (!r)) ∧ Ext w w' := by
  have HC := Lib.hid hc
  have y0 := hf.1
  have l0 := hf.2
  have n0 : ¬ f2 = w.heap.size := by omega
  unfold Hd.vals at HC ⊢
  clear hf hc
  go_enter Tryz.func210, Tryz.ntmps210
  go_wp2_with fail
  refine (HC.out _ ((Ext.refl w).alloc _)).mono ?_
  rintro e w1 ⟨rfl, x1⟩
  go_wp2
  go_ret
  exact ⟨rfl, ((Ext.refl w).alloc _).trans x1⟩
set_option maxRecDepth 100000 in
set_option maxHeartbeats 4000000 in
theorem indexH_any (fid : FuncId) (caps : Array Value) (p : Hd → Bool) (v : Value) (l : List Hd) (w : World) (h : ShH.Row w v l)
    (hc : ∀ args W, (callFunc fid args).run Tryz.prog W = .ok (.enter fid args) W)
    (hp : ∀ W, Ext w W → ∀ x ∈ l, Calls Tryz.prog fid (#[.agg x.vals] ++ caps) W fun e w' => e = .returned (.bool (p x)) ∧ Ext W w') :
    Calls Tryz.prog 241 #[v, .func (.func fid) #[] caps] w fun e w' => e = .returned (.int .i64 (idxP p l 0)) ∧ Ext w w' := by
  have H := Lib.hid h
  obtain ⟨A, c, rfl, hc0, hm, -⟩ := h.cut
  unfold maxLen at hm
  obtain ⟨n, hn⟩ : ∃ n, n = l.length := ⟨_, rfl⟩
  rw [← hn] at hc0 H ⊢
  have Hn := Lib.hid hn
  have HP := Lib.hid hp
  obtain ⟨F, hF⟩ : ∃ F, idxP p l 0 = F := ⟨_, rfl⟩
  have HF := Lib.hid hF
  rw [hF]
  clear hn h hp hF
  go_enter Tryz.func241, Tryz.ntmps241
  go_wp2
  go_loopw [8] (fun i wr => ∃ (k : Nat), i = .int .i64 k ∧ k ≤ n ∧ Hid (F = idxP p (l.drop k) k) ∧ Hid (Ext w wr)) (fun i _ => n - (intOf i).toNat)
  case atStart => exact ⟨0, rfl, by omega, Lib.hid HF.out.symm, Lib.hid (Ext.refl w)⟩
  case round =>
    obtain ⟨k, rfl, hk, HQ, HX⟩ := hrel
    by_cases hlt : k < n
    · have hkl : k < l.length := by have := Hn.out; omega
      obtain ⟨b, o, rfl, hat⟩ := rowH_at H.out (by omega)
      obtain ⟨y0, y1, y2, y3⟩ := hat _ HX.out k hkl
      have HC := Lib.hid (HP.out wr HX.out _ (gh_mem hkl))
      have hN : p (gh l k) = false → F = idxP p (l.drop (k + 1)) (k + 1) := fun e => HQ.out.trans (idxP_next (gh_some hkl) e)
      have hH : p (gh l k) = true → F = k := fun e => HQ.out.trans (idxP_here (gh_some hkl) e)
      obtain ⟨x, hx⟩ : ∃ x, gh l k = x := ⟨_, rfl⟩
      rw [hx] at y0 y1 y2 y3 HC hN hH
      unfold Hd.vals at HC
      obtain ⟨r, hr⟩ : ∃ r, p x = r := ⟨_, rfl⟩
      rw [hr] at HC hN hH
      have HN := Lib.hid hN
      have HH := Lib.hid hH
      clear hat hx hkl hr hN hH
      go_wp2_with fail
      refine HC.out.mono ?_
      rintro e w1 ⟨rfl, x1⟩
      have X1 := Lib.hid x1
      clear x1
      cases r
      · have HE := Lib.hid (HN.out rfl)
        go_wp2_with fail
        go_roundw
        case rel => exact ⟨k + 1, by go_num, by omega, HE, Lib.hid (HX.out.trans X1.out)⟩
        case measure => simp [intOf]; omega
      · have HE := Lib.hid (HH.out rfl)
        go_wp2
        go_ret
        exact ⟨by rw [HE.out]; rfl, HX.out.trans X1.out⟩
    · have HE := Lib.hid (show F = -1 by rw [HQ.out, List.drop_of_length_le (by have := Hn.out; omega)]; rfl)
      go_wp2
      go_ret
      exact ⟨by rw [HE.out]; rfl, HX.out⟩
set_option maxRecDepth 100000 in
theorem containsH_any (fid : FuncId) (caps : Array Value) (p : Hd → Bool) (v : Value) (l : List Hd) (w : World) (h : ShH.Row w v l)
    (hc : ∀ args W, (callFunc fid args).run Tryz.prog W = .ok (.enter fid args) W)
    (hp : ∀ W, Ext w W → ∀ x ∈ l, Calls Tryz.prog fid (#[.agg x.vals] ++ caps) W fun e w' => e = .returned (.bool (p x)) ∧ Ext W w') :
    Calls Tryz.prog 209 #[v, .func (.func fid) #[] caps] w fun e w' => e = .returned (.bool (l.any p)) ∧ Ext w w' := by
  have HI := Lib.hid (indexH_any fid caps p v l w h hc hp)
  rw [← idxP_any (p := p) (l := l) (k := 0)]
  obtain ⟨A, c, rfl, -⟩ := h.cut
  obtain ⟨R, hR⟩ : ∃ R, idxP p l 0 = R := ⟨_, rfl⟩
  rw [hR] at HI ⊢
  clear hR h hp
  go_enter Tryz.func209, Tryz.ntmps209
  go_wp2_with fail
  refine HI.out.mono ?_
  rintro e w1 ⟨rfl, x1⟩
  go_wp2
  go_ret
  exact ⟨rfl, x1⟩
theorem any_notH {s : List Hd} {p : Hd → Bool} : (!s.any fun t => !p t) = s.all p := by
  induction s with
  | nil => rfl
  | cons x s ih => rw [List.any_cons, List.all_cons, ← ih]; cases p x <;> simp
set_option maxRecDepth 100000 in
set_option maxHeartbeats 4000000 in
theorem handlersFit_any (v : Value) (l : List In) (m : Me) (va vc vh vp : Value) (pool : List Cst) (w : World) (h : RowI w v l) (ha : Within l) (hm : MeAt w m va vc vh) (hp : ShC.Row w vp pool) :
    Calls Tryz.prog 173 #[.agg (m.vals va vc vh), v, vp] w fun e w' => e = .returned (.bool (handsZ l m pool)) ∧ Ext w w' := by
  have HM := Lib.hid hm
  obtain ⟨A, c, rfl, -⟩ := h.cut
  obtain ⟨Aa, ca, rfl, -⟩ := hm.1.cut
  obtain ⟨Ac, cc, rfl, -⟩ := id hm.2.1
  obtain ⟨Ah, ch, rfl, hch, hmh, -⟩ := hm.2.2.cut
  unfold maxLen at hmh
  obtain ⟨Ap, cp, rfl, -⟩ := hp.cut
  have HB := Lib.hid (fun W (e : Ext w W) => beginnings_any _ l W (h.ext e) ha)
  have HMB := Lib.hid (fun W (e : Ext (w.alloc (.cells (m.vals (.slice Aa m.args.length ca) (.slice Ac m.code.length cc) (.slice Ah m.hs.length ch)) 47)) W) => (MeB.new w m (.slice Aa m.args.length ca) (.slice Ac m.code.length cc) (.slice Ah m.hs.length ch)).ext e)
  obtain ⟨q, hq⟩ : ∃ q, m.hs.length = q := ⟨_, rfl⟩
  by_cases hbig : 256 < q
  · rw [show handsZ l m pool = false by unfold handsZ; rw [decide_eq_false (by omega)]; simp]
    rw [hq]
    unfold Me.vals
    clear hm hp h ha hq
    go_enter Tryz.func173, Tryz.ntmps173
    go_wp2
    go_ret
    exact ⟨rfl, ((Ext.refl w).alloc _).alloc _⟩
  · have HF := Lib.hid (fun W (e : Ext w W) f2 f g gm gp (h2 : FH W f2 f gm gp) (hf : FB W f g) (hg : BG W g l) (hb : MeB W gm m (.slice Aa m.args.length ca) (.slice Ac m.code.length cc) (.slice Ah m.hs.length ch)) (ho : One W gp (.slice Ap pool.length cp)) =>
      containsH_any 210 #[.pointer (some ⟨f2, 0, none⟩)] (fun x => !handZ l m.code.length pool x) _ m.hs W (HM.out.2.2.ext e) (fun args W => Tryz.call210 args W)
      (fun W' e' x hx => hand2_any x f2 f gm gp _ W' (One.ext h2 e') (fun W2 e2 => hand1_any x f g gm gp l m _ _ _ _ pool W2 (hf.ext (e'.trans e2)) (hg.ext (e'.trans e2)) ha (hb.ext (e'.trans e2)) (HM.out.ext (e.trans (e'.trans e2))) (ho.ext (e'.trans e2)) (hp.ext (e.trans (e'.trans e2))))))
    rw [show handsZ l m pool = !(m.hs.any fun x => !handZ l m.code.length pool x) by unfold handsZ; rw [decide_eq_true (show m.hs.length ≤ 256 by omega), Bool.and_true, any_notH]]
    obtain ⟨r, hr⟩ : ∃ r, (m.hs.any fun x => !handZ l m.code.length pool x) = r := ⟨_, rfl⟩
    rw [hr] at HF ⊢
    rw [hq] at HF HMB ⊢
    unfold Me.vals at HMB ⊢
    clear hm hp h ha hq hr HM
    go_enter Tryz.func173, Tryz.ntmps173
    go_wp2_with fail
    refine (HB.out _ (((Ext.refl w).alloc _).alloc _)).mono ?_
    rintro e w1 ⟨g, rfl, hg, hs, x1⟩
    have X1 := Lib.hid x1
    have HG := Lib.hid hg
    clear hg x1
    have hmb := HMB.out _ (((Ext.refl _).alloc _).trans X1.out)
    have y9 := hmb.cells.2.2.2.2.2.2.2.2.2
    have hlt := hmb.lt
    have n1 : ¬ w.heap.size = w1.heap.size := by omega
    have n2 : ¬ w.heap.size = w1.heap.size + 1 := by omega
    have HM2 := Lib.hid hmb
    clear hmb
    go_wp2_with fail
    refine (HF.out _ ((((((Ext.refl w).alloc _).alloc _).trans X1.out).alloc _).alloc _) (w1.heap.size + 1) w1.heap.size g w.heap.size (w.heap.size + 1) (One.new2 w1 _ _ _) ((heap_alloc_old _ _ (by simp)).trans (heap_alloc_new w1 _)) (HG.out.ext (((Ext.refl w1).alloc _).alloc _)) (HM2.out.ext (((Ext.refl w1).alloc _).alloc _)) ((One.new2 w _ _ _).ext ((X1.out.alloc _).alloc _))).mono ?_
    rintro e w2 ⟨rfl, x2⟩
    go_wp2
    go_ret
    exact ⟨rfl, ((((((Ext.refl w).alloc _).alloc _).trans X1.out).alloc _).alloc _).trans x2⟩
end Go.Proofs.YtokmeomjdpfknaaGreatDoor
namespace Go.Proofs.YtokmeomjdpfknaaGreatDoor
open Go.RowKit
set_option linter.unusedVariables false

theorem chkL_bad {m : Me} {pool : List Cst} {R : List In × Int × Int} {a e : Int} (h : R = ([], a, e)) (he : e ≠ 0) : chkL m pool R = ([], a, e) := by
  unfold chkL
  rw [h]
  simp only
  rw [if_neg he]
theorem chkL_unfit {m : Me} {pool : List Cst} {R : List In × Int × Int} {l : List In} {F a : Int} (h : R = (l, a, 0)) (hf : firstNot (fitZ m.lo pool) l = (F, true)) : chkL m pool R = ([], F, 70) := by
  unfold chkL
  rw [h]
  simp only
  rw [if_pos trivial, hf]
  simp
theorem chkL_end {m : Me} {pool : List Cst} {R : List In × Int × Int} {l : List In} {F a : Int} (h : R = (l, a, 0)) (hf : firstNot (fitZ m.lo pool) l = (F, false)) : chkL m pool R = if roomZ m = true ∧ handsZ l m pool = true then (l, 0, 0) else ([], 0, 70) := by
  unfold chkL
  rw [h]
  simp only
  rw [if_pos trivial, hf]
  simp
theorem cut_within {b : List Int} (hb : Bytes b) {l : List In} {a e : Int} (h : cutZ b = (l, a, e)) : Within l ∧ (∀ x ∈ l, mayI x = true) ∧ l.length ≤ 8192 := by
  have h1 := cutZ_all hb
  have h2 := cutZ_len hb
  rw [h] at h1 h2
  refine ⟨fun x hx => ?_, fun x hx => (h1 x hx).1, h2⟩
  have := (may_parts (h1 x hx).1).1
  exact ⟨this.1, this.2.1⟩
theorem OwnI.base {B B' : Nat} {w : World} {v : Value} {l : List In} (h : OwnI B w v l) (hB : B' ≤ B) : OwnI B' w v l := by
  obtain ⟨es, e, ⟨⟨h1, h2⟩, hf⟩⟩ := h
  refine ⟨es, e, ⟨⟨h1, ?_⟩, fun x hx => ⟨(hf x hx).1.base hB, (hf x hx).2.base hB⟩⟩⟩
  rcases h2 with h2 | ⟨g, cap, cur, hv, hb, hr⟩
  · exact .inl h2
  · exact .inr ⟨g, cap, cur, hv, by omega, hr⟩
set_option maxRecDepth 100000 in
set_option maxHeartbeats 8000000 in
theorem Check_any (m : Me) (va vc vh vp : Value) (pool : List Cst) (w : World) (hm : MeAt w m va vc vh) (hp : ShC.Row w vp pool) :
    Calls Tryz.prog 138 #[.agg (m.vals va vc vh), vp] w (Ret w (CutAns w.heap.size (checkZ m pool))) := by
  have HM := Lib.hid hm
  have HB := Lib.hid (bytes_row hm.2.1)
  have HC := Lib.hid (fun W (e : Ext w W) => Cut_any vc m.code W (hm.2.1.ext e))
  have HU := Lib.hid (fun v l lo W (e : Ext w W) (h : RowI W v l) h2 => unfit_any v l lo vp pool W h (hp.ext e) h2)
  have HR := Lib.hid (fun W (e : Ext w W) => roomFits_any m va vc vh W (hm.ext e))
  have HF := Lib.hid (fun v l W (e : Ext w W) (h : RowI W v l) h2 => handlersFit_any v l m va vc vh vp pool W h h2 (hm.ext e) (hp.ext e))
  obtain ⟨Aa, ca, rfl, -⟩ := hm.1.cut
  obtain ⟨Ac, cc, rfl, -⟩ := id hm.2.1
  obtain ⟨Ah, ch, rfl, -⟩ := hm.2.2.cut
  obtain ⟨Ap, cp, rfl, -⟩ := hp.cut
  have HMB := Lib.hid (fun W (e : Ext (w.alloc (.cells (m.vals (.slice Aa m.args.length ca) (.slice Ac m.code.length cc) (.slice Ah m.hs.length ch)) 47)) W) => ((MeB.new w m (.slice Aa m.args.length ca) (.slice Ac m.code.length cc) (.slice Ah m.hs.length ch)).ext e).cells)
  obtain ⟨R, hR⟩ : ∃ R, cutZ m.code = R := ⟨_, rfl⟩
  obtain ⟨l, a, er⟩ := R
  have HW := Lib.hid (cut_within HB.out hR)
  have HN : Hid (er ≠ 0 → l = []) := Lib.hid (fun e => by have := cutZ_none (b := m.code) (by rw [hR]; exact e); rwa [hR] at this)
  have HZ : Hid (checkZ m pool = chkL m pool (l, a, er)) := Lib.hid (by unfold checkZ; rw [hR])
  rw [hR] at HC
  unfold Me.vals at HMB HR HF ⊢
  clear hm hp hR
  obtain ⟨y0, y1, y2, y3, y4, y5, y6, y7, y8, y9⟩ := HMB.out _ (Ext.refl _)
  go_enter Tryz.func138, Tryz.ntmps138
  go_wp2_with fail
  refine (HC.out _ ((Ext.refl w).alloc _)).mono ?_
  rintro e w1 ⟨v', rfl, ⟨u, rfl, ho⟩, x1⟩
  have HO := Lib.hid (ho.base (show w.heap.size ≤ (w.alloc (.cells #[.bool m.st, .bool m.ab, .string m.nm, .int .i64 m.ret.k, .string m.ret.s, .slice Aa m.args.length ca, .int .i64 m.sk, .int .i64 m.lo, .slice Ac m.code.length cc, .slice Ah m.hs.length ch] 47)).heap.size by simp))
  have X1 := Lib.hid x1
  clear ho x1 y0 y1 y2 y3 y4 y5 y6 y7 y8 y9
  by_cases he : er = 0
  · subst he
    obtain ⟨A1, c1, rfl, -⟩ := HO.out.slice
    obtain ⟨F, hF⟩ : ∃ F, firstNot (fitZ m.lo pool) l = F := ⟨_, rfl⟩
    obtain ⟨fa, fb⟩ := F
    have hu := HU.out _ l m.lo w1 (((Ext.refl w).alloc _).trans X1.out) HO.out.row HW.out.2.1
    rw [hF] at hu
    have HU1 := Lib.hid hu
    obtain ⟨y0, y1, y2, y3, y4, y5, y6, y7, y8, y9⟩ := HMB.out _ X1.out
    clear hu
    cases fb
    · have HE := Lib.hid (HZ.out.trans (chkL_end rfl hF))
      clear hF
      go_wp2_with fail
      refine HU1.out.mono ?_
      rintro e w2 ⟨rfl, x2⟩
      have X2 := Lib.hid (X1.out.trans x2)
      have O2 := Lib.hid (HO.out.ext x2)
      clear x2 y0 y1 y2 y3 y4 y5 y6 y7 y8 y9
      obtain ⟨y0, y1, y2, y3, y4, y5, y6, y7, y8, y9⟩ := HMB.out _ X2.out
      obtain ⟨r1, hr1⟩ : ∃ r, roomZ m = r := ⟨_, rfl⟩
      rw [hr1] at HE HR
      clear hr1
      go_wp2_with fail
      refine (HR.out _ (((Ext.refl w).alloc _).trans X2.out)).mono ?_
      rintro e w3 ⟨rfl, x3⟩
      have X3 := Lib.hid (X2.out.trans x3)
      have O3 := Lib.hid (O2.out.ext x3)
      clear x3 y0 y1 y2 y3 y4 y5 y6 y7 y8 y9
      obtain ⟨y0, y1, y2, y3, y4, y5, y6, y7, y8, y9⟩ := HMB.out _ X3.out
      cases r1
      · go_wp2
        go_ret3
        exact Ret.mk (CutAns.bad (HE.out.trans (if_neg (by simp)))) (((Ext.refl w).alloc _).trans X3.out)
      · obtain ⟨r2, hr2⟩ : ∃ r, handsZ l m pool = r := ⟨_, rfl⟩
        have hf := HF.out _ l w3 (((Ext.refl w).alloc _).trans X3.out) O3.out.row HW.out.1
        rw [hr2] at HE hf
        have HF1 := Lib.hid hf
        clear hr2 hf
        go_wp2_with fail
        refine HF1.out.mono ?_
        rintro e w4 ⟨rfl, x4⟩
        cases r2
        · go_wp2
          go_ret3
          exact Ret.mk (CutAns.bad (HE.out.trans (if_neg (by simp)))) ((((Ext.refl w).alloc _).trans X3.out).trans x4)
        · go_wp2
          go_ret3
          exact Ret.mk (CutAns.good (HE.out.trans (if_pos (by simp))) (O3.out.ext x4)) ((((Ext.refl w).alloc _).trans X3.out).trans x4)
    · have HE := Lib.hid (HZ.out.trans (chkL_unfit rfl hF))
      clear hF
      go_wp2_with fail
      refine HU1.out.mono ?_
      rintro e w2 ⟨rfl, x2⟩
      go_wp2
      go_ret3
      exact Ret.mk (CutAns.bad HE.out) ((((Ext.refl w).alloc _).trans X1.out).trans x2)
  · obtain rfl : l = [] := HN.out he
    have hb : (er != 0) = true := by simpa using he
    have HE := Lib.hid (HZ.out.trans (chkL_bad rfl he))
    clear he
    go_wp2
    go_ret3
    exact Ret.mk (CutAns.bad HE.out) (((Ext.refl w).alloc _).trans X1.out)
end Go.Proofs.YtokmeomjdpfknaaGreatDoor
