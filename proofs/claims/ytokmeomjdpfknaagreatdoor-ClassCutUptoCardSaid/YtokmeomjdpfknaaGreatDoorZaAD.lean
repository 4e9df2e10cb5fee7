/- Several texts of this proof, one behind the other. -/
import Derived.Test.YtokmeomjdpfknaaGreatDoorZaAB
import Derived.Test.YtokmeomjdpfknaaGreatDoorZaAC
import Derived.Test.YtokmeomjdpfknaaGreatDoorZaAA
import Derived.Test.YtokmeomjdpfknaaGreatDoorZaM
import Derived.Deep.RegionHeld3
import Derived.BigQuiet
import Derived.Test.YtokmeomjdpfknaaGreatDoorZaZ
/- Check, the project's and the document's, walked. (gen_codeq.py) -/
namespace Go.Proofs.YtokmeomjdpfknaaGreatDoor
open Go.RowKit
set_option linter.unusedVariables false

theorem chkL_bad {m : Me} {pool : List Cst} {R : List In × Int × Int} {a e : Int} (h : R = ([], a, e)) (he : e ≠ 0) : chkL m pool R = ([], a, e) := by
  unfold chkL
  rw [h]
  simp only
  rw [if_neg he]
theorem chkL_unfit {m : Me} {pool : List Cst} {R : List In × Int × Int} {l : List In} {F a : Int} (h : R = (l, a, 0)) (hf : firstNot (fitZ m.lo pool) l = (F, true)) : chkL m pool R = ([], F, 70) := by
  unfold chkL
  rw [h]
  simp only
  rw [if_pos trivial, hf]
  simp
theorem chkL_end {m : Me} {pool : List Cst} {R : List In × Int × Int} {l : List In} {F a : Int} (h : R = (l, a, 0)) (hf : firstNot (fitZ m.lo pool) l = (F, false)) : chkL m pool R = if roomZ m = true ∧ handsZ l m pool = true then (l, 0, 0) else ([], 0, 70) := by
  unfold chkL
  rw [h]
  simp only
  rw [if_pos trivial, hf]
  simp
theorem cut_within {b : List Int} (hb : Bytes b) {l : List In} {a e : Int} (h : cutZ b = (l, a, e)) : Within l ∧ (∀ x ∈ l, mayI x = true) ∧ l.length ≤ 8192 := by
  have h1 := cutZ_all hb
  have h2 := cutZ_len hb
  rw [h] at h1 h2
  refine ⟨fun x hx => ?_, fun x hx => (h1 x hx).1, h2⟩
  have := (may_parts (h1 x hx).1).1
  exact ⟨this.1, this.2.1⟩
theorem OwnI.base {B B' : Nat} {w : World} {v : Value} {l : List In} (h : OwnI B w v l) (hB : B' ≤ B) : OwnI B' w v l := by
  obtain ⟨es, e, ⟨⟨h1, h2⟩, hf⟩⟩ := h
  refine ⟨es, e, ⟨⟨h1, ?_⟩, fun x hx => ⟨(hf x hx).1.base hB, (hf x hx).2.base hB⟩⟩⟩
  rcases h2 with h2 | ⟨g, cap, cur, hv, hb, hr⟩
  · exact .inl h2
  · exact .inr ⟨g, cap, cur, hv, by omega, hr⟩
set_option maxRecDepth 100000 in
set_option maxHeartbeats 8000000 in
theorem Check_any (m : Me) (va vc vh vp : Value) (pool : List Cst) (w : World) (hm : MeAt w m va vc vh) (hp : ShC.Row w vp pool) :
    Calls Tryz.prog 138 #[.agg (m.vals va vc vh), vp] w (Ret w (CutAns w.heap.size (checkZ m pool))) := by
  have HM := Lib.hid hm
  have HB := Lib.hid (bytes_row hm.2.1)
  have HC := Lib.hid (fun W (e : Ext w W) => Cut_any vc m.code W (hm.2.1.ext e))
  have HU := Lib.hid (fun v l lo W (e : Ext w W) (h : RowI W v l) h2 => unfit_any v l lo vp pool W h (hp.ext e) h2)
  have HR := Lib.hid (fun W (e : Ext w W) => roomFits_any m va vc vh W (hm.ext e))
  have HF := Lib.hid (fun v l W (e : Ext w W) (h : RowI W v l) h2 => handlersFit_any v l m va vc vh vp pool W h h2 (hm.ext e) (hp.ext e))
  obtain ⟨Aa, ca, rfl, -⟩ := hm.1.cut
  obtain ⟨Ac, cc, rfl, -⟩ := id hm.2.1
  obtain ⟨Ah, ch, rfl, -⟩ := hm.2.2.cut
  obtain ⟨Ap, cp, rfl, -⟩ := hp.cut
  have HMB := Lib.hid (fun W (e : Ext (w.alloc (.cells (m.vals (.slice Aa m.args.length ca) (.slice Ac m.code.length cc) (.slice Ah m.hs.length ch)) 47)) W) => ((MeB.new w m (.slice Aa m.args.length ca) (.slice Ac m.code.length cc) (.slice Ah m.hs.length ch)).ext e).cells)
  obtain ⟨R, hR⟩ : ∃ R, cutZ m.code = R := ⟨_, rfl⟩
  obtain ⟨l, a, er⟩ := R
  have HW := Lib.hid (cut_within HB.out hR)
  have HN : Hid (er ≠ 0 → l = []) := Lib.hid (fun e => by have := cutZ_none (b := m.code) (by rw [hR]; exact e); rwa [hR] at this)
  have HZ : Hid (checkZ m pool = chkL m pool (l, a, er)) := Lib.hid (by unfold checkZ; rw [hR])
  rw [hR] at HC
  unfold Me.vals at HMB HR HF ⊢
  clear hm hp hR
  obtain ⟨y0, y1, y2, y3, y4, y5, y6, y7, y8, y9⟩ := HMB.out _ (Ext.refl _)
  go_enter Tryz.func138, Tryz.ntmps138
  go_wp2_with fail
  refine (HC.out _ ((Ext.refl w).alloc _)).mono ?_
  rintro e w1 ⟨v', rfl, ⟨u, rfl, ho⟩, x1⟩
  have HO := Lib.hid (ho.base (show w.heap.size ≤ (w.alloc (.cells #[.bool m.st, .bool m.ab, .string m.nm, .int .i64 m.ret.k, .string m.ret.s, .slice Aa m.args.length ca, .int .i64 m.sk, .int .i64 m.lo, .slice Ac m.code.length cc, .slice Ah m.hs.length ch] 47)).heap.size by simp))
  have X1 := Lib.hid x1
  clear ho x1 y0 y1 y2 y3 y4 y5 y6 y7 y8 y9
  by_cases he : er = 0
  · subst he
    obtain ⟨A1, c1, rfl, -⟩ := HO.out.slice
    obtain ⟨F, hF⟩ : ∃ F, firstNot (fitZ m.lo pool) l = F := ⟨_, rfl⟩
    obtain ⟨fa, fb⟩ := F
    have hu := HU.out _ l m.lo w1 (((Ext.refl w).alloc _).trans X1.out) HO.out.row HW.out.2.1
    rw [hF] at hu
    have HU1 := Lib.hid hu
    obtain ⟨y0, y1, y2, y3, y4, y5, y6, y7, y8, y9⟩ := HMB.out _ X1.out
    clear hu
    cases fb
    · have HE := Lib.hid (HZ.out.trans (chkL_end rfl hF))
      clear hF
      go_wp2_with fail
      refine HU1.out.mono ?_
      rintro e w2 ⟨rfl, x2⟩
      have X2 := Lib.hid (X1.out.trans x2)
      have O2 := Lib.hid (HO.out.ext x2)
      clear x2 y0 y1 y2 y3 y4 y5 y6 y7 y8 y9
      obtain ⟨y0, y1, y2, y3, y4, y5, y6, y7, y8, y9⟩ := HMB.out _ X2.out
      obtain ⟨r1, hr1⟩ : ∃ r, roomZ m = r := ⟨_, rfl⟩
      rw [hr1] at HE HR
      clear hr1
      go_wp2_with fail
      refine (HR.out _ (((Ext.refl w).alloc _).trans X2.out)).mono ?_
      rintro e w3 ⟨rfl, x3⟩
      have X3 := Lib.hid (X2.out.trans x3)
      have O3 := Lib.hid (O2.out.ext x3)
      clear x3 y0 y1 y2 y3 y4 y5 y6 y7 y8 y9
      obtain ⟨y0, y1, y2, y3, y4, y5, y6, y7, y8, y9⟩ := HMB.out _ X3.out
      cases r1
      · go_wp2
        go_ret3
        exact Ret.mk (CutAns.bad (HE.out.trans (if_neg (by simp)))) (((Ext.refl w).alloc _).trans X3.out)
      · obtain ⟨r2, hr2⟩ : ∃ r, handsZ l m pool = r := ⟨_, rfl⟩
        have hf := HF.out _ l w3 (((Ext.refl w).alloc _).trans X3.out) O3.out.row HW.out.1
        rw [hr2] at HE hf
        have HF1 := Lib.hid hf
        clear hr2 hf
        go_wp2_with fail
        refine HF1.out.mono ?_
        rintro e w4 ⟨rfl, x4⟩
        cases r2
        · go_wp2
          go_ret3
          exact Ret.mk (CutAns.bad (HE.out.trans (if_neg (by simp)))) ((((Ext.refl w).alloc _).trans X3.out).trans x4)
        · go_wp2
          go_ret3
          exact Ret.mk (CutAns.good (HE.out.trans (if_pos (by simp))) (O3.out.ext x4)) ((((Ext.refl w).alloc _).trans X3.out).trans x4)
    · have HE := Lib.hid (HZ.out.trans (chkL_unfit rfl hF))
      clear hF
      go_wp2_with fail
      refine HU1.out.mono ?_
      rintro e w2 ⟨rfl, x2⟩
      go_wp2
      go_ret3
      exact Ret.mk (CutAns.bad HE.out) ((((Ext.refl w).alloc _).trans X1.out).trans x2)
  · obtain rfl : l = [] := HN.out he
    have hb : (er != 0) = true := by simpa using he
    have HE := Lib.hid (HZ.out.trans (chkL_bad rfl he))
    clear he
    go_wp2
    go_ret3
    exact Ret.mk (CutAns.bad HE.out) (((Ext.refl w).alloc _).trans X1.out)
end Go.Proofs.YtokmeomjdpfknaaGreatDoor
/- The program's Check of classes: is there one of which something holds; all: lists that may be. (gen_clchk.py) -/
namespace Go.Proofs.YtokmeomjdpfknaaGreatDoor
open Go.RowKit
set_option linter.unusedVariables false

def mst (i : Nat) : Int := if i = 0 then 64 else 256
def Most (w : World) : Prop := 0 < w.heap.size ∧ ∀ i, i < 4 → w.cell? ⟨0, i, none⟩ = some (.int .i64 (mst i))
theorem Most.ext {w w' : World} (h : Most w) (e : Ext w w') : Most w' := ⟨Nat.lt_of_lt_of_le h.1 e.size, fun i hi => (e.cell (p := ⟨_, i, none⟩) h.1).trans (h.2 i hi)⟩
theorem gs_mem {l : List ByteArray} {j : Nat} (h : j < l.length) : gs l j ∈ l := Shp.el_mem h
theorem gs_some {l : List ByteArray} {k : Nat} (h : k < l.length) : l[k]? = some (gs l k) := by unfold gs; rw [ShS.el_get h]; simp [h]
theorem gf_mem {l : List Fd} {j : Nat} (h : j < l.length) : gf l j ∈ l := Shp.el_mem h
theorem gf_some {l : List Fd} {k : Nat} (h : k < l.length) : l[k]? = some (gf l k) := by unfold gf; rw [ShF.el_get h]; simp [h]
theorem gm_some {l : List Me} {k : Nat} (h : k < l.length) : l[k]? = some (gm l k) := by rw [gm_get h]; simp [h]
theorem any_notK {α : Type} {s : List α} {p : α → Bool} : (!s.any fun t => !p t) = s.all p := by
  induction s with
  | nil => rfl
  | cons x s ih => rw [List.any_cons, List.all_cons, ← ih]; cases p x <;> simp
set_option maxRecDepth 100000 in
set_option maxHeartbeats 4000000 in
theorem indexS_any (fid : FuncId) (caps : Array Value) (p : ByteArray → Bool) (v : Value) (l : List ByteArray) (w : World) (h : ShS.Row w v l)
    (hc : ∀ args W, (callFunc fid args).run Tryz.prog W = .ok (.enter fid args) W)
    (hp : ∀ W, Ext w W → ∀ x ∈ l, Calls Tryz.prog fid (#[.string x] ++ caps) W fun e w' => e = .returned (.bool (p x)) ∧ Ext W w') :
    Calls Tryz.prog 167 #[v, .func (.func fid) #[] caps] w fun e w' => e = .returned (.int .i64 (idxP p l 0)) ∧ Ext w w' := by
  have H := Lib.hid h
  obtain ⟨A, c, rfl, hc0, hm, -⟩ := h.cut
  unfold maxLen at hm
  obtain ⟨n, hn⟩ : ∃ n, n = l.length := ⟨_, rfl⟩
  rw [← hn] at hc0 H ⊢
  have Hn := Lib.hid hn
  have HP := Lib.hid hp
  obtain ⟨F, hF⟩ : ∃ F, idxP p l 0 = F := ⟨_, rfl⟩
  have HF := Lib.hid hF
  rw [hF]
  clear hn h hp hF
  go_enter Tryz.func167, Tryz.ntmps167
  go_wp2
  go_loopw [8] (fun i wr => ∃ (k : Nat), i = .int .i64 k ∧ k ≤ n ∧ Hid (F = idxP p (l.drop k) k) ∧ Hid (Ext w wr)) (fun i _ => n - (intOf i).toNat)
  case atStart => exact ⟨0, rfl, by omega, Lib.hid HF.out.symm, Lib.hid (Ext.refl w)⟩
  case round =>
    obtain ⟨k, rfl, hk, HQ, HX⟩ := hrel
    by_cases hlt : k < n
    · have hkl : k < l.length := by have := Hn.out; omega
      obtain ⟨b, o, rfl, hat⟩ := rowS_at H.out (by omega)
      have y0 := hat _ HX.out k hkl
      have HC := Lib.hid (HP.out wr HX.out _ (gs_mem hkl))
      have hN : p (gs l k) = false → F = idxP p (l.drop (k + 1)) (k + 1) := fun e => HQ.out.trans (idxP_next (gs_some hkl) e)
      have hH : p (gs l k) = true → F = k := fun e => HQ.out.trans (idxP_here (gs_some hkl) e)
      obtain ⟨x, hx⟩ : ∃ x, gs l k = x := ⟨_, rfl⟩
      rw [hx] at y0 HC hN hH
      obtain ⟨r, hr⟩ : ∃ r, p x = r := ⟨_, rfl⟩
      rw [hr] at HC hN hH
      have HN := Lib.hid hN
      have HH := Lib.hid hH
      clear hat hx hkl hr hN hH
      go_wp2_with fail
      refine HC.out.mono ?_
      rintro e w1 ⟨rfl, x1⟩
      have X1 := Lib.hid x1
      clear x1
      cases r
      · have HE := Lib.hid (HN.out rfl)
        go_wp2_with fail
        go_roundw
        case rel => exact ⟨k + 1, by go_num, by omega, HE, Lib.hid (HX.out.trans X1.out)⟩
        case measure => simp [intOf]; omega
      · have HE := Lib.hid (HH.out rfl)
        go_wp2
        go_ret
        exact ⟨by rw [HE.out]; rfl, HX.out.trans X1.out⟩
    · have HE := Lib.hid (show F = -1 by rw [HQ.out, List.drop_of_length_le (by have := Hn.out; omega)]; rfl)
      go_wp2
      go_ret
      exact ⟨by rw [HE.out]; rfl, HX.out⟩
set_option maxRecDepth 100000 in
theorem containsS_any (fid : FuncId) (caps : Array Value) (p : ByteArray → Bool) (v : Value) (l : List ByteArray) (w : World) (h : ShS.Row w v l)
    (hc : ∀ args W, (callFunc fid args).run Tryz.prog W = .ok (.enter fid args) W)
    (hp : ∀ W, Ext w W → ∀ x ∈ l, Calls Tryz.prog fid (#[.string x] ++ caps) W fun e w' => e = .returned (.bool (p x)) ∧ Ext W w') :
    Calls Tryz.prog 130 #[v, .func (.func fid) #[] caps] w fun e w' => e = .returned (.bool (l.any p)) ∧ Ext w w' := by
  have HI := Lib.hid (indexS_any fid caps p v l w h hc hp)
  rw [← idxP_any (p := p) (l := l) (k := 0)]
  obtain ⟨A, c, rfl, -⟩ := h.cut
  obtain ⟨R, hR⟩ : ∃ R, idxP p l 0 = R := ⟨_, rfl⟩
  rw [hR] at HI ⊢
  clear hR h hp
  go_enter Tryz.func130, Tryz.ntmps130
  go_wp2_with fail
  refine HI.out.mono ?_
  rintro e w1 ⟨rfl, x1⟩
  go_wp2
  go_ret
  exact ⟨rfl, x1⟩
set_option maxRecDepth 100000 in
set_option maxHeartbeats 4000000 in
theorem notS_any (fid : FuncId) (caps : Array Value) (g : Nat) (x : ByteArray) (r : Bool) (w : World) (hf : One w g (.func (.func fid) #[] caps))
    (hc : ∀ args W, (callFunc fid args).run Tryz.prog W = .ok (.enter fid args) W)
    (hp : ∀ W, Ext w W → Calls Tryz.prog fid (#[.string x] ++ caps) W fun e w' => e = .returned (.bool r) ∧ Ext W w') :
    Calls Tryz.prog 131 (#[.string x] ++ #[.pointer (some ⟨g, 0, none⟩)]) w fun e w' => e = .returned (.bool (!r)) ∧ Ext w w' := by
  have HC := Lib.hid hp
  have y0 := hf.1
  have l0 := hf.2
  have n0 : ¬ g = w.heap.size := by omega
  clear hf hp
  go_enter Tryz.func131, Tryz.ntmps131
  go_wp2_with fail
  refine (HC.out _ (Ext.refl w)).mono ?_
  rintro e w1 ⟨rfl, x1⟩
  go_wp2
  go_ret
  exact ⟨rfl, x1⟩
set_option maxRecDepth 100000 in
set_option maxHeartbeats 4000000 in
theorem allS_any (fid : FuncId) (caps : Array Value) (p : ByteArray → Bool) (i : Nat) (hi : i < 4) (I : Int) (hI : I = i) (v : Value) (l : List ByteArray) (w : World) (hM : Most w) (h : ShS.Row w v l)
    (hc : ∀ args W, (callFunc fid args).run Tryz.prog W = .ok (.enter fid args) W)
    (hp : ∀ W, Ext w W → ∀ x ∈ l, Calls Tryz.prog fid (#[.string x] ++ caps) W fun e w' => e = .returned (.bool (p x)) ∧ Ext W w') :
    Calls Tryz.prog 77 #[v, .int .i64 I, .func (.func fid) #[] caps] w fun e w' => e = .returned (.bool (decide ((l.length : Int) ≤ mst i) && l.all p)) ∧ Ext w w' := by
  have HC := Lib.hid (fun W g (e0 : Ext w W) (ho : One W g (.func (.func fid) #[] caps)) => containsS_any 131 #[.pointer (some ⟨g, 0, none⟩)] (fun x => !p x) v l W (h.ext e0) (fun args W => Tryz.call131 args W)
    (fun W e x hx => notS_any fid caps g x (p x) W (ho.ext e) hc (fun W2 e2 => hp W2 ((e0.trans e).trans e2) x hx)))
  subst hI
  have y0 := hM.2 i hi
  have l0 := hM.1
  have n0 : ¬ 0 = w.heap.size := by omega
  obtain ⟨A, c, rfl, -⟩ := h.cut
  rw [← any_notK]
  obtain ⟨r, hr⟩ : ∃ r, (l.any fun x => !p x) = r := ⟨_, rfl⟩
  obtain ⟨n, hn⟩ : ∃ n, l.length = n := ⟨_, rfl⟩
  obtain ⟨K, hK⟩ : ∃ K, mst i = K := ⟨_, rfl⟩
  rw [hK] at y0
  rw [hr] at HC ⊢
  rw [hn] at HC ⊢
  rw [hK]
  have hi2 : (i : Int) < 4 := by omega
  clear hr hn hM h hp hK
  by_cases hle : (n : Int) ≤ K
  · rw [decide_eq_true hle, Bool.true_and]
    go_enter Tryz.func77, Tryz.ntmps77
    go_wp2_with fail
    refine (HC.out _ _ ((Ext.refl w).alloc _) (One.new w _ _)).mono ?_
    rintro e w1 ⟨rfl, x1⟩
    go_wp2
    go_ret
    exact ⟨rfl, ((Ext.refl w).alloc _).trans x1⟩
  · rw [decide_eq_false hle, Bool.false_and]
    go_enter Tryz.func77, Tryz.ntmps77
    go_wp2
    go_ret
    exact ⟨rfl, (Ext.refl w).alloc _⟩
set_option maxRecDepth 100000 in
set_option maxHeartbeats 4000000 in
theorem indexF_any (fid : FuncId) (caps : Array Value) (p : Fd → Bool) (v : Value) (l : List Fd) (w : World) (h : ShF.Row w v l)
    (hc : ∀ args W, (callFunc fid args).run Tryz.prog W = .ok (.enter fid args) W)
    (hp : ∀ W, Ext w W → ∀ x ∈ l, Calls Tryz.prog fid (#[.agg x.vals] ++ caps) W fun e w' => e = .returned (.bool (p x)) ∧ Ext W w') :
    Calls Tryz.prog 168 #[v, .func (.func fid) #[] caps] w fun e w' => e = .returned (.int .i64 (idxP p l 0)) ∧ Ext w w' := by
  have H := Lib.hid h
  obtain ⟨A, c, rfl, hc0, hm, -⟩ := h.cut
  unfold maxLen at hm
  obtain ⟨n, hn⟩ : ∃ n, n = l.length := ⟨_, rfl⟩
  rw [← hn] at hc0 H ⊢
  have Hn := Lib.hid hn
  have HP := Lib.hid hp
  obtain ⟨F, hF⟩ : ∃ F, idxP p l 0 = F := ⟨_, rfl⟩
  have HF := Lib.hid hF
  rw [hF]
  clear hn h hp hF
  go_enter Tryz.func168, Tryz.ntmps168
  go_wp2
  go_loopw [8] (fun i wr => ∃ (k : Nat), i = .int .i64 k ∧ k ≤ n ∧ Hid (F = idxP p (l.drop k) k) ∧ Hid (Ext w wr)) (fun i _ => n - (intOf i).toNat)
  case atStart => exact ⟨0, rfl, by omega, Lib.hid HF.out.symm, Lib.hid (Ext.refl w)⟩
  case round =>
    obtain ⟨k, rfl, hk, HQ, HX⟩ := hrel
    by_cases hlt : k < n
    · have hkl : k < l.length := by have := Hn.out; omega
      obtain ⟨b, o, rfl, hat⟩ := rowF_at H.out (by omega)
      obtain ⟨y0, y1, y2, y3⟩ := hat _ HX.out k hkl
      have HC := Lib.hid (HP.out wr HX.out _ (gf_mem hkl))
      have hN : p (gf l k) = false → F = idxP p (l.drop (k + 1)) (k + 1) := fun e => HQ.out.trans (idxP_next (gf_some hkl) e)
      have hH : p (gf l k) = true → F = k := fun e => HQ.out.trans (idxP_here (gf_some hkl) e)
      obtain ⟨x, hx⟩ : ∃ x, gf l k = x := ⟨_, rfl⟩
      rw [hx] at y0 y1 y2 y3 HC hN hH
      unfold Fd.vals at HC
      obtain ⟨r, hr⟩ : ∃ r, p x = r := ⟨_, rfl⟩
      rw [hr] at HC hN hH
      have HN := Lib.hid hN
      have HH := Lib.hid hH
      clear hat hx hkl hr hN hH
      go_wp2_with fail
      refine HC.out.mono ?_
      rintro e w1 ⟨rfl, x1⟩
      have X1 := Lib.hid x1
      clear x1
      cases r
      · have HE := Lib.hid (HN.out rfl)
        go_wp2_with fail
        go_roundw
        case rel => exact ⟨k + 1, by go_num, by omega, HE, Lib.hid (HX.out.trans X1.out)⟩
        case measure => simp [intOf]; omega
      · have HE := Lib.hid (HH.out rfl)
        go_wp2
        go_ret
        exact ⟨by rw [HE.out]; rfl, HX.out.trans X1.out⟩
    · have HE := Lib.hid (show F = -1 by rw [HQ.out, List.drop_of_length_le (by have := Hn.out; omega)]; rfl)
      go_wp2
      go_ret
      exact ⟨by rw [HE.out]; rfl, HX.out⟩
set_option maxRecDepth 100000 in
theorem containsF_any (fid : FuncId) (caps : Array Value) (p : Fd → Bool) (v : Value) (l : List Fd) (w : World) (h : ShF.Row w v l)
    (hc : ∀ args W, (callFunc fid args).run Tryz.prog W = .ok (.enter fid args) W)
    (hp : ∀ W, Ext w W → ∀ x ∈ l, Calls Tryz.prog fid (#[.agg x.vals] ++ caps) W fun e w' => e = .returned (.bool (p x)) ∧ Ext W w') :
    Calls Tryz.prog 132 #[v, .func (.func fid) #[] caps] w fun e w' => e = .returned (.bool (l.any p)) ∧ Ext w w' := by
  have HI := Lib.hid (indexF_any fid caps p v l w h hc hp)
  rw [← idxP_any (p := p) (l := l) (k := 0)]
  obtain ⟨A, c, rfl, -⟩ := h.cut
  obtain ⟨R, hR⟩ : ∃ R, idxP p l 0 = R := ⟨_, rfl⟩
  rw [hR] at HI ⊢
  clear hR h hp
  go_enter Tryz.func132, Tryz.ntmps132
  go_wp2_with fail
  refine HI.out.mono ?_
  rintro e w1 ⟨rfl, x1⟩
  go_wp2
  go_ret
  exact ⟨rfl, x1⟩
set_option maxRecDepth 100000 in
set_option maxHeartbeats 4000000 in
theorem notF_any (fid : FuncId) (caps : Array Value) (g : Nat) (x : Fd) (r : Bool) (w : World) (hf : One w g (.func (.func fid) #[] caps))
    (hc : ∀ args W, (callFunc fid args).run Tryz.prog W = .ok (.enter fid args) W)
    (hp : ∀ W, Ext w W → Calls Tryz.prog fid (#[.agg x.vals] ++ caps) W fun e w' => e = .returned (.bool r) ∧ Ext W w') :
    Calls Tryz.prog 133 (#[.agg x.vals] ++ #[.pointer (some ⟨g, 0, none⟩)]) w fun e w' => e = .returned (.bool (!r)) ∧ Ext w w' := by
  have HC := Lib.hid hp
  have y0 := hf.1
  have l0 := hf.2
  have n0 : ¬ g = w.heap.size := by omega
  unfold Fd.vals at HC ⊢
  clear hf hp
  go_enter Tryz.func133, Tryz.ntmps133
  go_wp2_with fail
  refine (HC.out _ ((Ext.refl w).alloc _)).mono ?_
  rintro e w1 ⟨rfl, x1⟩
  go_wp2
  go_ret
  exact ⟨rfl, ((Ext.refl w).alloc _).trans x1⟩
set_option maxRecDepth 100000 in
set_option maxHeartbeats 4000000 in
theorem allF_any (fid : FuncId) (caps : Array Value) (p : Fd → Bool) (i : Nat) (hi : i < 4) (I : Int) (hI : I = i) (v : Value) (l : List Fd) (w : World) (hM : Most w) (h : ShF.Row w v l)
    (hc : ∀ args W, (callFunc fid args).run Tryz.prog W = .ok (.enter fid args) W)
    (hp : ∀ W, Ext w W → ∀ x ∈ l, Calls Tryz.prog fid (#[.agg x.vals] ++ caps) W fun e w' => e = .returned (.bool (p x)) ∧ Ext W w') :
    Calls Tryz.prog 78 #[v, .int .i64 I, .func (.func fid) #[] caps] w fun e w' => e = .returned (.bool (decide ((l.length : Int) ≤ mst i) && l.all p)) ∧ Ext w w' := by
  have HC := Lib.hid (fun W g (e0 : Ext w W) (ho : One W g (.func (.func fid) #[] caps)) => containsF_any 133 #[.pointer (some ⟨g, 0, none⟩)] (fun x => !p x) v l W (h.ext e0) (fun args W => Tryz.call133 args W)
    (fun W e x hx => notF_any fid caps g x (p x) W (ho.ext e) hc (fun W2 e2 => hp W2 ((e0.trans e).trans e2) x hx)))
  subst hI
  have y0 := hM.2 i hi
  have l0 := hM.1
  have n0 : ¬ 0 = w.heap.size := by omega
  obtain ⟨A, c, rfl, -⟩ := h.cut
  rw [← any_notK]
  obtain ⟨r, hr⟩ : ∃ r, (l.any fun x => !p x) = r := ⟨_, rfl⟩
  obtain ⟨n, hn⟩ : ∃ n, l.length = n := ⟨_, rfl⟩
  obtain ⟨K, hK⟩ : ∃ K, mst i = K := ⟨_, rfl⟩
  rw [hK] at y0
  rw [hr] at HC ⊢
  rw [hn] at HC ⊢
  rw [hK]
  have hi2 : (i : Int) < 4 := by omega
  clear hr hn hM h hp hK
  by_cases hle : (n : Int) ≤ K
  · rw [decide_eq_true hle, Bool.true_and]
    go_enter Tryz.func78, Tryz.ntmps78
    go_wp2_with fail
    refine (HC.out _ _ ((Ext.refl w).alloc _) (One.new w _ _)).mono ?_
    rintro e w1 ⟨rfl, x1⟩
    go_wp2
    go_ret
    exact ⟨rfl, ((Ext.refl w).alloc _).trans x1⟩
  · rw [decide_eq_false hle, Bool.false_and]
    go_enter Tryz.func78, Tryz.ntmps78
    go_wp2
    go_ret
    exact ⟨rfl, (Ext.refl w).alloc _⟩
set_option maxRecDepth 100000 in
set_option maxHeartbeats 4000000 in
theorem indexM_any (fid : FuncId) (caps : Array Value) (p : Me → Bool) (v : Value) (l : List Me) (w : World) (h : RowM w v l)
    (hc : ∀ args W, (callFunc fid args).run Tryz.prog W = .ok (.enter fid args) W)
    (hp : ∀ W, Ext w W → ∀ x ∈ l, ∀ va vc vh, MeAt W x va vc vh → Calls Tryz.prog fid (#[.agg (x.vals va vc vh)] ++ caps) W fun e w' => e = .returned (.bool (p x)) ∧ Ext W w') :
    Calls Tryz.prog 169 #[v, .func (.func fid) #[] caps] w fun e w' => e = .returned (.int .i64 (idxP p l 0)) ∧ Ext w w' := by
  have H := Lib.hid h
  obtain ⟨A, c, rfl, hc0, hm, -⟩ := h.cut
  unfold maxLen at hm
  obtain ⟨n, hn⟩ : ∃ n, n = l.length := ⟨_, rfl⟩
  rw [← hn] at hc0 H ⊢
  have Hn := Lib.hid hn
  have HP := Lib.hid hp
  obtain ⟨F, hF⟩ : ∃ F, idxP p l 0 = F := ⟨_, rfl⟩
  have HF := Lib.hid hF
  rw [hF]
  clear hn h hp hF
  go_enter Tryz.func169, Tryz.ntmps169
  go_wp2
  go_loopw [8] (fun i wr => ∃ (k : Nat), i = .int .i64 k ∧ k ≤ n ∧ Hid (F = idxP p (l.drop k) k) ∧ Hid (Ext w wr)) (fun i _ => n - (intOf i).toNat)
  case atStart => exact ⟨0, rfl, by omega, Lib.hid HF.out.symm, Lib.hid (Ext.refl w)⟩
  case round =>
    obtain ⟨k, rfl, hk, HQ, HX⟩ := hrel
    by_cases hlt : k < n
    · have hkl : k < l.length := by have := Hn.out; omega
      obtain ⟨b, o, rfl, hat⟩ := H.out.at (by omega)
      obtain ⟨va, vc, vh, hat⟩ := hat k hkl
      obtain ⟨⟨y0, y1, y2, y3, y4, y5, y6, y7, y8, y9⟩, hme⟩ := hat _ HX.out
      have HC := Lib.hid (HP.out wr HX.out _ (gm_mem hkl) va vc vh hme)
      have q1 := oneCell_rowG hme.1
      have q2 := oneCell_row hme.2.1
      have q3 := oneCell_rowG hme.2.2
      clear hme
      have hN : p (gm l k) = false → F = idxP p (l.drop (k + 1)) (k + 1) := fun e => HQ.out.trans (idxP_next (gm_some hkl) e)
      have hH : p (gm l k) = true → F = k := fun e => HQ.out.trans (idxP_here (gm_some hkl) e)
      obtain ⟨x, hx⟩ : ∃ x, gm l k = x := ⟨_, rfl⟩
      rw [hx] at y0 y1 y2 y3 y4 y6 y7 HC hN hH
      unfold Me.vals at HC
      obtain ⟨r, hr⟩ : ∃ r, p x = r := ⟨_, rfl⟩
      rw [hr] at HC hN hH
      have HN := Lib.hid hN
      have HH := Lib.hid hH
      clear hat hx hkl hr hN hH
      go_wp2_with fail
      refine HC.out.mono ?_
      rintro e w1 ⟨rfl, x1⟩
      have X1 := Lib.hid x1
      clear x1
      cases r
      · have HE := Lib.hid (HN.out rfl)
        go_wp2_with fail
        go_roundw
        case rel => exact ⟨k + 1, by go_num, by omega, HE, Lib.hid (HX.out.trans X1.out)⟩
        case measure => simp [intOf]; omega
      · have HE := Lib.hid (HH.out rfl)
        go_wp2
        go_ret
        exact ⟨by rw [HE.out]; rfl, HX.out.trans X1.out⟩
    · have HE := Lib.hid (show F = -1 by rw [HQ.out, List.drop_of_length_le (by have := Hn.out; omega)]; rfl)
      go_wp2
      go_ret
      exact ⟨by rw [HE.out]; rfl, HX.out⟩
set_option maxRecDepth 100000 in
theorem containsM_any (fid : FuncId) (caps : Array Value) (p : Me → Bool) (v : Value) (l : List Me) (w : World) (h : RowM w v l)
    (hc : ∀ args W, (callFunc fid args).run Tryz.prog W = .ok (.enter fid args) W)
    (hp : ∀ W, Ext w W → ∀ x ∈ l, ∀ va vc vh, MeAt W x va vc vh → Calls Tryz.prog fid (#[.agg (x.vals va vc vh)] ++ caps) W fun e w' => e = .returned (.bool (p x)) ∧ Ext W w') :
    Calls Tryz.prog 135 #[v, .func (.func fid) #[] caps] w fun e w' => e = .returned (.bool (l.any p)) ∧ Ext w w' := by
  have HI := Lib.hid (indexM_any fid caps p v l w h hc hp)
  rw [← idxP_any (p := p) (l := l) (k := 0)]
  obtain ⟨A, c, rfl, -⟩ := h.cut
  obtain ⟨R, hR⟩ : ∃ R, idxP p l 0 = R := ⟨_, rfl⟩
  rw [hR] at HI ⊢
  clear hR h hp
  go_enter Tryz.func135, Tryz.ntmps135
  go_wp2_with fail
  refine HI.out.mono ?_
  rintro e w1 ⟨rfl, x1⟩
  go_wp2
  go_ret
  exact ⟨rfl, x1⟩
set_option maxRecDepth 100000 in
set_option maxHeartbeats 4000000 in
theorem notM_any (fid : FuncId) (caps : Array Value) (g : Nat) (x : Me) (va vc vh : Value) (r : Bool) (w : World) (hf : One w g (.func (.func fid) #[] caps))
    (hc : ∀ args W, (callFunc fid args).run Tryz.prog W = .ok (.enter fid args) W)
    (hp : ∀ W, Ext w W → Calls Tryz.prog fid (#[.agg (x.vals va vc vh)] ++ caps) W fun e w' => e = .returned (.bool r) ∧ Ext W w') :
    Calls Tryz.prog 136 (#[.agg (x.vals va vc vh)] ++ #[.pointer (some ⟨g, 0, none⟩)]) w fun e w' => e = .returned (.bool (!r)) ∧ Ext w w' := by
  have HC := Lib.hid hp
  have y0 := hf.1
  have l0 := hf.2
  have n0 : ¬ g = w.heap.size := by omega
  unfold Me.vals at HC ⊢
  clear hf hp
  go_enter Tryz.func136, Tryz.ntmps136
  go_wp2_with fail
  refine (HC.out _ ((Ext.refl w).alloc _)).mono ?_
  rintro e w1 ⟨rfl, x1⟩
  go_wp2
  go_ret
  exact ⟨rfl, ((Ext.refl w).alloc _).trans x1⟩
set_option maxRecDepth 100000 in
set_option maxHeartbeats 4000000 in
theorem allM_any (fid : FuncId) (caps : Array Value) (p : Me → Bool) (i : Nat) (hi : i < 4) (I : Int) (hI : I = i) (v : Value) (l : List Me) (w : World) (hM : Most w) (h : RowM w v l)
    (hc : ∀ args W, (callFunc fid args).run Tryz.prog W = .ok (.enter fid args) W)
    (hp : ∀ W, Ext w W → ∀ x ∈ l, ∀ va vc vh, MeAt W x va vc vh → Calls Tryz.prog fid (#[.agg (x.vals va vc vh)] ++ caps) W fun e w' => e = .returned (.bool (p x)) ∧ Ext W w') :
    Calls Tryz.prog 80 #[v, .int .i64 I, .func (.func fid) #[] caps] w fun e w' => e = .returned (.bool (decide ((l.length : Int) ≤ mst i) && l.all p)) ∧ Ext w w' := by
  have HC := Lib.hid (fun W g (e0 : Ext w W) (ho : One W g (.func (.func fid) #[] caps)) => containsM_any 136 #[.pointer (some ⟨g, 0, none⟩)] (fun x => !p x) v l W (h.ext e0) (fun args W => Tryz.call136 args W)
    (fun W e x hx va vc vh hm => notM_any fid caps g x va vc vh (p x) W (ho.ext e) hc (fun W2 e2 => hp W2 ((e0.trans e).trans e2) x hx va vc vh (hm.ext e2))))
  subst hI
  have y0 := hM.2 i hi
  have l0 := hM.1
  have n0 : ¬ 0 = w.heap.size := by omega
  obtain ⟨A, c, rfl, -⟩ := h.cut
  rw [← any_notK]
  obtain ⟨r, hr⟩ : ∃ r, (l.any fun x => !p x) = r := ⟨_, rfl⟩
  obtain ⟨n, hn⟩ : ∃ n, l.length = n := ⟨_, rfl⟩
  obtain ⟨K, hK⟩ : ∃ K, mst i = K := ⟨_, rfl⟩
  rw [hK] at y0
  rw [hr] at HC ⊢
  rw [hn] at HC ⊢
  rw [hK]
  have hi2 : (i : Int) < 4 := by omega
  clear hr hn hM h hp hK
  by_cases hle : (n : Int) ≤ K
  · rw [decide_eq_true hle, Bool.true_and]
    go_enter Tryz.func80, Tryz.ntmps80
    go_wp2_with fail
    refine (HC.out _ _ ((Ext.refl w).alloc _) (One.new w _ _)).mono ?_
    rintro e w1 ⟨rfl, x1⟩
    go_wp2
    go_ret
    exact ⟨rfl, ((Ext.refl w).alloc _).trans x1⟩
  · rw [decide_eq_false hle, Bool.false_and]
    go_enter Tryz.func80, Tryz.ntmps80
    go_wp2
    go_ret
    exact ⟨rfl, (Ext.refl w).alloc _⟩
end Go.Proofs.YtokmeomjdpfknaaGreatDoor
