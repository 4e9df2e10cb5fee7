/- CodeChecks: whether a method's code fits, or where it does not, and which handlers have a byte, is the document's. Of all methods, constants and bytes. -/
import Derived.Test.YtcgajgileehbbaaZf
import Derived.Test.YtcgajgileehbbaaZd
import Derived.Test.YtcgajgileehbbaaZb
import Derived.Test.YtcgajgileehbbaaZe
import Derived.Deep.RegionHeld3
namespace Go.Proofs.Ytcgajgileehbbaa
open Go.ChangeShapes Go.WideShapes Go.ChangeAt Go.RowKit
open Go.ChangeMaps (open_string shut_string)
set_option linter.unusedVariables false
theorem conj20 {a b c d e f g h i j : Prop} {Q : Prop} (p : a ∧ b ∧ c ∧ d ∧ e ∧ f ∧ g ∧ h ∧ i ∧ j) (q : Q) : a ∧ b ∧ c ∧ d ∧ e ∧ f ∧ g ∧ h ∧ i ∧ j ∧ Q := by
  obtain ⟨p1, p2, p3, p4, p5, p6, p7, p8, p9, p10⟩ := p
  exact ⟨p1, p2, p3, p4, p5, p6, p7, p8, p9, p10, q⟩
set_option maxRecDepth 100000 in
set_option maxHeartbeats 8000000 in
theorem codeChecks_walk (w : World) (m : Me) (va vc vh : Value) (hm : MeAt w m va vc vh) (hok : MeOk m) (v : Value) (pool : List Cst) (hp : ShC.Row w v pool) (hpl : pool.length * 56 ≤ 140737488351232) (t : Int) (ht : B64 t) :
    Calls Try.prog 5 #[.agg (m.vals va vc vh), v, .int .i64 t] w fun e w' => e = .returned (.bool true) ∧ Ext w w' := by
  obtain ⟨z1, z2, z3, -⟩ := hok
  have er0 : reachBytes = 140737488351232 := rfl
  rw [er0] at z1 z2 z3
  have HP := Lib.hid hp
  have HM := Lib.hid hm
  have HC := Lib.hid (fun W (e : Ext w W) => refCopyM_any m va vc vh W (hm.ext e) (by omega) (by omega) (by omega))
  have HK := Lib.hid (fun a b c W (e : Ext w W) (h : MeAt W m a b c) => Check_any m a b c v pool W h (hp.ext e))
  have HRK := Lib.hid (fun W (e : Ext w W) => refCheck_any m va vc vh v pool W (hm.ext e) (hp.ext e) (by omega))
  have HV := Lib.hid (fun a b c W (h : MeAt W m a b c) => Covers_any m a b c t W h (by omega))
  have HRV := Lib.hid (fun W (e : Ext w W) => refCovers_any m va vc vh t W (hm.ext e) (by omega))
  have HSM := Lib.hid (fun a b c W (e : Ext w W) (h : MeAt W m a b c) => refSameM_same m a b c va vc vh W h (hm.ext e))
  have HI := Lib.hid (fun u1 u2 W (h1 : Row W .i64 u1 (coverZ m.hs t)) (h2 : Row W .i64 u2 (coverZ m.hs t)) => eqInts_any u1 u2 _ _ W h1 h2)
  rw [show decide (coverZ m.hs t = coverZ m.hs t) = true by simp] at HI
  obtain ⟨R, hR⟩ : ∃ R, checkZ m pool = R := ⟨_, rfl⟩
  rw [hR] at HK HRK
  obtain ⟨l, k, er⟩ := R
  have HS := Lib.hid (fun W u1 u2 (o1 : RowI W u1 l) (o2 : RowI W u2 l) => refSameL_any u1 u2 l l W o1 o2)
  rw [decide_eq_true (rfl : l = l)] at HS
  obtain ⟨Aa, ca, rfl, -⟩ := hm.1.cut
  obtain ⟨Ac, cc, rfl, -⟩ := id hm.2.1
  obtain ⟨Ah, ch, rfl, -⟩ := hm.2.2.cut
  obtain ⟨Ap, cp, rfl, -⟩ := hp.cut
  have HMB := Lib.hid (fun W (e : Ext (w.alloc (.cells (m.vals (.slice Aa m.args.length ca) (.slice Ac m.code.length cc) (.slice Ah m.hs.length ch)) 48)) W) => ((MeB.new w m (.slice Aa m.args.length ca) (.slice Ac m.code.length cc) (.slice Ah m.hs.length ch)).ext e).cells)
  unfold Me.vals at HMB HC HK HRK HV HRV HSM ⊢
  clear hm hp hR z1 z2 z3 hpl ht er0
  obtain ⟨y0, y1, y2, y3, y4, y5, y6, y7, y8, y9⟩ := HMB.out _ (Ext.refl _)
  go_enter Try.func5, Try.ntmps5
  go_wp2_with fail
  refine (HC.out _ ((Ext.refl w).alloc _)).mono ?_
  rintro e w1 ⟨v', rfl, ⟨ua, uc, uh, rfl, hm1⟩, x1⟩
  have M1 := Lib.hid hm1
  have X1 := Lib.hid x1
  obtain ⟨Ba, da, rfl, -⟩ := hm1.1.cut
  obtain ⟨Bc, dc, rfl, -⟩ := id hm1.2.1
  obtain ⟨Bh, dh, rfl, -⟩ := hm1.2.2.cut
  unfold Me.vals
  have HIB := Lib.hid (fun W (e : Ext (w1.alloc (.cells (m.vals (.slice Ba m.args.length da) (.slice Bc m.code.length dc) (.slice Bh m.hs.length dh)) 48)) W) => ((MeB.new w1 m (.slice Ba m.args.length da) (.slice Bc m.code.length dc) (.slice Bh m.hs.length dh)).ext e).cells)
  unfold Me.vals at HIB
  have EX := Lib.hid (fun W (e : Ext (w1.alloc (.cells #[.bool m.st, .bool m.ab, .string m.nm, .int .i64 m.ret.k, .string m.ret.s, .slice Ba m.args.length da, .int .i64 m.sk, .int .i64 m.lo, .slice Bc m.code.length dc, .slice Bh m.hs.length dh] 48)) W) => ((((Ext.refl w).alloc (.cells #[.bool m.st, .bool m.ab, .string m.nm, .int .i64 m.ret.k, .string m.ret.s, .slice Aa m.args.length ca, .int .i64 m.sk, .int .i64 m.lo, .slice Ac m.code.length cc, .slice Ah m.hs.length ch] 48)).trans X1.out).alloc _).trans e)
  have EB := Lib.hid (fun W (e : Ext (w1.alloc (.cells #[.bool m.st, .bool m.ab, .string m.nm, .int .i64 m.ret.k, .string m.ret.s, .slice Ba m.args.length da, .int .i64 m.sk, .int .i64 m.lo, .slice Bc m.code.length dc, .slice Bh m.hs.length dh] 48)) W) => HMB.out W ((X1.out.alloc _).trans e))
  have EM := Lib.hid (fun W (e : Ext (w1.alloc (.cells #[.bool m.st, .bool m.ab, .string m.nm, .int .i64 m.ret.k, .string m.ret.s, .slice Ba m.args.length da, .int .i64 m.sk, .int .i64 m.lo, .slice Bc m.code.length dc, .slice Bh m.hs.length dh] 48)) W) => M1.out.ext (((Ext.refl w1).alloc _).trans e))
  clear hm1 x1 y0 y1 y2 y3 y4 y5 y6 y7 y8 y9
  obtain ⟨y0, y1, y2, y3, y4, y5, y6, y7, y8, y9⟩ := HIB.out _ (Ext.refl _)
  go_wp2_with fail
  refine (HK.out _ _ _ _ (EX.out _ (Ext.refl _)) (EM.out _ (Ext.refl _))).mono ?_
  rintro e w2 ⟨v2, rfl, ⟨u, rfl, ho⟩, x2⟩
  have P2 := Lib.hid ho.row
  have X2 := Lib.hid x2
  clear ho x2 y0 y1 y2 y3 y4 y5 y6 y7 y8 y9
  obtain ⟨y0, y1, y2, y3, y4, y5, y6, y7, y8, y9⟩ := EB.out _ X2.out
  go_wp2_with fail
  refine (HRK.out _ (EX.out _ X2.out)).mono ?_
  rintro e w3 ⟨v3, rfl, ⟨u3, rfl, ho⟩, x3⟩
  have P3 := Lib.hid ho.row
  have P23 := Lib.hid (P2.out.ext x3)
  have X3 := Lib.hid (X2.out.trans x3)
  clear ho x3 y0 y1 y2 y3 y4 y5 y6 y7 y8 y9
  go_wp2_with fail
  have F : ∀ W, Ext (w1.alloc (.cells #[.bool m.st, .bool m.ab, .string m.nm, .int .i64 m.ret.k, .string m.ret.s, .slice Ba m.args.length da, .int .i64 m.sk, .int .i64 m.lo, .slice Bc m.code.length dc, .slice Bh m.hs.length dh] 48)) W → W.cell? ⟨w1.heap.size, 0, none⟩ = some (.bool m.st) ∧ W.cell? ⟨w1.heap.size, 1, none⟩ = some (.bool m.ab) ∧ W.cell? ⟨w1.heap.size, 2, none⟩ = some (.string m.nm) ∧ W.cell? ⟨w1.heap.size, 3, none⟩ = some (.int .i64 m.ret.k) ∧ W.cell? ⟨w1.heap.size, 4, none⟩ = some (.string m.ret.s) ∧ W.cell? ⟨w1.heap.size, 5, none⟩ = some (.slice Ba m.args.length da) ∧ W.cell? ⟨w1.heap.size, 6, none⟩ = some (.int .i64 m.sk) ∧ W.cell? ⟨w1.heap.size, 7, none⟩ = some (.int .i64 m.lo) ∧ W.cell? ⟨w1.heap.size, 8, none⟩ = some (.slice Bc m.code.length dc) ∧ W.cell? ⟨w1.heap.size, 9, none⟩ = some (.slice Bh m.hs.length dh) ∧ W.cell? ⟨w.heap.size, 0, none⟩ = some (.bool m.st) ∧ W.cell? ⟨w.heap.size, 1, none⟩ = some (.bool m.ab) ∧ W.cell? ⟨w.heap.size, 2, none⟩ = some (.string m.nm) ∧ W.cell? ⟨w.heap.size, 3, none⟩ = some (.int .i64 m.ret.k) ∧ W.cell? ⟨w.heap.size, 4, none⟩ = some (.string m.ret.s) ∧ W.cell? ⟨w.heap.size, 5, none⟩ = some (.slice Aa m.args.length ca) ∧ W.cell? ⟨w.heap.size, 6, none⟩ = some (.int .i64 m.sk) ∧ W.cell? ⟨w.heap.size, 7, none⟩ = some (.int .i64 m.lo) ∧ W.cell? ⟨w.heap.size, 8, none⟩ = some (.slice Ac m.code.length cc) ∧ W.cell? ⟨w.heap.size, 9, none⟩ = some (.slice Ah m.hs.length ch) := fun W e => conj20 (HIB.out W e) (EB.out W e)
  have FH := Lib.hid F
  have e3 := X3.out.drew
  have f3 := F _ e3
  have P23d := Lib.hid (P23.out.ext (Ext.refl w3).drew)
  have P3d := Lib.hid (P3.out.ext (Ext.refl w3).drew)
  clear F
  go_region_held3 (fun w' => w'.cell? ⟨w1.heap.size, 0, none⟩ = some (.bool m.st) ∧ w'.cell? ⟨w1.heap.size, 1, none⟩ = some (.bool m.ab) ∧ w'.cell? ⟨w1.heap.size, 2, none⟩ = some (.string m.nm) ∧ w'.cell? ⟨w1.heap.size, 3, none⟩ = some (.int .i64 m.ret.k) ∧ w'.cell? ⟨w1.heap.size, 4, none⟩ = some (.string m.ret.s) ∧ w'.cell? ⟨w1.heap.size, 5, none⟩ = some (.slice Ba m.args.length da) ∧ w'.cell? ⟨w1.heap.size, 6, none⟩ = some (.int .i64 m.sk) ∧ w'.cell? ⟨w1.heap.size, 7, none⟩ = some (.int .i64 m.lo) ∧ w'.cell? ⟨w1.heap.size, 8, none⟩ = some (.slice Bc m.code.length dc) ∧ w'.cell? ⟨w1.heap.size, 9, none⟩ = some (.slice Bh m.hs.length dh) ∧ w'.cell? ⟨w.heap.size, 0, none⟩ = some (.bool m.st) ∧ w'.cell? ⟨w.heap.size, 1, none⟩ = some (.bool m.ab) ∧ w'.cell? ⟨w.heap.size, 2, none⟩ = some (.string m.nm) ∧ w'.cell? ⟨w.heap.size, 3, none⟩ = some (.int .i64 m.ret.k) ∧ w'.cell? ⟨w.heap.size, 4, none⟩ = some (.string m.ret.s) ∧ w'.cell? ⟨w.heap.size, 5, none⟩ = some (.slice Aa m.args.length ca) ∧ w'.cell? ⟨w.heap.size, 6, none⟩ = some (.int .i64 m.sk) ∧ w'.cell? ⟨w.heap.size, 7, none⟩ = some (.int .i64 m.lo) ∧ w'.cell? ⟨w.heap.size, 8, none⟩ = some (.slice Ac m.code.length cc) ∧ w'.cell? ⟨w.heap.size, 9, none⟩ = some (.slice Ah m.hs.length ch)) (first | with_reducible assumption) (first
    | (go_at_call 14; (with_reducible refine (HS.out _ _ _ P23d.out P3d.out).mono ?_); rintro e w4 ⟨rfl, x4⟩; have e4 := e3.trans x4; have f4 := FH.out _ e4)
    | (go_at_call 26; (with_reducible refine (HV.out _ _ _ _ (EM.out _ e4)).mono ?_); rintro e w5 ⟨v5, rfl, o5, x5⟩; have e5 := e4.trans x5; have f5 := FH.out _ e5)
    | (go_at_call 27; (with_reducible refine (HRV.out _ (EX.out _ e5)).mono ?_); rintro e w6 ⟨v6, rfl, o6, x6⟩; have e6 := e5.trans x6; have f6 := FH.out _ e6; have o56 := o5.row.ext x6)
    | (go_at_call 25; (with_reducible refine (HI.out _ _ _ o56 o6.row).mono ?_); rintro e w7 ⟨rfl, n7, rfl⟩; have e7 := e6.drewN n7; have f7 := FH.out _ e7)
    | (go_at_call 28; (with_reducible refine (HSM.out _ _ _ _ (EX.out _ e7) (EM.out _ e7)).mono ?_); rintro e w8 ⟨rfl, x8⟩; have e8 := e7.trans x8; have f8 := FH.out _ e8)
    | (go_at_call 16; (with_reducible refine (awake_any _).mono ?_); rintro e w9 ⟨rfl, x9⟩; have e9 := e8.trans x9; have f9 := FH.out _ e9))
  go_wp2
  go_ret
  exact ⟨rfl, EX.out _ e9⟩

set_option maxRecDepth 100000 in
theorem codeChecks_lifted (os : Os) (started : os.Started) (H : Type) (enc : TypeId × Value → H) :
    ReturnsInHanded {} Try.checked os 5 .any (Rows.codeChecksSpec.pre6 enc Try.prog Try.f5 Rows.codeChecksRow.domain false) (Rows.codeChecksSpec.post enc Try.prog Try.f5 false true false false) := by
  refine returnsInHanded_of_change_sized (C := Try.checked) own started (by kernel_rfl) Try.func5
    (ChangeSpec.witness6 (enc := enc) (C := Try.checked) false ⟨#[], #[.agg #[.bool false, .bool false, .string ⟨#[]⟩, .int .i64 0, .string ⟨#[]⟩, .slice none 0 0, .int .i64 0, .int .i64 0, .slice none 0 0, .slice none 0 0], .slice none 0 0, .int .i64 0], []⟩ 8 (by kernel_rfl) (by kernel_rfl) (by kernel_rfl) (by kernel_rfl)) ?_
  intro W base args ds gs before hval0 hW hcnd hsz0 _
  have hval : ∀ (j : Nat) t v, Try.f5.params[j]? = some t → args[j]? = some v → Value.okWide Try.prog W .any base t v := hval0
  have hsz : (DataW.weightsEach Try.prog (Try.f5.params.toList ++ Rows.codeChecksSpec.plain.varTypes Try.prog) (ds ++ gs)).all (· ≤ reachBytes) = true := hsz0
  have hW' := hW
  obtain ⟨p, q, hA0, hV, rfl, hfz, hnd⟩ := hW
  have hA : DataW.TrodAll enc Try.prog W 0 (fun _ => true) true Try.f5.params.toList args.toList ds p := hA0
  rw [Try.params5] at hA hval hsz
  obtain ⟨v0, vs0, d0, ds0, p0, q0, hargs, rfl, rfl, h0, r0⟩ := trodAll_cons hA
  obtain ⟨v1, vs1, d1, ds1, p1, q1, rfl, rfl, rfl, h1, r1⟩ := trodAll_cons r0
  obtain ⟨v2, vs2, d2, ds2, p2, q2, rfl, rfl, rfl, h2, r2⟩ := trodAll_cons r1
  obtain ⟨rfl, rfl, rfl⟩ := trodAll_nil r2
  obtain rfl : args = #[v0, v1, v2] := by cases args; simp_all
  obtain ⟨rfl, rfl⟩ := trodVars_none hV
  obtain ⟨cs0, rfl, -⟩ := okWide_struct Try.underlying48 (hval 0 48 v0 rfl rfl)
  have k0 := h0
  have lt0 : ∀ x ∈ p0, x.block < W.heap.size := by obtain ⟨m, hm⟩ := k0; exact DataW.trod_lt m _ _ _ hm
  obtain ⟨m0, va0, vc0, vh0, e0, w0, z0⟩ : ∃ (m : Me) (va vc vh : Value), cs0 = m.vals va vc vh ∧ MeAt W m va vc vh ∧ MeOk m := by
    obtain ⟨fuel, hf⟩ := h0
    obtain ⟨m, va, vc, vh, hcs, hm, hok⟩ := open_methG _ _ _ hf (light_of hsz (j := 0) rfl rfl)
    have hcs : cs0.toList = (m.vals va vc vh).toList := by simpa [Value.cells] using hcs
    exact ⟨m, va, vc, vh, Array.toList_inj.1 hcs, hm, hok⟩
  subst e0
  obtain ⟨a1, len1, cap1, rfl⟩ := okWide_slice Try.underlying49 (hval 1 49 v1 rfl rfl)
  have k1 := h1
  have lt1 : ∀ x ∈ p1, x.block < W.heap.size := by obtain ⟨m, hm⟩ := k1; exact DataW.trod_lt m _ _ _ hm
  obtain ⟨l1, w1, z1⟩ : ∃ l, ShC.Row W (.slice a1 len1 cap1) l ∧ l.length * 56 ≤ 140737488351232 := by
    obtain ⟨fuel, hf⟩ := h1
    obtain ⟨A, n, c, l, hcs, hln, hrow, hb, -⟩ := open_listG ShC (bytes := 56) (Q := fun _ => True) Try.underlying49 (by kernel_rfl) (by kernel_rfl) open_cstG hf (light_of hsz (j := 1) rfl rfl)
    simp [Value.cells] at hcs
    obtain ⟨rfl, rfl, rfl⟩ := hcs
    exact ⟨l, hrow, hb⟩
  obtain ⟨a2, rfl, rfl, rfl, w2⟩ := open_int Try.underlying3 (hval 2 3 v2 rfl rfl) h2
  have z2 : B64 a2 := bounds_i64 w2
  clear hA0 hval0 hsz0
  refine (codeChecks_walk W m0 va0 vc0 vh0 w0 z0 (.slice a1 len1 cap1) l1 w1 z1 a2 z2).mono fun e W' ⟨he, bel⟩ => ?_
  subst he
  exact ⟨_, rfl, _, _, _, [], _, [], hW', trodAll_mk1 (shut_bool Try.underlying4 _), (trodAll_cons_mk (Below.trod laidOut (by kernel_rfl) (of_decide_eq_true (by kernel_rfl)) k0 bel lt0) (trodAll_cons_mk (Below.trod laidOut (by kernel_rfl) (of_decide_eq_true (by kernel_rfl)) k1 bel lt1) (trodAll_cons_mk (shut_int Try.underlying3 w2) trodAll_mk0))), rfl, bel.frame _, fun h => by cases h⟩

theorem codeChecks_over : Rows.codeChecksRow.holds Try.pinned (OpenSpec.ofChange Rows.codeChecksSpec) :=
  OpenClaim.holds_of_wide 5 Try.f5 rfl rfl rfl rfl rfl rfl rfl ⟨rfl, rfl, rfl, rfl, rfl⟩ rfl rfl rfl rfl rfl (by kernel_rfl) Try.func5 (by kernel_rfl)
    (of_decide_eq_true (by kernel_rfl)) (by unfold Func.isWrapper; first | (rw [if_pos (by decide +kernel)]; kernel_rfl) | (rw [if_neg (by decide +kernel)]; exact ⟨rfl, rfl⟩))
    (fun os started H enc _ => codeChecks_lifted os started H enc)

/-- The statement. -/
theorem codeChecks_proved : Rows.CodeChecksSaid := codeChecks_over
#print axioms codeChecks_proved

end Go.Proofs.Ytcgajgileehbbaa
