/- CodeRoom: code that fits fits with more locals, more stack, more constants, and without its handlers. Of all methods and constants, and how many more. -/
import Derived.Test.YtcgajgileehbbaaZf
import Derived.Test.YtcgajgileehbbaaZd
import Derived.Test.YtcgajgileehbbaaZb
import Derived.Test.YtcgajgileehbbaaZg
import Derived.Test.YtcgajgileehbbaaZe
namespace Go.Proofs.Ytcgajgileehbbaa
open Go.ChangeShapes Go.WideShapes Go.ChangeAt Go.RowKit
open Go.ChangeMaps (open_string shut_string)
set_option linter.unusedVariables false
set_option maxRecDepth 100000 in
set_option maxHeartbeats 8000000 in
theorem codeRoom_walk (w : World) (m : Me) (va vc vh : Value) (hm : MeAt w m va vc vh) (hok : MeOk m) (v : Value) (pool : List Cst) (hp : ShC.Row w v pool) (hpl : pool.length * 56 ≤ 140737488351232) (t : Int) (ht : B64 t) :
    Calls Try.prog 9 #[.agg (m.vals va vc vh), v, .int .i64 t] w fun e w' => e = .returned (.bool true) ∧ Ext w w' := by
  obtain ⟨z1, z2, z3, -⟩ := hok
  have er0 : reachBytes = 140737488351232 := rfl
  rw [er0] at z1 z2 z3
  have HP := Lib.hid hp
  have HM := Lib.hid hm
  have HC := Lib.hid (fun W (e : Ext w W) => refCopyM_any m va vc vh W (hm.ext e) (by omega) (by omega) (by omega))
  have HK := Lib.hid (fun mm a b c vp pp W (h : MeAt W mm a b c) (h2 : ShC.Row W vp pp) => Check_any mm a b c vp pp W h h2)
  have HV := Lib.hid (fun (mm : Me) (e0 : mm.hs = []) a b c W (h : MeAt W mm a b c) => Covers_any mm a b c t W h (by rw [e0]; simp))
  have H0K := Lib.hid (fun W (e : Ext w W) => Check_any m va vc vh v pool W (hm.ext e) (hp.ext e))
  have HBr := Lib.hid (fun W => bring_any t 50 W (by have := ht.1; omega) (by have := ht.2; omega) (by omega) (by omega))
  obtain ⟨k0, hn, hn0⟩ : ∃ k0 : Nat, bring t 50 = k0 ∧ k0 < 50 := by
    rw [bring_pos t (by omega)]
    have h1 := Int.emod_nonneg t (show (50 : Int) ≠ 0 by omega)
    have h2 := Int.emod_lt_of_pos t (show (0 : Int) < 50 by omega)
    exact ⟨(t % 50).toNat, by omega, by omega⟩
  rw [hn] at HBr
  have HMore := Lib.hid (fun (z : List Cst) hs (h : hs = m.hs ∨ hs = []) (h0 : (checkZ m pool).2.2 = 0) => checkZ_more (m := m) (pool := pool) (z := z) (n := k0) (by omega) h0 h)
  have HRm := Lib.hid (fun (h0 : (checkZ m pool).2.2 = 0) => checkZ_room h0)
  obtain ⟨R, hR⟩ : ∃ R, checkZ m pool = R := ⟨_, rfl⟩
  rw [hR] at H0K HMore HRm
  obtain ⟨l, k, er⟩ := R
  simp only at HMore HRm
  have HS := Lib.hid (fun W u1 u2 (o1 : RowI W u1 l) (o2 : RowI W u2 l) => refSameL_any u1 u2 l l W o1 o2)
  rw [decide_eq_true (rfl : l = l)] at HS
  obtain ⟨Aa, ca, rfl, -⟩ := hm.1.cut
  obtain ⟨Ac, cc, rfl, -⟩ := id hm.2.1
  obtain ⟨Ah, ch, rfl, -⟩ := hm.2.2.cut
  obtain ⟨Ap, cp, rfl, -⟩ := hp.cut
  have HMB := Lib.hid (fun W (e : Ext (w.alloc (.cells (m.vals (.slice Aa m.args.length ca) (.slice Ac m.code.length cc) (.slice Ah m.hs.length ch)) 48)) W) => ((MeB.new w m (.slice Aa m.args.length ca) (.slice Ac m.code.length cc) (.slice Ah m.hs.length ch)).ext e).cells)
  unfold Me.vals at HMB HC H0K ⊢
  clear hm hp hR hn
  obtain ⟨y0, y1, y2, y3, y4, y5, y6, y7, y8, y9⟩ := HMB.out _ (Ext.refl _)
  go_enter Try.func9, Try.ntmps9
  go_wp2_with fail
  refine (H0K.out _ ((Ext.refl w).alloc _)).mono ?_
  rintro e w1 ⟨v1, rfl, ⟨u, rfl, ho⟩, x1⟩
  have P1 := Lib.hid ho.row
  have X1 := Lib.hid x1
  clear ho x1 y0 y1 y2 y3 y4 y5 y6 y7 y8 y9
  by_cases he : er = 0
  · subst he
    obtain ⟨y0, y1, y2, y3, y4, y5, y6, y7, y8, y9⟩ := HMB.out _ X1.out
    go_wp2_with fail
    refine (HBr.out _).mono ?_
    rintro e w1' ⟨rfl, rfl⟩
    go_wp2_with fail
    refine (HC.out _ (((Ext.refl w).alloc _).trans X1.out)).mono ?_
    rintro e w2 ⟨v2, rfl, ⟨ua, uc, uh, rfl, hm2⟩, x2⟩
    have M2 := Lib.hid hm2
    have X2 := Lib.hid (((Ext.refl w).alloc _).trans (X1.out.trans x2))
    have P2 := Lib.hid (P1.out.ext x2)
    obtain ⟨Ba, da, rfl, -⟩ := hm2.1.cut
    obtain ⟨Bc, dc, rfl, -⟩ := id hm2.2.1
    obtain ⟨Bh, dh, rfl, -⟩ := hm2.2.2.cut
    unfold Me.vals
    obtain ⟨r1, r2, r3, r4⟩ := HRm.out (by trivial)
    have hif1 : (if wrap64 (m.lo + k0) < 255 then wrap64 (m.lo + k0) else 255) = min 255 (m.lo + k0) := by
      rw [show wrap64 (m.lo + k0) = m.lo + k0 by unfold wrap64; omega]
      split <;> omega
    have hif2 : (if wrap64 (m.sk + k0) < 255 then wrap64 (m.sk + k0) else 255) = min 255 (m.sk + k0) := by
      rw [show wrap64 (m.sk + k0) = m.sk + k0 by unfold wrap64; omega]
      split <;> omega
    clear hm2 x2 y0 y1 y2 y3 y4 y5 y6 y7 y8 y9 r1 r2 r3 r4
    have T2 : Ten (w2.alloc (.cells #[.bool m.st, .bool m.ab, .string m.nm, .int .i64 m.ret.k, .string m.ret.s, .slice Ba m.args.length da, .int .i64 m.sk, .int .i64 m.lo, .slice Bc m.code.length dc, .slice Bh m.hs.length dh] 48)) w2.heap.size #[.bool m.st, .bool m.ab, .string m.nm, .int .i64 m.ret.k, .string m.ret.s, .slice Ba m.args.length da, .int .i64 m.sk, .int .i64 m.lo, .slice Bc m.code.length dc, .slice Bh m.hs.length dh] := ⟨heap_alloc_new _ _, rfl⟩
    have T3 : Ten (w2.alloc (.cells #[.bool m.st, .bool m.ab, .string m.nm, .int .i64 m.ret.k, .string m.ret.s, .slice Ba m.args.length da, .int .i64 (min 255 (m.sk + k0)), .int .i64 (min 255 (m.lo + k0)), .slice Bc m.code.length dc, .slice Bh m.hs.length dh] 48)) w2.heap.size #[.bool m.st, .bool m.ab, .string m.nm, .int .i64 m.ret.k, .string m.ret.s, .slice Ba m.args.length da, .int .i64 (min 255 (m.sk + k0)), .int .i64 (min 255 (m.lo + k0)), .slice Bc m.code.length dc, .slice Bh m.hs.length dh] := ⟨heap_alloc_new _ _, rfl⟩
    obtain ⟨y0, y1, y2, y3, y4, y5, y6, y7, y8, y9⟩ := ten_cells T2
    have HT := Lib.hid T3
    clear T2 T3
    have hsz : (w2.alloc (.cells #[.bool m.st, .bool m.ab, .string m.nm, .int .i64 m.ret.k, .string m.ret.s, .slice Ba m.args.length da, .int .i64 (min 255 (m.sk + k0)), .int .i64 (min 255 (m.lo + k0)), .slice Bc m.code.length dc, .slice Bh m.hs.length dh] 48)).heap.size = w2.heap.size + 1 := by simp
    go_wp2_with (first
      | (at_builtin; go_loud (refine Shp.wpList_app ShC _ rfl _ _ (w2.heap.size + 1) 49 _ 56 rfl Try.underlying49 infoC rfl (by omega) (.slice none 0 0) [] rfl (Shp.Own.nil _ _ _) (.slice Ap pool.length cp) pool rfl (HP.out.ext (X2.out.alloc _)) (fun _ _ => trivial) (by simp; omega) (by simp) ?_); intro u3 w3 o3 g3 _
         rw [List.nil_append] at o3
         have x3 : Ext (w2.alloc (.cells #[.bool m.st, .bool m.ab, .string m.nm, .int .i64 m.ret.k, .string m.ret.s, .slice Ba m.args.length da, .int .i64 (min 255 (m.sk + k0)), .int .i64 (min 255 (m.lo + k0)), .slice Bc m.code.length dc, .slice Bh m.hs.length dh] 48)) w3 := (Ext.refl _).grown g3 (fun g h => by cases h)
         obtain ⟨A3, c3, rfl, -⟩ := o3.slice
         have X3 := Lib.hid x3
         have O3 := Lib.hid o3
         have hs3 : w2.heap.size + 1 ≤ w3.heap.size := by have := x3.size; rw [hsz] at this; exact this
         clear o3 x3 g3)
      | (at_builtin; go_loud (refine Shp.wpList_zeros ShC _ rfl _ _ (w2.heap.size + 1) 49 3 .i64 .i64 _ 56 rfl Try.underlying49 Try.underlying3 infoC rfl (.slice A3 pool.length c3) pool rfl O3.out k0 rfl trivial trivial (by omega) (by omega) hs3 ?_); intro u4 w4 o4 g4 _
         have x4 : Ext (w2.alloc (.cells #[.bool m.st, .bool m.ab, .string m.nm, .int .i64 m.ret.k, .string m.ret.s, .slice Ba m.args.length da, .int .i64 (min 255 (m.sk + k0)), .int .i64 (min 255 (m.lo + k0)), .slice Bc m.code.length dc, .slice Bh m.hs.length dh] 48)) w4 := X3.out.grown g4 (fun g h => by have := O3.out.low g h; rw [hsz]; exact this)
         obtain ⟨A4, c4, rfl, -⟩ := o4.slice
         have X4 := Lib.hid x4
         have O4 := Lib.hid o4
         have HT4 := Lib.hid (HT.out.ext x4)
         clear o4 x4 g4 y0 y1 y2 y3 y4 y5 y6 y7 y8 y9
         obtain ⟨y0, y1, y2, y3, y4, y5, y6, y7, y8, y9⟩ := ten_cells HT4.out))
    have XX4 := Lib.hid (((Ext.refl w2).alloc _).trans X4.out)
    have hg4 : w2.heap.size < w4.heap.size := by have := X4.out.size; rw [hsz] at this; exact this
    have K1 := HK.out (m.more k0 m.hs) (.slice Ba m.args.length da) (.slice Bc m.code.length dc) (.slice Bh m.hs.length dh) _ (pool ++ List.replicate k0 ShC.zero) w4 (M2.out.ext XX4.out) O4.out.row
    rw [HMore.out (List.replicate k0 ShC.zero) m.hs (.inl rfl) (by trivial)] at K1
    simp only [List.length_append, List.length_replicate, Me.vals, Me.more] at K1
    refine K1.mono ?_
    clear K1 y0 y1 y2 y3 y4 y5 y6 y7 y8 y9
    rintro e w5 ⟨v5, rfl, ⟨u5, rfl, ho5⟩, x5⟩
    have hs5 := x5.size
    have T5 := HT4.out.ext x5
    have f5 := T5.free
    have T6 : Ten (w5.setCell ⟨w2.heap.size, 9, none⟩ (.slice none 0 0)) w2.heap.size #[.bool m.st, .bool m.ab, .string m.nm, .int .i64 m.ret.k, .string m.ret.s, .slice Ba m.args.length da, .int .i64 (min 255 (m.sk + k0)), .int .i64 (min 255 (m.lo + k0)), .slice Bc m.code.length dc, .slice none 0 0] := T5.put 9 (.slice none 0 0)
    have HT6 := Lib.hid T6
    have P56 := Lib.hid (ho5.under hg4 9 (.slice none 0 0)).row
    have O5 := O4.out.ext x5
    have O6 := Lib.hid (O5.kept (only_set (World.grownBy.refl w5 (some w2.heap.size)) 9 (.slice none 0 0)) (fun g hg e => by injection e with e; subst e; have := O5.low _ hg; omega) (fun _ _ h => h)).row
    have X6 := Lib.hid ((XX4.out.trans x5).set_ (p := ⟨w2.heap.size, 9, none⟩) (Nat.le_refl _) (.slice none 0 0))
    have M6 : Hid (MeAt (w5.setCell ⟨w2.heap.size, 9, none⟩ (.slice none 0 0)) (m.more k0 []) (.slice Ba m.args.length da) (.slice Bc m.code.length dc) (.slice none 0 0)) := Lib.hid ⟨(M2.out.ext X6.out).1, (M2.out.ext X6.out).2.1, Shp.Row.nil _ _⟩
    have P26 := Lib.hid (P2.out.ext X6.out)
    clear ho5 O5 x5
    obtain ⟨y0, y1, y2, y3, y4, y5, y6, y7, y8, y9⟩ := ten_cells T5
    obtain ⟨q0, q1, q2, q3, q4, q5, q6, q7, q8, q9⟩ := ten_cells T6
    clear T5 T6
    go_wp2_with fail
    have K2 := HK.out (m.more k0 []) _ _ _ _ (pool ++ List.replicate k0 ShC.zero) _ M6.out O6.out
    rw [HMore.out (List.replicate k0 ShC.zero) [] (.inr rfl) (by trivial)] at K2
    simp only [List.length_append, List.length_replicate, Me.vals, Me.more] at K2
    refine K2.mono ?_
    clear K2 y0 y1 y2 y3 y4 y5 y6 y7 y8 y9 q0 q1 q2 q3 q4 q5 q6 q7 q8 q9 f5
    rintro e w7 ⟨v7, rfl, ⟨u7, rfl, ho7⟩, x7⟩
    have P27 := Lib.hid (P26.out.ext x7)
    have P57 := Lib.hid (P56.out.ext x7)
    have P7 := Lib.hid ho7.row
    have X7 := Lib.hid x7
    clear ho7 x7
    go_wp2_with fail
    refine (HS.out _ _ _ P27.out P57.out).mono ?_
    rintro e w8 ⟨rfl, x8⟩
    have P28 := Lib.hid (P27.out.ext x8)
    have P78 := Lib.hid (P7.out.ext x8)
    have X8 := Lib.hid (X7.out.trans x8)
    clear x8
    go_wp2_with fail
    refine (HS.out _ _ _ P28.out P78.out).mono ?_
    rintro e w9 ⟨rfl, x9⟩
    have X9 := Lib.hid (X8.out.trans x9)
    clear x9
    obtain ⟨q0, q1, q2, q3, q4, q5, q6, q7, q8, q9⟩ := ten_cells (HT6.out.ext X9.out)
    go_wp2_with fail
    have K3 := HV.out (m.more k0 []) rfl _ _ _ _ (M6.out.ext X9.out)
    simp only [Me.vals, Me.more, coverZ_none] at K3
    refine K3.mono ?_
    clear K3 q0 q1 q2 q3 q4 q5 q6 q7 q8 q9
    rintro e w10 ⟨v10, rfl, o10, x10⟩
    obtain ⟨A10, c10, rfl, -⟩ := o10.row
    have X10 := Lib.hid (X9.out.trans x10)
    clear o10 x10
    go_wp2_with fail
    refine (awake_any _).mono ?_
    rintro e w11 ⟨rfl, x11⟩
    go_wp2
    go_ret
    exact ⟨rfl, ((X2.out.trans X6.out).trans X10.out).trans x11⟩
  · have hb : (er != 0) = true := by simpa using he
    clear he
    go_wp2_with fail
    refine (awake_any _).mono ?_
    rintro e w6 ⟨rfl, x6⟩
    go_wp2
    go_ret
    exact ⟨rfl, (((Ext.refl w).alloc _).trans X1.out).trans x6⟩

set_option maxRecDepth 100000 in
theorem codeRoom_lifted (os : Os) (started : os.Started) (H : Type) (enc : TypeId × Value → H) :
    ReturnsInHanded {} Try.checked os 9 .any (Rows.codeRoomSpec.pre6 enc Try.prog Try.f9 Rows.codeRoomRow.domain false) (Rows.codeRoomSpec.post enc Try.prog Try.f9 false true false false) := by
  refine returnsInHanded_of_change_sized (C := Try.checked) own started (by kernel_rfl) Try.func9
    (ChangeSpec.witness6 (enc := enc) (C := Try.checked) false ⟨#[], #[.agg #[.bool false, .bool false, .string ⟨#[]⟩, .int .i64 0, .string ⟨#[]⟩, .slice none 0 0, .int .i64 0, .int .i64 0, .slice none 0 0, .slice none 0 0], .slice none 0 0, .int .i64 0], []⟩ 8 (by kernel_rfl) (by kernel_rfl) (by kernel_rfl) (by kernel_rfl)) ?_
  intro W base args ds gs before hval0 hW hcnd hsz0 _
  have hval : ∀ (j : Nat) t v, Try.f9.params[j]? = some t → args[j]? = some v → Value.okWide Try.prog W .any base t v := hval0
  have hsz : (DataW.weightsEach Try.prog (Try.f9.params.toList ++ Rows.codeRoomSpec.plain.varTypes Try.prog) (ds ++ gs)).all (· ≤ reachBytes) = true := hsz0
  have hW' := hW
  obtain ⟨p, q, hA0, hV, rfl, hfz, hnd⟩ := hW
  have hA : DataW.TrodAll enc Try.prog W 0 (fun _ => true) true Try.f9.params.toList args.toList ds p := hA0
  rw [Try.params9] at hA hval hsz
  obtain ⟨v0, vs0, d0, ds0, p0, q0, hargs, rfl, rfl, h0, r0⟩ := trodAll_cons hA
  obtain ⟨v1, vs1, d1, ds1, p1, q1, rfl, rfl, rfl, h1, r1⟩ := trodAll_cons r0
  obtain ⟨v2, vs2, d2, ds2, p2, q2, rfl, rfl, rfl, h2, r2⟩ := trodAll_cons r1
  obtain ⟨rfl, rfl, rfl⟩ := trodAll_nil r2
  obtain rfl : args = #[v0, v1, v2] := by cases args; simp_all
  obtain ⟨rfl, rfl⟩ := trodVars_none hV
  obtain ⟨cs0, rfl, -⟩ := okWide_struct Try.underlying48 (hval 0 48 v0 rfl rfl)
  have k0 := h0
  have lt0 : ∀ x ∈ p0, x.block < W.heap.size := by obtain ⟨m, hm⟩ := k0; exact DataW.trod_lt m _ _ _ hm
  obtain ⟨m0, va0, vc0, vh0, e0, w0, z0⟩ : ∃ (m : Me) (va vc vh : Value), cs0 = m.vals va vc vh ∧ MeAt W m va vc vh ∧ MeOk m := by
    obtain ⟨fuel, hf⟩ := h0
    obtain ⟨m, va, vc, vh, hcs, hm, hok⟩ := open_methG _ _ _ hf (light_of hsz (j := 0) rfl rfl)
    have hcs : cs0.toList = (m.vals va vc vh).toList := by simpa [Value.cells] using hcs
    exact ⟨m, va, vc, vh, Array.toList_inj.1 hcs, hm, hok⟩
  subst e0
  obtain ⟨a1, len1, cap1, rfl⟩ := okWide_slice Try.underlying49 (hval 1 49 v1 rfl rfl)
  have k1 := h1
  have lt1 : ∀ x ∈ p1, x.block < W.heap.size := by obtain ⟨m, hm⟩ := k1; exact DataW.trod_lt m _ _ _ hm
  obtain ⟨l1, w1, z1⟩ : ∃ l, ShC.Row W (.slice a1 len1 cap1) l ∧ l.length * 56 ≤ 140737488351232 := by
    obtain ⟨fuel, hf⟩ := h1
    obtain ⟨A, n, c, l, hcs, hln, hrow, hb, -⟩ := open_listG ShC (bytes := 56) (Q := fun _ => True) Try.underlying49 (by kernel_rfl) (by kernel_rfl) open_cstG hf (light_of hsz (j := 1) rfl rfl)
    simp [Value.cells] at hcs
    obtain ⟨rfl, rfl, rfl⟩ := hcs
    exact ⟨l, hrow, hb⟩
  obtain ⟨a2, rfl, rfl, rfl, w2⟩ := open_int Try.underlying3 (hval 2 3 v2 rfl rfl) h2
  have z2 : B64 a2 := bounds_i64 w2
  clear hA0 hval0 hsz0
  refine (codeRoom_walk W m0 va0 vc0 vh0 w0 z0 (.slice a1 len1 cap1) l1 w1 z1 a2 z2).mono fun e W' ⟨he, bel⟩ => ?_
  subst he
  exact ⟨_, rfl, _, _, _, [], _, [], hW', trodAll_mk1 (shut_bool Try.underlying4 _), (trodAll_cons_mk (Below.trod laidOut (by kernel_rfl) (of_decide_eq_true (by kernel_rfl)) k0 bel lt0) (trodAll_cons_mk (Below.trod laidOut (by kernel_rfl) (of_decide_eq_true (by kernel_rfl)) k1 bel lt1) (trodAll_cons_mk (shut_int Try.underlying3 w2) trodAll_mk0))), rfl, bel.frame _, fun h => by cases h⟩

theorem codeRoom_over : Rows.codeRoomRow.holds Try.pinned (OpenSpec.ofChange Rows.codeRoomSpec) :=
  OpenClaim.holds_of_wide 9 Try.f9 rfl rfl rfl rfl rfl rfl rfl ⟨rfl, rfl, rfl, rfl, rfl⟩ rfl rfl rfl rfl rfl (by kernel_rfl) Try.func9 (by kernel_rfl)
    (of_decide_eq_true (by kernel_rfl)) (by unfold Func.isWrapper; first | (rw [if_pos (by decide +kernel)]; kernel_rfl) | (rw [if_neg (by decide +kernel)]; exact ⟨rfl, rfl⟩))
    (fun os started H enc _ => codeRoom_lifted os started H enc)

/-- The statement. -/
theorem codeRoom_proved : Rows.CodeRoomSaid := codeRoom_over
#print axioms codeRoom_proved

end Go.Proofs.Ytcgajgileehbbaa
