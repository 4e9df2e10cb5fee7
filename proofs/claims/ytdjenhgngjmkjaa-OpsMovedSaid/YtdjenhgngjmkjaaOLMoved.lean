/- OpsMoved: an instruction that is moved, with all to which it goes, has the same bytes. Of all instructions, and how far. -/
import Derived.Test.YtdjenhgngjmkjaaOOpen
import Derived.Test.YtdjenhgngjmkjaaOpsAw
import Derived.Test.YtdjenhgngjmkjaaOpsEn
import Derived.Test.YtdjenhgngjmkjaaOpsCp
import Derived.Test.YtdjenhgngjmkjaaOpsMv
import Derived.Test.YtdjenhgngjmkjaaBring
import Derived.Test.YtdjenhgngjmkjaaEq0
import Derived.LoopN
import Derived.Deep.RegionLaw
import Derived.Deep.RegionWith
import Derived.Deep.CutRange
namespace Go.Proofs.Ytdjenhgngjmkjaa
open Go.ChangeShapes Go.WideShapes Go.ChangeAt Go.RowKit
open Go.ChangeMaps (open_string shut_string)
set_option linter.unusedVariables false
set_option maxRecDepth 100000 in
set_option maxHeartbeats 8000000 in
theorem opsMoved_yes (w : World) (v1 v2 : Value) (x : In) (h1 : Row w .i64 v1 x.to) (h2 : Row w .i64 v2 x.ks) (hz : x.to.length * 8 ≤ 140737488351232 ∧ x.ks.length * 8 ≤ 140737488351232) (hm : mayI x = true) (a : Int) (ha' : -9223372036854775808 ≤ a ∧ a ≤ 9223372036854775807) :
    Calls Try.prog 10 #[.agg (x.vals v1 v2), .int .i64 a] w fun e w' => e = .returned (.bool true) ∧ Ext w w' := by
  have H1 := Lib.hid h1
  have H2 := Lib.hid h2
  obtain ⟨A1, k1, rfl, -⟩ := h1
  obtain ⟨A2, k2, rfl, -⟩ := h2
  have ha := (may_parts hm).1
  have HB := Lib.hid (fun W e => boxed (w := w) (W := W) (x := x) (v1 := .slice A1 x.to.length k1) (v2 := .slice A2 x.ks.length k2) e)
  obtain ⟨d0, d1, d2, d3, d4, d5⟩ := HB.out _ (Ext.refl _)
  have HE := Lib.hid (fun W (e : Ext w W) => Encode_any x _ _ W (H1.out.ext e) (H2.out.ext e))
  rw [show opsEnc x = (encB x, 0) by unfold opsEnc; rw [if_pos hm]] at HE
  have HC := Lib.hid (fun W (e : Ext w W) => refCopy_any x _ _ W (H1.out.ext e) (H2.out.ext e) (by omega) (by omega))
  obtain ⟨bk, hbk, hbk2⟩ := bring_nat a (n := 200) (by omega)
  have BR := Lib.hid (fun W => bring_any a 200 W ha'.1 ha'.2 (by omega) (by omega))
  rw [show (((200 : Nat) : Int)) = 200 from rfl] at hbk
  rw [hbk] at BR
  obtain ⟨d, hd⟩ : ∃ d : Int, (bk : Int) - 100 = d := ⟨_, rfl⟩
  have hwd : IntKind.i64.wrap ((bk : Int) - 100) = d := by rw [IntKind.wrap_i64]; omega
  have hwa : IntKind.i64.wrap (x.a + d) = x.a + d := by rw [IntKind.wrap_i64]; omega
  have HM := Lib.hid (mv_may hm d)
  have HV := Lib.hid (mv_enc hm d)
  have HT := Lib.hid (fun (k : Nat) (hk : k < x.to.length) => all_gi (may_parts hm).2.1 hk)
  have HA := Lib.hid ha
  have HDD := Lib.hid (show -100 ≤ d ∧ d ≤ 99 by omega)
  have hcase : (0 ≤ x.a + d ∧ x.a + d < 8192) ∨ x.a + d < 0 ∨ (0 ≤ x.a + d ∧ ¬ x.a + d < 8192) := by omega
  unfold In.vals at HB HE HC d0 d1 d2 d3 d4 d5 ⊢
  clear hm ha hbk hbk2 hz ha' hd
  rcases hcase with ⟨q1, q2⟩ | q1 | ⟨q1, q2⟩
  all_goals
    go_enter Try.func10, Try.ntmps10
    go_wp2_with fail
    refine (HE.out _ ((Ext.refl w).alloc _)).mono ?_
    rintro e w1 ⟨v', rfl, ⟨b1, rfl, o1⟩, x1⟩
    obtain ⟨B1, c1, rfl, hr11, hr12, -⟩ := id o1.row
    clear d0 d1 d2 d3 d4 d5
    obtain ⟨d0, d1, d2, d3, d4, d5⟩ := HB.out _ x1
    have X1 := ((Ext.refl w).alloc (.cells #[.int .i64 x.a, .int .i64 x.o, .int .i64 x.n, .int .i64 x.m, .slice A1 x.to.length k1, .slice A2 x.ks.length k2] 26)).trans x1
    go_wp2_with fail
    refine (HC.out _ X1).mono ?_
    rintro e w2 ⟨v', rfl, ⟨u1, u2, rfl, o2, o3, hne⟩, x2⟩
    obtain ⟨B2, c2, rfl, hr21, hr22, -⟩ := id o2.row
    obtain ⟨B3, c3, rfl, -⟩ := id o3.row
    unfold maxLen at hr22
    unfold In.vals
    clear d0 d1 d2 d3 d4 d5
    have HO1 := Lib.hid o1.row
    have HX2 := Lib.hid x2
    have HO2 := Lib.hid (o2.ext ((Ext.refl w2).alloc (.cells #[.int .i64 (x.a + d), .int .i64 x.o, .int .i64 x.n, .int .i64 x.m, .slice B2 x.to.length c2, .slice B3 x.ks.length c3] 26)))
    have HO3 := Lib.hid (o3.ext ((Ext.refl w2).alloc (.cells #[.int .i64 (x.a + d), .int .i64 x.o, .int .i64 x.n, .int .i64 x.m, .slice B2 x.to.length c2, .slice B3 x.ks.length c3] 26)))
    have HNE := Lib.hid hne
    have HX1 := Lib.hid X1
    clear x1 x2 o1 o2 o3 hne X1
    go_wp2_with fail
    refine (BR.out _).mono ?_
    rintro e w3 ⟨rfl, rfl⟩
    go_wp2_with fail
    go_loopw [9, 10] (fun ins i wr => ∃ (k : Nat) (b : Bool), ins = .bool b ∧ i = .int .i64 k ∧ k ≤ x.to.length ∧ Hid (b = inB x d k) ∧ Hid (XP wr w2.heap.size ⟨x.a + d, x.o, x.n, x.m, [], []⟩ (.slice B2 x.to.length c2) (.slice B3 x.ks.length c3)) ∧ Hid (Own w1.heap.size wr 3 .i64 (.slice B2 x.to.length c2) (mvK x.to d k)) ∧ Hid (Own w1.heap.size wr 3 .i64 (.slice B3 x.ks.length c3) x.ks) ∧ Hid (Ext w1 wr)) (fun _ i _ => x.to.length - (intOf i).toNat)
    case atStart => exact ⟨0, inB x d 0, congrArg Value.bool (by unfold inB inC; simp; omega), rfl, by omega, Lib.hid rfl, Lib.hid (heap_alloc_new _ _), by rw [mvK_zero]; exact HO2, HO3, Lib.hid (HX2.out.alloc _)⟩
    case round =>
      obtain ⟨k, b, rfl, rfl, hk, HBk, HXk, HOk, HPk, HEk⟩ := hrel
      obtain ⟨c0', c1', c2', c3', c4', c5'⟩ := HXk.out.cells
      simp only at c0' c1' c2' c3'
      by_cases hlt : k < x.to.length
      · obtain ⟨gb, cb, hq, hlow, hhigh, -, -, hcell, hfr⟩ := HOk.out.parts (by rw [mvK_len]; omega)
        injection hq with hq1 hq2 hq3
        subst hq1
        clear hq2 hq3
        have hck := hcell k (by rw [mvK_len]; exact hlt)
        rw [mvK_at hlt] at hck
        have hfk := hfr k
        have hT := HT.out k hlt
        have hA := HA.out
        have hD := HDD.out
        have hwt : IntKind.i64.wrap (gi x.to k + d) = gi x.to k + d := by rw [IntKind.wrap_i64]; omega
        have hwf := wf_i64 (x := gi x.to k + d) (by omega) (by omega)
        have hgg : ¬ gb = w2.heap.size := fun e => by
          subst e
          exact own_ne HOk.out HXk.out (by decide) rfl
        have hgg' : ¬ w2.heap.size = gb := fun e => hgg e.symm
        have hp := HOk.out.put (j := k) (x := gi x.to k + d) (by rw [mvK_len]; exact hlt) hwf
        rw [mvK_set hlt] at hp
        have hg1 : wr.grownBy (wr.setCell ⟨gb, k, none⟩ (.int .i64 (gi x.to k + d))) (some gb) := only_set (World.grownBy.refl wr _) k _
        have hp3 := HPk.out.kept hg1 (fun q hq e => by injection e with e; subst e; exact HNE.out _ rfl hq)
        have hxx : XP (wr.setCell ⟨gb, k, none⟩ (.int .i64 (gi x.to k + d))) w2.heap.size ⟨x.a + d, x.o, x.n, x.m, [], []⟩ (.slice (some ⟨gb, 0, none⟩) x.to.length c2) (.slice B3 x.ks.length c3) := (Below.heap_setCell wr ⟨gb, k, none⟩ _ w2.heap.size hgg').trans HXk.out
        have hEE : Ext w1 (wr.setCell ⟨gb, k, none⟩ (.int .i64 (gi x.to k + d))) := HEk.out.set_ (p := ⟨gb, k, none⟩) hlow _
        have hnx := inB_next (x := x) (d := d) hlt
        rw [← HBk.out] at hnx
        obtain ⟨gb2, cb2, hq2, -, -, -, -, hcell2, -⟩ := hp.parts (by rw [mvK_len]; omega)
        injection hq2 with hq21 hq22 hq23
        injection hq21 with hq21
        injection hq21 with hq21
        subst hq21
        have hck2 := hcell2 k (by rw [mvK_len]; exact hlt)
        have hgk : gi (mvK x.to d (k + 1)) k = gi x.to k + d := by
          rw [← mvK_set hlt]
          have : k < (mvK x.to d k).length := by rw [mvK_len]; exact hlt
          simp [gi, this]
        rw [hgk] at hck2
        obtain ⟨c0'', c1'', c2'', c3'', c4'', c5''⟩ := hxx.cells
        have HN := Lib.hid hnx
        have HP := Lib.hid hp
        have HP3 := Lib.hid hp3
        have HXX := Lib.hid hxx
        have HEE := Lib.hid hEE
        clear hq22 hq23 hcell hcell2 hfr hp hp3 hxx hEE hnx hg1 hwf hT hA hD hgk hhigh hlow c0' c1' c2' c3' c5' c0'' c1'' c2'' c3'' c5''
        have htc : (0 ≤ gi x.to k + d ∧ gi x.to k + d < 8192) ∨ gi x.to k + d < 0 ∨ (0 ≤ gi x.to k + d ∧ ¬ gi x.to k + d < 8192) := by omega
        go_wp2_with fail
        go_region
        all_goals
          obtain ⟨W5, hW5⟩ : ∃ W5, W5 = wr.setCell ⟨gb, k, none⟩ (.int .i64 (gi x.to k + d)) := ⟨_, rfl⟩
          rw [← hW5] at HP HP3 HXX HEE hck2 c4'' ⊢
          clear hW5
          cases b
          · have hb : inB x d (k + 1) = false := by rw [HN.out]; rfl
            have HBB := Lib.hid hb.symm
            clear hb
            go_wp2_with fail
            go_roundw
            case rel => exact ⟨k + 1, false, rfl, by go_num, by omega, HBB, Lib.hid (HXX.out.at_ (Ext.refl _).drew), Lib.hid (HP.out.ext (Ext.refl _).drew), Lib.hid (HP3.out.ext (Ext.refl _).drew), Lib.hid (HEE.out.drew)⟩
            case measure => simp [intOf]; omega
          · rcases htc with ⟨t1, t2⟩ | t1 | ⟨t1, t2⟩
            · have hb : inB x d (k + 1) = true := by rw [HN.out]; simp [inC, t1, t2]
              have HBB := Lib.hid hb.symm
              clear hb
              go_wp2_with fail
              go_roundw
              case rel => exact ⟨k + 1, true, rfl, by go_num, by omega, HBB, Lib.hid (HXX.out.at_ (Ext.refl _).drew), Lib.hid (HP.out.ext (Ext.refl _).drew), Lib.hid (HP3.out.ext (Ext.refl _).drew), Lib.hid (HEE.out.drew)⟩
              case measure => simp [intOf]; omega
            · have hb : inB x d (k + 1) = false := by rw [HN.out]; simp [inC]; omega
              have HBB := Lib.hid hb.symm
              clear hb
              go_wp2_with fail
              go_roundw
              case rel => exact ⟨k + 1, false, rfl, by go_num, by omega, HBB, Lib.hid (HXX.out.at_ (Ext.refl _).drew), Lib.hid (HP.out.ext (Ext.refl _).drew), Lib.hid (HP3.out.ext (Ext.refl _).drew), Lib.hid (HEE.out.drew)⟩
              case measure => simp [intOf]; omega
            · have hb : inB x d (k + 1) = false := by rw [HN.out]; simp [inC]; omega
              have HBB := Lib.hid hb.symm
              clear hb
              go_wp2_with fail
              go_roundw
              case rel => exact ⟨k + 1, false, congrArg Value.bool (decide_eq_false (by omega)), by go_num, by omega, HBB, Lib.hid (HXX.out.at_ (Ext.refl _).drew), Lib.hid (HP.out.ext (Ext.refl _).drew), Lib.hid (HP3.out.ext (Ext.refl _).drew), Lib.hid (HEE.out.drew)⟩
              case measure => simp [intOf]; omega
      · obtain rfl : k = x.to.length := by omega
        have HF := Lib.hid (fun W (e : Ext wr W) => Encode_any (mv x d) _ _ W ((mvK_all x.to d ▸ HOk.out.ext e).row) (HPk.out.ext e).row)
        unfold In.vals mv at HF
        simp only at HF
        have hmv : opsEnc (mv x d) = if b = true then (encB x, 0) else ([], 2) := by
          unfold opsEnc
          rw [HM.out, HV.out, ← HBk.out]
        unfold mv at hmv
        rw [hmv] at HF
        clear hmv
        cases b
        · rw [if_neg (by simp)] at HF
          go_wp2_with fail
          refine (HF.out _ (Ext.refl _)).mono ?_
          rintro e w5 ⟨v', rfl, ⟨b5, rfl, o5⟩, x5⟩
          go_wp2_with fail
          refine (awake_any _).mono ?_
          rintro e w6 ⟨rfl, x6⟩
          go_wp2
          go_ret
          exact ⟨rfl, HX1.out.trans (HEk.out.trans (x5.trans x6))⟩
        · rw [if_pos rfl] at HF
          go_wp2_with fail
          refine (HF.out _ (Ext.refl _)).mono ?_
          rintro e w5 ⟨v', rfl, ⟨b5, rfl, o5⟩, x5⟩
          go_wp2_with fail
          refine (eqBytes_any _ _ (encB x) (encB x) _ (HO1.out.ext (HEk.out.trans x5)) o5.row).mono ?_
          rintro e w6 ⟨rfl, n6, rfl⟩
          rw [show decide (encB x = encB x) = true by simp]
          go_wp2_with fail
          refine (awake_any _).mono ?_
          rintro e w7 ⟨rfl, x7⟩
          go_wp2
          go_ret
          exact ⟨rfl, HX1.out.trans (HEk.out.trans (x5.trans (((Ext.refl _).drewN _).trans x7)))⟩
theorem opsMoved_walk (w : World) (v1 v2 : Value) (x : In) (h1 : Row w .i64 v1 x.to) (h2 : Row w .i64 v2 x.ks) (hb : B64 x.a ∧ B64 x.o ∧ B64 x.n ∧ B64 x.m) (hz : x.to.length * 8 ≤ 140737488351232 ∧ x.ks.length * 8 ≤ 140737488351232) (a : Int) (ha : -9223372036854775808 ≤ a ∧ a ≤ 9223372036854775807) :
    Calls Try.prog 10 #[.agg (x.vals v1 v2), .int .i64 a] w fun e w' => e = .returned (.bool true) ∧ Ext w w' := by
  by_cases hm : mayI x = true
  · exact opsMoved_yes w v1 v2 x h1 h2 hz hm a ha
  · have H1 := Lib.hid h1
    have H2 := Lib.hid h2
    obtain ⟨A1, k1, rfl, -⟩ := h1
    obtain ⟨A2, k2, rfl, -⟩ := h2
    have HB := Lib.hid (fun W e => boxed (w := w) (W := W) (x := x) (v1 := .slice A1 x.to.length k1) (v2 := .slice A2 x.ks.length k2) e)
    obtain ⟨d0, d1, d2, d3, d4, d5⟩ := HB.out _ (Ext.refl _)
    have HE := Lib.hid (fun W (e : Ext w W) => Encode_any x _ _ W (H1.out.ext e) (H2.out.ext e))
    rw [show opsEnc x = ([], 2) by unfold opsEnc; rw [if_neg hm]] at HE
    unfold In.vals at HB HE d0 d1 d2 d3 d4 d5 ⊢
    clear hm
    go_enter Try.func10, Try.ntmps10
    go_wp2_with fail
    refine (HE.out _ ((Ext.refl w).alloc _)).mono ?_
    rintro e w1 ⟨v', rfl, ⟨b1, rfl, o1⟩, x1⟩
    go_wp2_with fail
    refine (awake_any _).mono ?_
    rintro e w6 ⟨rfl, x6⟩
    go_wp2
    go_ret
    exact ⟨rfl, ((Ext.refl w).alloc _).trans (x1.trans x6)⟩

set_option maxRecDepth 100000 in
theorem opsMoved_lifted (os : Os) (started : os.Started) (H : Type) (enc : TypeId × Value → H) :
    ReturnsInHanded {} Try.checked os 10 .any (Rows.opsMovedSpec.pre6 enc Try.prog Try.f10 Rows.opsMovedRow.domain false) (Rows.opsMovedSpec.post enc Try.prog Try.f10 false true false false) := by
  refine returnsInHanded_of_change_sized (C := Try.checked) own started (by kernel_rfl) Try.func10
    (ChangeSpec.witness6 (enc := enc) (C := Try.checked) false ⟨#[], #[.agg #[.int .i64 0, .int .i64 0, .int .i64 0, .int .i64 0, .slice none 0 0, .slice none 0 0], .int .i64 0], []⟩ 8 (by kernel_rfl) (by kernel_rfl) (by kernel_rfl) (by kernel_rfl)) ?_
  intro W base args ds gs before hval0 hW hcnd hsz0 _
  have hval : ∀ (j : Nat) t v, Try.f10.params[j]? = some t → args[j]? = some v → Value.okWide Try.prog W .any base t v := hval0
  have hsz : (DataW.weightsEach Try.prog (Try.f10.params.toList ++ Rows.opsMovedSpec.plain.varTypes Try.prog) (ds ++ gs)).all (· ≤ reachBytes) = true := hsz0
  have hW' := hW
  obtain ⟨p, q, hA0, hV, rfl, hfz, hnd⟩ := hW
  have hA : DataW.TrodAll enc Try.prog W 0 (fun _ => true) true Try.f10.params.toList args.toList ds p := hA0
  rw [Try.params10] at hA hval hsz
  obtain ⟨v0, vs0, d0, ds0, p0, q0, hargs, rfl, rfl, h0, r0⟩ := trodAll_cons hA
  obtain ⟨v1, vs1, d1, ds1, p1, q1, rfl, rfl, rfl, h1, r1⟩ := trodAll_cons r0
  obtain ⟨rfl, rfl, rfl⟩ := trodAll_nil r1
  obtain rfl : args = #[v0, v1] := by cases args; simp_all
  obtain ⟨rfl, rfl⟩ := trodVars_none hV
  obtain ⟨cs0, rfl, -⟩ := okWide_struct Try.underlying26 (hval 0 26 v0 rfl rfl)
  have k0 := h0
  have lt0 : ∀ x ∈ p0, x.block < W.heap.size := by obtain ⟨m, hm⟩ := k0; exact DataW.trod_lt m _ _ _ hm
  obtain ⟨y0, u0, t0, e0, w0, x0, b0, z0⟩ : ∃ (y : In) (u t : Value), cs0 = y.vals u t ∧ Row W .i64 u y.to ∧ Row W .i64 t y.ks ∧ (B64 y.a ∧ B64 y.o ∧ B64 y.n ∧ B64 y.m) ∧ y.to.length * 8 ≤ 140737488351232 ∧ y.ks.length * 8 ≤ 140737488351232 := by
    obtain ⟨fuel, hf⟩ := h0
    obtain ⟨y, u, t, d1, d2, hcs, hu, ht, hb, hd, s1, s2⟩ := open_ins hf
    have hd : d0 = _ := hd
    have hw := weights_at hsz (j := 0) rfl (show _ = some d0 from rfl)
    rw [hd] at hw
    have hcs : cs0.toList = (y.vals u t).toList := by simpa [Value.cells] using hcs
    exact ⟨y, u, t, Array.toList_inj.1 hcs, hu, ht, hb, ins_weights s1 s2 hw⟩
  subst e0
  obtain ⟨a1, rfl, rfl, rfl, w1⟩ := open_int Try.underlying3 (hval 1 3 v1 rfl rfl) h1
  have z1 := bounds_i64 w1
  clear hA0 hval0 hsz0
  refine (opsMoved_walk W u0 t0 y0 w0 x0 b0 z0 a1 z1).mono fun e W' ⟨he, bel⟩ => ?_
  subst he
  exact ⟨_, rfl, _, _, _, [], _, [], hW', trodAll_mk1 (shut_bool Try.underlying4 _), (trodAll_cons_mk (Below.trod laidOut (by kernel_rfl) (of_decide_eq_true (by kernel_rfl)) k0 bel lt0) (trodAll_cons_mk (shut_int Try.underlying3 w1) trodAll_mk0)), rfl, bel.frame _, fun h => by cases h⟩

theorem opsMoved_over : Rows.opsMovedRow.holds Try.pinned (OpenSpec.ofChange Rows.opsMovedSpec) :=
  OpenClaim.holds_of_wide 10 Try.f10 rfl rfl rfl rfl rfl rfl rfl ⟨rfl, rfl, rfl, rfl, rfl⟩ rfl rfl rfl rfl rfl (by kernel_rfl) Try.func10 (by kernel_rfl)
    (of_decide_eq_true (by kernel_rfl)) (by unfold Func.isWrapper; first | (rw [if_pos (by decide +kernel)]; kernel_rfl) | (rw [if_neg (by decide +kernel)]; exact ⟨rfl, rfl⟩))
    (fun os started H enc _ => opsMoved_lifted os started H enc)

/-- The statement. -/
theorem opsMoved_proved : Rows.OpsMovedSaid := opsMoved_over
#print axioms opsMoved_proved

end Go.Proofs.Ytdjenhgngjmkjaa
