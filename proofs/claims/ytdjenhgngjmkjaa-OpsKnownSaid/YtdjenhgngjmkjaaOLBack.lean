/- OpsBack: what was encoded is decoded as it was, wherever it stands. Of all instructions, and bytes behind them. -/
import Derived.Test.YtdjenhgngjmkjaaOOpen
import Derived.Test.YtdjenhgngjmkjaaOpsAw
import Derived.Test.YtdjenhgngjmkjaaOpsZ
import Derived.Test.YtdjenhgngjmkjaaOpsC
import Derived.Deep.RegionLaw
import Derived.Deep.CutRange
namespace Go.Proofs.Ytdjenhgngjmkjaa
open Go.ChangeShapes Go.WideShapes Go.ChangeAt Go.RowKit
open Go.ChangeMaps (open_string shut_string)
set_option linter.unusedVariables false
set_option maxRecDepth 100000 in
set_option maxHeartbeats 8000000 in
theorem opsBack_yes (w : World) (v1 v2 : Value) (x : In) (h1 : Row w .i64 v1 x.to) (h2 : Row w .i64 v2 x.ks) (v : Value) (l : List Int) (h : Row w .u8 v l) (hm : mayI x = true) :
    Calls Try.prog 6 #[.agg (x.vals v1 v2), v] w fun e w' => e = .returned (.bool true) ∧ Ext w w' := by
  have H := Lib.hid h
  have H1 := Lib.hid h1
  have H2 := Lib.hid h2
  obtain ⟨A1, k1, rfl, -⟩ := h1
  obtain ⟨A2, k2, rfl, -⟩ := h2
  obtain ⟨A, c, rfl, hc, hmx, -⟩ := h
  have ha := (may_parts hm).1
  have HB := Lib.hid (fun W e => boxed (w := w) (W := W) (x := x) (v1 := .slice A1 x.to.length k1) (v2 := .slice A2 x.ks.length k2) e)
  obtain ⟨d0, d1, d2, d3, d4, d5⟩ := HB.out _ (Ext.refl _)
  have HE := Lib.hid (fun W (e : Ext w W) => Encode_any x _ _ W (H1.out.ext e) (H2.out.ext e))
  rw [show opsEnc x = (encB x, 0) by unfold opsEnc; rw [if_pos hm]] at HE
  have HS := Lib.hid (fun W (e : Ext w W) u1 u2 (o1 : Row W .i64 u1 x.to) (o2 : Row W .i64 u2 x.ks) => refSame_any x x _ _ u1 u2 W (H1.out.ext e) (H2.out.ext e) o1 o2)
  unfold In.vals at HB HE HS d0 d1 d2 d3 d4 d5 ⊢
  obtain ⟨n, hn⟩ : ∃ n : Nat, x.a = n := ⟨x.a.toNat, by omega⟩
  have hn0 : 0 ≤ (n : Int) := by omega
  have hn8 : n < 8192 := by omega
  obtain ⟨m, hm1, hm2⟩ : ∃ m : Nat, m ≤ l.length ∧ ((¬ (100 : Int) < l.length ∧ m = l.length) ∨ ((100 : Int) < l.length ∧ m = 100)) := by
    by_cases h : 100 < l.length
    · exact ⟨100, by omega, .inr ⟨by omega, rfl⟩⟩
    · exact ⟨_, Nat.le_refl _, .inl ⟨by omega, rfl⟩⟩
  have hm100 : m ≤ 100 := by omega
  have hr5 := H.out.head m hm1
  obtain ⟨q, hq⟩ : ∃ q, l.take m = q := ⟨_, rfl⟩
  have hql : q.length ≤ 100 := by rw [← hq, List.length_take]; omega
  rw [hq] at hr5
  have HR5 := Lib.hid hr5
  have hmk : ∀ W, (Instr.makeSlice 22 (.int .i64 x.a) (.int .i64 x.a)).run Try.prog W = .ok (.slice (some ⟨W.heap.size, 0, none⟩) n n) (W.alloc (.cells (ZC n) 5)) := fun W => by rw [hn]; exact run_zeros n (by omega) W
  have hel := encB_len hm
  have hdz := dec_zeros hm hn q
  have hel1 : IntKind.i64.wrap (x.a + (encB x).length) = x.a + (encB x).length := by rw [IntKind.wrap_i64]; omega
  have HD := Lib.hid (fun W u (r : Row W .u8 u (List.replicate n 0 ++ encB x ++ q)) => Decode_any u _ x.a W r)
  rw [hdz] at HD
  have HN := Lib.hid hn
  have HEL := Lib.hid hel
  have HM2 := Lib.hid hm2
  clear hm ha hn hdz hr5 hq hel hm2
  go_enter Try.func6, Try.ntmps6
  go_wp2_with fail
  refine (HE.out _ ((Ext.refl w).alloc _)).mono ?_
  rintro e w1 ⟨v', rfl, ⟨b1, rfl, o1⟩, x1⟩
  obtain ⟨B1, c1, rfl, hr11, hr12, -⟩ := id o1.row
  unfold maxLen at hr12
  clear d0 d1 d2 d3 d4 d5
  obtain ⟨d0, d1, d2, d3, d4, d5⟩ := HB.out _ x1
  go_wp2_with fail
  clear d1 d2 d3 d4 d5
  have HO1 := Lib.hid o1
  have X1 := ((Ext.refl w).alloc (.cells #[.int .i64 x.a, .int .i64 x.o, .int .i64 x.n, .int .i64 x.m, .slice A1 x.to.length k1, .slice A2 x.ks.length k2] 26)).trans x1
  have HX1 := Lib.hid x1
  clear x1 o1
  go_cut [7] from 28 to 38 (fun s7 wx => ∃ A7 k7, s7 = .slice A7 (n + (encB x).length + q.length) k7 ∧ Row wx .u8 (.slice A7 (n + (encB x).length + q.length) k7) (List.replicate n 0 ++ encB x ++ q) ∧ Hid (Ext w1 wx))
  case first =>
    have hel := HEL.out
    rcases HM2.out with ⟨q1, rfl⟩ | ⟨q1, rfl⟩
    all_goals
      have hmc : ((l.length : Int)) ≤ c := by omega
      have hmd : (100 : Int) < l.length → (100 : Int) ≤ c := by omega
      have hif : ¬ (100 : Int) < l.length → (if (100 : Int) < l.length then (100 : Int) else l.length) = l.length := fun h => if_neg h
      have hmd := fun h => hmd h
      first | have hmd := hmd q1 | skip
      first | have hif := hif q1 | skip
      go_region_law (first
        | ((refine step_app rfl _ _ w1.heap.size 22 5 _ 1 .u8 rfl Try.underlying22 info8 rfl (by omega) (.slice (some ⟨_, 0, none⟩) n n) (List.replicate n 0) rfl ((own_zeros _ w1 n (by omega) (Nat.le_refl _)).ext (Ext.refl _).drew) _ (encB x) rfl (HO1.out.row.ext (((Ext.refl w1).alloc _).drew)) (by rw [List.length_replicate]; omega) (by simp) ?_); intro u2 w2 ho2 hg2 _; have X2 := (((Ext.refl w1).alloc _).drew).grown hg2 (fun g hg => by simp [Value.ownBlock] at hg; omega))
        | ((refine step_app rfl _ _ w1.heap.size 22 5 _ 1 .u8 rfl Try.underlying22 info8 rfl (by omega) u2 _ rfl ho2 _ q rfl (HR5.out.ext (X1.trans X2)) (by simp; omega) X2.size ?_); intro u3 w3 ho3 hg3 _; have X3 := X2.grown hg3 (fun g hg => ho2.low g hg)))
      all_goals
        go_wp2_with fail
        go_meet
        obtain ⟨A7, k7, rfl, r1, r2, r3, r4, r5⟩ := ho3.row
        have e7 : (List.replicate n 0 ++ encB x ++ q).length = n + (encB x).length + q.length := by simp; omega
        rw [e7]
        exact ⟨A7, k7, rfl, ⟨A7, k7, by rw [e7], r1, r2, r3, r4, r5⟩, Lib.hid X3⟩
  case rest =>
    obtain ⟨A7, k7, rfl, hr7, HX7⟩ := hcut
    have HR7 := Lib.hid hr7
    clear hr7 d0
    obtain ⟨d0, d1, d2, d3, d4, d5⟩ := HB.out _ (HX1.out.trans HX7.out)
    go_wp2_with fail
    refine (HD.out _ _ HR7.out).mono ?_
    rintro e w4 ⟨v', rfl, ⟨u1, u2, rfl, o4, o5⟩, x4⟩
    obtain ⟨B4, n4, c4, rfl⟩ := o4.slice
    obtain ⟨B5, n5, c5, rfl⟩ := o5.slice
    unfold In.vals
    have X4 := HX7.out.trans (x4.alloc (.cells #[.int .i64 x.a, .int .i64 x.o, .int .i64 x.n, .int .i64 x.m, .slice B4 n4 c4, .slice B5 n5 c5] 26))
    clear d0 d1 d2 d3 d4 d5
    obtain ⟨d0, d1, d2, d3, d4, d5⟩ := HB.out _ (HX1.out.trans X4)
    go_wp2_with fail
    refine (HS.out _ (X1.trans X4) _ _ (o4.row.ext ((Ext.refl _).alloc _)) (o5.row.ext ((Ext.refl _).alloc _))).mono ?_
    rintro e w5 ⟨rfl, x5⟩
    rw [show decide True = true from rfl]
    go_wp2_with fail
    refine (awake_any _).mono ?_
    rintro e w6 ⟨rfl, x6⟩
    go_wp2
    go_ret
    exact ⟨rfl, X1.trans (X4.trans (x5.trans x6))⟩
set_option maxRecDepth 100000 in
set_option maxHeartbeats 4000000 in
theorem opsBack_walk (w : World) (v1 v2 : Value) (x : In) (h1 : Row w .i64 v1 x.to) (h2 : Row w .i64 v2 x.ks) (hb : B64 x.a ∧ B64 x.o ∧ B64 x.n ∧ B64 x.m) (hz : x.to.length * 8 ≤ 140737488351232 ∧ x.ks.length * 8 ≤ 140737488351232) (v : Value) (l : List Int) (h : Row w .u8 v l) (hl : l.length ≤ 140737488351232) :
    Calls Try.prog 6 #[.agg (x.vals v1 v2), v] w fun e w' => e = .returned (.bool true) ∧ Ext w w' := by
  by_cases hm : mayI x = true
  · exact opsBack_yes w v1 v2 x h1 h2 v l h hm
  · have H1 := Lib.hid h1
    have H2 := Lib.hid h2
    obtain ⟨A1, k1, rfl, -⟩ := h1
    obtain ⟨A2, k2, rfl, -⟩ := h2
    have HB := Lib.hid (fun W e => boxed (w := w) (W := W) (x := x) (v1 := .slice A1 x.to.length k1) (v2 := .slice A2 x.ks.length k2) e)
    obtain ⟨d0, d1, d2, d3, d4, d5⟩ := HB.out _ (Ext.refl _)
    have HE := Lib.hid (fun W (e : Ext w W) => Encode_any x _ _ W (H1.out.ext e) (H2.out.ext e))
    rw [show opsEnc x = ([], 2) by unfold opsEnc; rw [if_neg hm]] at HE
    unfold In.vals at HB HE d0 d1 d2 d3 d4 d5 ⊢
    clear hm
    go_enter Try.func6, Try.ntmps6
    go_wp2_with fail
    refine (HE.out _ ((Ext.refl w).alloc _)).mono ?_
    rintro e w1 ⟨v', rfl, ⟨b1, rfl, o1⟩, x1⟩
    obtain ⟨B1, c1, rfl, -⟩ := o1.row
    go_wp2_with fail
    refine (awake_any _).mono ?_
    rintro e w6 ⟨rfl, x6⟩
    go_wp2
    go_ret
    exact ⟨rfl, ((Ext.refl w).alloc _).trans (x1.trans x6)⟩

set_option maxRecDepth 100000 in
theorem opsBack_lifted (os : Os) (started : os.Started) (H : Type) (enc : TypeId × Value → H) :
    ReturnsInHanded {} Try.checked os 6 .any (Rows.opsBackSpec.pre6 enc Try.prog Try.f6 Rows.opsBackRow.domain false) (Rows.opsBackSpec.post enc Try.prog Try.f6 false true false false) := by
  refine returnsInHanded_of_change_sized (C := Try.checked) own started (by kernel_rfl) Try.func6
    (ChangeSpec.witness6 (enc := enc) (C := Try.checked) false ⟨#[], #[.agg #[.int .i64 0, .int .i64 0, .int .i64 0, .int .i64 0, .slice none 0 0, .slice none 0 0], .slice none 0 0], []⟩ 8 (by kernel_rfl) (by kernel_rfl) (by kernel_rfl) (by kernel_rfl)) ?_
  intro W base args ds gs before hval0 hW hcnd hsz0 _
  have hval : ∀ (j : Nat) t v, Try.f6.params[j]? = some t → args[j]? = some v → Value.okWide Try.prog W .any base t v := hval0
  have hsz : (DataW.weightsEach Try.prog (Try.f6.params.toList ++ Rows.opsBackSpec.plain.varTypes Try.prog) (ds ++ gs)).all (· ≤ reachBytes) = true := hsz0
  have hW' := hW
  obtain ⟨p, q, hA0, hV, rfl, hfz, hnd⟩ := hW
  have hA : DataW.TrodAll enc Try.prog W 0 (fun _ => true) true Try.f6.params.toList args.toList ds p := hA0
  rw [Try.params6] at hA hval hsz
  obtain ⟨v0, vs0, d0, ds0, p0, q0, hargs, rfl, rfl, h0, r0⟩ := trodAll_cons hA
  obtain ⟨v1, vs1, d1, ds1, p1, q1, rfl, rfl, rfl, h1, r1⟩ := trodAll_cons r0
  obtain ⟨rfl, rfl, rfl⟩ := trodAll_nil r1
  obtain rfl : args = #[v0, v1] := by cases args; simp_all
  obtain ⟨rfl, rfl⟩ := trodVars_none hV
  obtain ⟨cs0, rfl, -⟩ := okWide_struct Try.underlying26 (hval 0 26 v0 rfl rfl)
  have k0 := h0
  have lt0 : ∀ x ∈ p0, x.block < W.heap.size := by obtain ⟨m, hm⟩ := k0; exact DataW.trod_lt m _ _ _ hm
  obtain ⟨y0, u0, t0, e0, w0, x0, b0, z0⟩ : ∃ (y : In) (u t : Value), cs0 = y.vals u t ∧ Row W .i64 u y.to ∧ Row W .i64 t y.ks ∧ (B64 y.a ∧ B64 y.o ∧ B64 y.n ∧ B64 y.m) ∧ y.to.length * 8 ≤ 140737488351232 ∧ y.ks.length * 8 ≤ 140737488351232 := by
    obtain ⟨fuel, hf⟩ := h0
    obtain ⟨y, u, t, d1, d2, hcs, hu, ht, hb, hd, s1, s2⟩ := open_ins hf
    have hd : d0 = _ := hd
    have hw := weights_at hsz (j := 0) rfl (show _ = some d0 from rfl)
    rw [hd] at hw
    have hcs : cs0.toList = (y.vals u t).toList := by simpa [Value.cells] using hcs
    exact ⟨y, u, t, Array.toList_inj.1 hcs, hu, ht, hb, ins_weights s1 s2 hw⟩
  subst e0
  obtain ⟨a1, len1, cap1, rfl⟩ := okWide_slice Try.underlying22 (hval 1 22 v1 rfl rfl)
  have k1 := h1
  have lt1 : ∀ x ∈ p1, x.block < W.heap.size := by obtain ⟨m, hm⟩ := k1; exact DataW.trod_lt m _ _ _ hm
  obtain ⟨l1, w1, z1⟩ : ∃ l, Row W .u8 (.slice a1 len1 cap1) l ∧ l.length ≤ 140737488351232 := by
    obtain ⟨fuel, hf⟩ := h1
    rcases open_ints Try.underlying22 Try.underlying5 (by kernel_rfl) hf with ⟨hcs, _⟩ | ⟨x, l, c, zs, hcs, _, hl, hm, hz, hx, hcell, hwz⟩
    · simp [Value.cells] at hcs
      obtain ⟨rfl, rfl, rfl⟩ := hcs
      exact ⟨[], (Own.nil 0 _ 0 _).row, by simp⟩
    · simp [Value.cells] at hcs
      obtain ⟨rfl, rfl, rfl⟩ := hcs
      simp only [if_true] at hz
      refine ⟨_, row_of_open hl hm hz hcell hwz, ?_⟩
      have hd : d1 = _ := congrArg Prod.fst hx
      have hs := sized_slice hsz (j := 1) rfl (by rw [hd]; rfl) Try.underlying22
      rw [bytes8] at hs
      simp only [lits, List.length_map, List.length_take, List.length_drop, reachBytes] at hs
      simp only [List.length_take]
      omega
  clear hA0 hval0 hsz0
  refine (opsBack_walk W u0 t0 y0 w0 x0 b0 z0 (.slice a1 len1 cap1) l1 w1 z1).mono fun e W' ⟨he, bel⟩ => ?_
  subst he
  exact ⟨_, rfl, _, _, _, [], _, [], hW', trodAll_mk1 (shut_bool Try.underlying4 _), (trodAll_cons_mk (Below.trod laidOut (by kernel_rfl) (of_decide_eq_true (by kernel_rfl)) k0 bel lt0) (trodAll_cons_mk (Below.trod laidOut (by kernel_rfl) (of_decide_eq_true (by kernel_rfl)) k1 bel lt1) trodAll_mk0)), rfl, bel.frame _, fun h => by cases h⟩

theorem opsBack_over : Rows.opsBackRow.holds Try.pinned (OpenSpec.ofChange Rows.opsBackSpec) :=
  OpenClaim.holds_of_wide 6 Try.f6 rfl rfl rfl rfl rfl rfl rfl ⟨rfl, rfl, rfl, rfl, rfl⟩ rfl rfl rfl rfl rfl (by kernel_rfl) Try.func6 (by kernel_rfl)
    (of_decide_eq_true (by kernel_rfl)) (by unfold Func.isWrapper; first | (rw [if_pos (by decide +kernel)]; kernel_rfl) | (rw [if_neg (by decide +kernel)]; exact ⟨rfl, rfl⟩))
    (fun os started H enc _ => opsBack_lifted os started H enc)

/-- The statement. -/
theorem opsBack_proved : Rows.OpsBackSaid := opsBack_over
#print axioms opsBack_proved

end Go.Proofs.Ytdjenhgngjmkjaa
