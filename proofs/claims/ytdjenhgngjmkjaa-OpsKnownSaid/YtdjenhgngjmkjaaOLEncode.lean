/- OpsEncode: an instruction's bytes, or that it may not be, is the document's. Of all instructions. -/
import Derived.Test.YtdjenhgngjmkjaaOOpen
import Derived.Test.YtdjenhgngjmkjaaOpsAw
import Derived.Test.YtdjenhgngjmkjaaOpsEn
import Derived.Test.YtdjenhgngjmkjaaOpsCp
import Derived.Test.YtdjenhgngjmkjaaOpsRen
import Derived.Test.YtdjenhgngjmkjaaOpsC
import Derived.Test.YtdjenhgngjmkjaaEq0
namespace Go.Proofs.Ytdjenhgngjmkjaa
open Go.ChangeShapes Go.WideShapes Go.ChangeAt Go.RowKit
open Go.ChangeMaps (open_string shut_string)
set_option linter.unusedVariables false
set_option maxRecDepth 100000 in
set_option maxHeartbeats 4000000 in
theorem opsEncode_walk (w : World) (v1 v2 : Value) (x : In) (h1 : Row w .i64 v1 x.to) (h2 : Row w .i64 v2 x.ks) (hb : B64 x.a ∧ B64 x.o ∧ B64 x.n ∧ B64 x.m) (hz : x.to.length * 8 ≤ 140737488351232 ∧ x.ks.length * 8 ≤ 140737488351232) :
    Calls Try.prog 4 #[.agg (x.vals v1 v2)] w fun e w' => e = .returned (.bool true) ∧ Ext w w' := by
  have H1 := Lib.hid h1
  have H2 := Lib.hid h2
  obtain ⟨A1, k1, rfl, -⟩ := h1
  obtain ⟨A2, k2, rfl, -⟩ := h2
  have HB := Lib.hid (fun W e => boxed (w := w) (W := W) (x := x) (v1 := .slice A1 x.to.length k1) (v2 := .slice A2 x.ks.length k2) e)
  obtain ⟨d0, d1, d2, d3, d4, d5⟩ := HB.out _ (Ext.refl _)
  have HC := Lib.hid (fun W (e : Ext w W) => refCopy_any x _ _ W (H1.out.ext e) (H2.out.ext e) (by omega) (by omega))
  have HR := Lib.hid (fun W (e : Ext w W) => refEncode_any x _ _ W (H1.out.ext e) (H2.out.ext e))
  have HE := Lib.hid (fun W u1 u2 (o1 : Row W .i64 u1 x.to) (o2 : Row W .i64 u2 x.ks) => Encode_any x u1 u2 W o1 o2)
  have HS := Lib.hid (fun W u1 u2 (o1 : Row W .i64 u1 x.to) (o2 : Row W .i64 u2 x.ks) (e : Ext w W) => refSame_any x x u1 u2 _ _ W o1 o2 (H1.out.ext e) (H2.out.ext e))
  obtain ⟨E, hE⟩ : ∃ E, opsEnc x = E := ⟨_, rfl⟩
  rw [hE] at HE HR
  obtain ⟨l, er⟩ := E
  simp only at HE HR
  unfold In.vals at HB HC HR HE HS d0 d1 d2 d3 d4 d5 ⊢
  clear hE hb hz
  go_enter Try.func4, Try.ntmps4
  go_wp2_with fail
  refine (HC.out _ ((Ext.refl w).alloc _)).mono ?_
  rintro e w1 ⟨v', rfl, ⟨u1, u2, rfl, o1, o2, -⟩, x1⟩
  obtain ⟨B1, n1, c1, rfl⟩ := o1.slice
  obtain ⟨B2, n2, c2, rfl⟩ := o2.slice
  unfold In.vals
  have X1 := Lib.hid ((((Ext.refl w).alloc (.cells #[.int .i64 x.a, .int .i64 x.o, .int .i64 x.n, .int .i64 x.m, .slice A1 x.to.length k1, .slice A2 x.ks.length k2] 26)).trans x1).alloc (.cells #[.int .i64 x.a, .int .i64 x.o, .int .i64 x.n, .int .i64 x.m, .slice B1 n1 c1, .slice B2 n2 c2] 26))
  have HX1 := Lib.hid (x1.alloc (.cells #[.int .i64 x.a, .int .i64 x.o, .int .i64 x.n, .int .i64 x.m, .slice B1 n1 c1, .slice B2 n2 c2] 26))
  have O1 := Lib.hid (o1.row.ext ((Ext.refl w1).alloc (.cells #[.int .i64 x.a, .int .i64 x.o, .int .i64 x.n, .int .i64 x.m, .slice B1 n1 c1, .slice B2 n2 c2] 26)))
  have O2 := Lib.hid (o2.row.ext ((Ext.refl w1).alloc (.cells #[.int .i64 x.a, .int .i64 x.o, .int .i64 x.n, .int .i64 x.m, .slice B1 n1 c1, .slice B2 n2 c2] 26)))
  have HG := Lib.hid (fun W (e : Ext (w1.alloc (.cells #[.int .i64 x.a, .int .i64 x.o, .int .i64 x.n, .int .i64 x.m, .slice B1 n1 c1, .slice B2 n2 c2] 26)) W) => boxed (w := w1) (W := W) (x := x) (v1 := .slice B1 n1 c1) (v2 := .slice B2 n2 c2) e)
  clear o1 o2 x1 d0 d1 d2 d3 d4 d5
  obtain ⟨d0, d1, d2, d3, d4, d5⟩ := HB.out _ HX1.out
  go_wp2_with fail
  refine (HE.out _ _ _ O1.out O2.out).mono ?_
  rintro e w2 ⟨v', rfl, ⟨b2, rfl, p2⟩, x2⟩
  clear d0 d1 d2 d3 d4 d5
  obtain ⟨d0, d1, d2, d3, d4, d5⟩ := HB.out _ (HX1.out.trans x2)
  go_wp2_with fail
  refine (HR.out _ (X1.out.trans x2)).mono ?_
  rintro e w3 ⟨v', rfl, ⟨b3, rfl, p3⟩, x3⟩
  clear d0 d1 d2 d3 d4 d5
  have X3 := Lib.hid (x2.trans x3)
  have HP2 := Lib.hid (p2.row.ext x3)
  have HP3 := Lib.hid p3.row
  clear p2 p3 x2 x3
  go_wp2_with fail
  refine (eqBytes_any _ _ l l _ HP2.out HP3.out).mono ?_
  rintro e w4 ⟨rfl, n4, rfl⟩
  rw [show decide (l = l) = true by simp]
  have X4 := Lib.hid (X3.out.trans ((Ext.refl w3).drewN n4))
  obtain ⟨d0, d1, d2, d3, d4, d5⟩ := HB.out _ (HX1.out.trans X4.out)
  obtain ⟨g0, g1, g2, g3, g4, g5⟩ := HG.out _ X4.out
  go_wp2_with fail
  refine (HS.out _ _ _ (O1.out.ext X4.out) (O2.out.ext X4.out) (X1.out.trans X4.out)).mono ?_
  rintro e w5 ⟨rfl, x5⟩
  rw [show decide True = true from rfl]
  go_wp2_with fail
  refine (awake_any _).mono ?_
  rintro e w6 ⟨rfl, x6⟩
  go_wp2
  go_ret
  exact ⟨rfl, X1.out.trans (X4.out.trans (x5.trans x6))⟩

set_option maxRecDepth 100000 in
theorem opsEncode_lifted (os : Os) (started : os.Started) (H : Type) (enc : TypeId × Value → H) :
    ReturnsInHanded {} Try.checked os 4 .any (Rows.opsEncodeSpec.pre6 enc Try.prog Try.f4 Rows.opsEncodeRow.domain false) (Rows.opsEncodeSpec.post enc Try.prog Try.f4 false true false false) := by
  refine returnsInHanded_of_change_sized (C := Try.checked) own started (by kernel_rfl) Try.func4
    (ChangeSpec.witness6 (enc := enc) (C := Try.checked) false ⟨#[], #[.agg #[.int .i64 0, .int .i64 0, .int .i64 0, .int .i64 0, .slice none 0 0, .slice none 0 0]], []⟩ 8 (by kernel_rfl) (by kernel_rfl) (by kernel_rfl) (by kernel_rfl)) ?_
  intro W base args ds gs before hval0 hW hcnd hsz0 _
  have hval : ∀ (j : Nat) t v, Try.f4.params[j]? = some t → args[j]? = some v → Value.okWide Try.prog W .any base t v := hval0
  have hsz : (DataW.weightsEach Try.prog (Try.f4.params.toList ++ Rows.opsEncodeSpec.plain.varTypes Try.prog) (ds ++ gs)).all (· ≤ reachBytes) = true := hsz0
  have hW' := hW
  obtain ⟨p, q, hA0, hV, rfl, hfz, hnd⟩ := hW
  have hA : DataW.TrodAll enc Try.prog W 0 (fun _ => true) true Try.f4.params.toList args.toList ds p := hA0
  rw [Try.params4] at hA hval hsz
  obtain ⟨v0, vs0, d0, ds0, p0, q0, hargs, rfl, rfl, h0, r0⟩ := trodAll_cons hA
  obtain ⟨rfl, rfl, rfl⟩ := trodAll_nil r0
  obtain rfl : args = #[v0] := by cases args; simp_all
  obtain ⟨rfl, rfl⟩ := trodVars_none hV
  obtain ⟨cs0, rfl, -⟩ := okWide_struct Try.underlying26 (hval 0 26 v0 rfl rfl)
  have k0 := h0
  have lt0 : ∀ x ∈ p0, x.block < W.heap.size := by obtain ⟨m, hm⟩ := k0; exact DataW.trod_lt m _ _ _ hm
  obtain ⟨y0, u0, t0, e0, w0, x0, b0, z0⟩ : ∃ (y : In) (u t : Value), cs0 = y.vals u t ∧ Row W .i64 u y.to ∧ Row W .i64 t y.ks ∧ (B64 y.a ∧ B64 y.o ∧ B64 y.n ∧ B64 y.m) ∧ y.to.length * 8 ≤ 140737488351232 ∧ y.ks.length * 8 ≤ 140737488351232 := by
    obtain ⟨fuel, hf⟩ := h0
    obtain ⟨y, u, t, d1, d2, hcs, hu, ht, hb, hd, s1, s2⟩ := open_ins hf
    have hd : d0 = _ := hd
    have hw := weights_at hsz (j := 0) rfl (show _ = some d0 from rfl)
    rw [hd] at hw
    have hcs : cs0.toList = (y.vals u t).toList := by simpa [Value.cells] using hcs
    exact ⟨y, u, t, Array.toList_inj.1 hcs, hu, ht, hb, ins_weights s1 s2 hw⟩
  subst e0
  clear hA0 hval0 hsz0
  refine (opsEncode_walk W u0 t0 y0 w0 x0 b0 z0).mono fun e W' ⟨he, bel⟩ => ?_
  subst he
  exact ⟨_, rfl, _, _, _, [], _, [], hW', trodAll_mk1 (shut_bool Try.underlying4 _), (trodAll_cons_mk (Below.trod laidOut (by kernel_rfl) (of_decide_eq_true (by kernel_rfl)) k0 bel lt0) trodAll_mk0), rfl, bel.frame _, fun h => by cases h⟩

theorem opsEncode_over : Rows.opsEncodeRow.holds Try.pinned (OpenSpec.ofChange Rows.opsEncodeSpec) :=
  OpenClaim.holds_of_wide 4 Try.f4 rfl rfl rfl rfl rfl rfl rfl ⟨rfl, rfl, rfl, rfl, rfl⟩ rfl rfl rfl rfl rfl (by kernel_rfl) Try.func4 (by kernel_rfl)
    (of_decide_eq_true (by kernel_rfl)) (by unfold Func.isWrapper; first | (rw [if_pos (by decide +kernel)]; kernel_rfl) | (rw [if_neg (by decide +kernel)]; exact ⟨rfl, rfl⟩))
    (fun os started H enc _ => opsEncode_lifted os started H enc)

/-- The statement. -/
theorem opsEncode_proved : Rows.OpsEncodeSaid := opsEncode_over
#print axioms opsEncode_proved

end Go.Proofs.Ytdjenhgngjmkjaa
