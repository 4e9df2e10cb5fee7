/- OpsAgain: what can be decoded is encoded so. Of all bytes and places. -/
import Derived.Test.YtdjenhgngjmkjaaOOpen
import Derived.Test.YtdjenhgngjmkjaaOpsAw
import Derived.Test.YtdjenhgngjmkjaaOpsEn
import Derived.Test.YtdjenhgngjmkjaaBring
import Derived.Test.YtdjenhgngjmkjaaEq0
namespace Go.Proofs.Ytdjenhgngjmkjaa
open Go.ChangeShapes Go.WideShapes Go.ChangeAt Go.RowKit
open Go.ChangeMaps (open_string shut_string)
set_option linter.unusedVariables false
set_option maxRecDepth 100000 in
set_option maxHeartbeats 4000000 in
theorem opsAgain_walk (w : World) (v : Value) (l : List Int) (h : Row w .u8 v l) (hl : l.length ≤ 140737488351232) (a : Int) (ha : -9223372036854775808 ≤ a ∧ a ≤ 9223372036854775807) : Calls Try.prog 7 #[v, .int .i64 a] w fun e w' => e = .returned (.bool true) ∧ Ext w w' := by
  have H0 := Lib.hid h
  obtain ⟨A, c, rfl, hc, hm, -⟩ := h
  unfold maxLen at hm
  have BR := Lib.hid (fun W => bring_any a l.length W ha.1 ha.2 (by omega) (by omega))
  obtain ⟨k, hk⟩ : ∃ k, bring a l.length = k := ⟨_, rfl⟩
  rw [hk] at BR
  have HD := Lib.hid (fun W (e : Ext w W) => Decode_any _ l k W (H0.out.ext e))
  obtain ⟨R, hR⟩ : ∃ R, opsDec l k = R := ⟨_, rfl⟩
  rw [hR] at HD
  have hall := fun c hc => H0.out.fit.u8 (x := c) hc
  by_cases he : R.2.2 = 0
  · obtain ⟨hm1, hk0, hka, hkn, hnl, hen⟩ := enc_dec (b := l) (k := k) hall (by rw [hR]; exact he)
    rw [hR] at hm1 hka hkn hnl hen
    have HE := Lib.hid (fun W u1 u2 (o1 : Row W .i64 u1 R.1.to) (o2 : Row W .i64 u2 R.1.ks) => Encode_any R.1 u1 u2 W o1 o2)
    rw [show opsEnc R.1 = (encB R.1, 0) by unfold opsEnc; rw [if_pos hm1]] at HE
    obtain ⟨j, rfl⟩ : ∃ j : Nat, k = j := ⟨k.toNat, by omega⟩
    obtain ⟨x, n, er⟩ := R
    simp only at he hm1 hka hkn hnl hen HE HD
    subst he
    obtain ⟨m, rfl⟩ : ∃ m : Nat, n = m := ⟨n.toNat, by omega⟩
    rw [Int.toNat_natCast, show ((m : Int) - j).toNat = m - j by omega] at hen
    obtain ⟨b, o, rfl, -⟩ := H0.out.all (by omega)
    have hs := (H0.out.tail j (by omega)).head (m - j) (by rw [List.length_drop]; omega)
    rw [← hen] at hs
    have HS := Lib.hid hs
    have hjc : j < c := by omega
    have hjm : j < m := by omega
    have hml : m ≤ l.length := by omega
    have hmc : m ≤ c := by omega
    have HQ := Lib.hid (fun W u (o : Row W .u8 u (encB x)) (e : Ext w W) => eqBytes_any u _ (encB x) (encB x) W o (HS.out.ext e))
    rw [show decide (encB x = encB x) = true by simp] at HQ
    have HX := Lib.hid (And.intro hka hen)
    clear hall hR hk hm1 hka hen hs
    unfold In.vals at HE
    go_enter Try.func7, Try.ntmps7
    go_wp2_with fail
    refine (BR.out _).mono ?_
    rintro e w1 ⟨rfl, rfl⟩
    go_wp2_with fail
    refine (HD.out _ (Ext.refl _)).mono ?_
    rintro e w2 ⟨v', rfl, ⟨u1, u2, rfl, o1, o2⟩, x2⟩
    obtain ⟨B1, n1, c1, rfl⟩ := o1.slice
    obtain ⟨B2, n2, c2, rfl⟩ := o2.slice
    unfold In.vals
    go_wp2_with fail
    refine (HE.out _ _ _ (o1.row.ext ((Ext.refl _).alloc _)) (o2.row.ext ((Ext.refl _).alloc _))).mono ?_
    rintro e w3 ⟨v', rfl, ⟨b3, rfl, o3⟩, x3⟩
    have X3 := (x2.alloc (.cells #[.int .i64 x.a, .int .i64 x.o, .int .i64 x.n, .int .i64 x.m, .slice B1 n1 c1, .slice B2 n2 c2] 26)).trans x3
    go_wp2_with fail
    refine (HQ.out _ _ o3.row X3).mono ?_
    rintro e w4 ⟨rfl, n4, rfl⟩
    go_wp2_with fail
    refine (awake_any _).mono ?_
    rintro e w5 ⟨rfl, x5⟩
    go_wp2
    go_ret
    exact ⟨rfl, (X3.drewN _).trans x5⟩
  · obtain ⟨x, n, er⟩ := R
    simp only at he HD
    have hne : (er != 0) = true := by simpa using he
    clear hall hR hk he
    go_enter Try.func7, Try.ntmps7
    go_wp2_with fail
    refine (BR.out _).mono ?_
    rintro e w1 ⟨rfl, rfl⟩
    go_wp2_with fail
    refine (HD.out _ (Ext.refl _)).mono ?_
    rintro e w2 ⟨v', rfl, ⟨u1, u2, rfl, o1, o2⟩, x2⟩
    obtain ⟨B1, n1, c1, rfl⟩ := o1.slice
    obtain ⟨B2, n2, c2, rfl⟩ := o2.slice
    unfold In.vals
    go_wp2_with fail
    refine (awake_any _).mono ?_
    rintro e w5 ⟨rfl, x5⟩
    go_wp2
    go_ret
    exact ⟨rfl, (x2.alloc _).trans x5⟩

set_option maxRecDepth 100000 in
theorem opsAgain_lifted (os : Os) (started : os.Started) (H : Type) (enc : TypeId × Value → H) :
    ReturnsInHanded {} Try.checked os 7 .any (Rows.opsAgainSpec.pre6 enc Try.prog Try.f7 Rows.opsAgainRow.domain false) (Rows.opsAgainSpec.post enc Try.prog Try.f7 false true false false) := by
  refine returnsInHanded_of_change_sized (C := Try.checked) own started (by kernel_rfl) Try.func7
    (ChangeSpec.witness6 (enc := enc) (C := Try.checked) false ⟨#[], #[.slice none 0 0, .int .i64 0], []⟩ 8 (by kernel_rfl) (by kernel_rfl) (by kernel_rfl) (by kernel_rfl)) ?_
  intro W base args ds gs before hval0 hW hcnd hsz0 _
  have hval : ∀ (j : Nat) t v, Try.f7.params[j]? = some t → args[j]? = some v → Value.okWide Try.prog W .any base t v := hval0
  have hsz : (DataW.weightsEach Try.prog (Try.f7.params.toList ++ Rows.opsAgainSpec.plain.varTypes Try.prog) (ds ++ gs)).all (· ≤ reachBytes) = true := hsz0
  have hW' := hW
  obtain ⟨p, q, hA0, hV, rfl, hfz, hnd⟩ := hW
  have hA : DataW.TrodAll enc Try.prog W 0 (fun _ => true) true Try.f7.params.toList args.toList ds p := hA0
  rw [Try.params7] at hA hval hsz
  obtain ⟨v0, vs0, d0, ds0, p0, q0, hargs, rfl, rfl, h0, r0⟩ := trodAll_cons hA
  obtain ⟨v1, vs1, d1, ds1, p1, q1, rfl, rfl, rfl, h1, r1⟩ := trodAll_cons r0
  obtain ⟨rfl, rfl, rfl⟩ := trodAll_nil r1
  obtain rfl : args = #[v0, v1] := by cases args; simp_all
  obtain ⟨rfl, rfl⟩ := trodVars_none hV
  obtain ⟨a0, len0, cap0, rfl⟩ := okWide_slice Try.underlying22 (hval 0 22 v0 rfl rfl)
  have k0 := h0
  have lt0 : ∀ x ∈ p0, x.block < W.heap.size := by obtain ⟨m, hm⟩ := k0; exact DataW.trod_lt m _ _ _ hm
  obtain ⟨l0, w0, z0⟩ : ∃ l, Row W .u8 (.slice a0 len0 cap0) l ∧ l.length ≤ 140737488351232 := by
    obtain ⟨fuel, hf⟩ := h0
    rcases open_ints Try.underlying22 Try.underlying5 (by kernel_rfl) hf with ⟨hcs, _⟩ | ⟨x, l, c, zs, hcs, _, hl, hm, hz, hx, hcell, hwz⟩
    · simp [Value.cells] at hcs
      obtain ⟨rfl, rfl, rfl⟩ := hcs
      exact ⟨[], (Own.nil 0 _ 0 _).row, by simp⟩
    · simp [Value.cells] at hcs
      obtain ⟨rfl, rfl, rfl⟩ := hcs
      simp only [if_true] at hz
      refine ⟨_, row_of_open hl hm hz hcell hwz, ?_⟩
      have hd : d0 = _ := congrArg Prod.fst hx
      have hs := sized_slice hsz (j := 0) rfl (by rw [hd]; rfl) Try.underlying22
      rw [bytes8] at hs
      simp only [lits, List.length_map, List.length_take, List.length_drop, reachBytes] at hs
      simp only [List.length_take]
      omega
  obtain ⟨a1, rfl, rfl, rfl, w1⟩ := open_int Try.underlying3 (hval 1 3 v1 rfl rfl) h1
  have z1 := bounds_i64 w1
  clear hA0 hval0 hsz0
  refine (opsAgain_walk W (.slice a0 len0 cap0) l0 w0 z0 a1 z1).mono fun e W' ⟨he, bel⟩ => ?_
  subst he
  exact ⟨_, rfl, _, _, _, [], _, [], hW', trodAll_mk1 (shut_bool Try.underlying4 _), (trodAll_cons_mk (Below.trod laidOut (by kernel_rfl) (of_decide_eq_true (by kernel_rfl)) k0 bel lt0) (trodAll_cons_mk (shut_int Try.underlying3 w1) trodAll_mk0)), rfl, bel.frame _, fun h => by cases h⟩

theorem opsAgain_over : Rows.opsAgainRow.holds Try.pinned (OpenSpec.ofChange Rows.opsAgainSpec) :=
  OpenClaim.holds_of_wide 7 Try.f7 rfl rfl rfl rfl rfl rfl rfl ⟨rfl, rfl, rfl, rfl, rfl⟩ rfl rfl rfl rfl rfl (by kernel_rfl) Try.func7 (by kernel_rfl)
    (of_decide_eq_true (by kernel_rfl)) (by unfold Func.isWrapper; first | (rw [if_pos (by decide +kernel)]; kernel_rfl) | (rw [if_neg (by decide +kernel)]; exact ⟨rfl, rfl⟩))
    (fun os started H enc _ => opsAgain_lifted os started H enc)

/-- The statement. -/
theorem opsAgain_proved : Rows.OpsAgainSaid := opsAgain_over
#print axioms opsAgain_proved

end Go.Proofs.Ytdjenhgngjmkjaa
