/- CodeJoins: the code of instructions, or that they are none, and where one stands, is the document's. Of all instructions, 300 at most, and a place. -/
import Derived.Test.YtcgajgileehbbaaZf
import Derived.Test.YtcgajgileehbbaaZb
import Derived.Test.YtcgajgileehbbaaEq0
import Derived.Test.YtcgajgileehbbaaOpsCp
namespace Go.Proofs.Ytcgajgileehbbaa
open Go.ChangeShapes Go.WideShapes Go.ChangeAt Go.RowKit
open Go.ChangeMaps (open_string shut_string)
set_option linter.unusedVariables false
/-- The first so many of a list, as a slice. -/
theorem head_any {A : Option Addr} {n c q : Nat} (hq : q ≤ n) (hn : n ≤ c) (hA : A = none → c = 0) (hc : c ≤ 9223372036854775807) :
    ∃ c' A', (A' = none → c' = 0) ∧ q ≤ c' ∧ c' ≤ c ∧ (0 < q → A' = A ∧ c' = c) ∧ (∀ W, (Instr.sliceAt 24 (.slice A n c) none (some (.int .i64 q)) none).run Try.prog W = .ok (.slice A' q c') W) ∧ (∀ W, (Instr.slice 24 (.slice A n c) none (some (.int .i64 q)) none).run Try.prog W = .ok (.slice A' q c') W) := by
  have k1 : ¬ c < q := by omega
  have k3 : q ≤ c := by omega
  by_cases hc0 : c = 0
  · have hq0 : q = 0 := by omega
    have hn0 : n = 0 := by omega
    subst hc0 hq0 hn0
    exact ⟨0, A, fun _ => rfl, Nat.le_refl _, Nat.le_refl _, fun h => by omega, fun W => by go_simp, fun W => by go_simp⟩
  · obtain ⟨ad, rfl⟩ : ∃ ad, A = some ad := by
      cases A with
      | none => exact absurd (hA rfl) hc0
      | some ad => exact ⟨ad, rfl⟩
    exact ⟨c, some ad, (fun h => by cases h), k3, Nat.le_refl _, fun _ => ⟨rfl, rfl⟩, fun W => by go_simp, fun W => by go_simp⟩
theorem rowI_zero (w : World) {A : Option Addr} {c : Nat} (hA : A = none → c = 0) (hc : c ≤ maxLen) : RowI w (.slice A 0 c) [] := ⟨[], rfl, A, c, rfl, Nat.zero_le _, hc, hA, fun h => by simp at h, fun _ h => by cases h⟩
set_option maxRecDepth 100000 in
set_option maxHeartbeats 8000000 in
theorem codeJoins_walk (w : World) (v : Value) (l : List In) (h : RowI w v l) (hs : ∀ x ∈ l, x.to.length * 8 ≤ 140737488351232 ∧ x.ks.length * 8 ≤ 140737488351232) (t : Int) (ht : B64 t) :
    Calls Try.prog 4 #[v, .int .i64 t] w fun e w' => e = .returned (.bool true) ∧ Ext w w' := by
  have H0 := Lib.hid h
  obtain ⟨A, c, rfl, hc, hm, hA⟩ := h.cut
  have hm' := hm
  unfold maxLen at hm
  obtain ⟨q, hq, hq3, hmin⟩ : ∃ q, q ≤ l.length ∧ q ≤ 300 ∧ ((¬ (300 : Int) < l.length ∧ q = l.length) ∨ ((300 : Int) < l.length ∧ q = 300)) := by
    by_cases h3 : 300 < l.length
    · exact ⟨300, by omega, by omega, .inr ⟨by omega, rfl⟩⟩
    · exact ⟨_, Nat.le_refl _, by omega, .inl ⟨by omega, rfl⟩⟩
  obtain ⟨c', A', hA', hqc, hcc, hpos, s1, s2⟩ := head_any hq hc hA (by omega)
  have hL : RowI w (.slice A' q c') (l.take q) := by
    by_cases h0 : 0 < q
    · obtain ⟨rfl, rfl⟩ := hpos h0
      exact h.head q hq
    · obtain rfl : q = 0 := by omega
      rw [List.take_zero]
      exact rowI_zero w hA' (by unfold maxLen; omega)
  obtain ⟨L, hLL⟩ : ∃ L, l.take q = L := ⟨_, rfl⟩
  have hlen : L.length = q := by rw [← hLL]; simp; omega
  have HSZ : Hid (∀ x ∈ L, x.to.length * 8 ≤ 140737488351232 ∧ x.ks.length * 8 ≤ 140737488351232) := Lib.hid (fun x hx => hs x (by rw [← hLL] at hx; exact List.mem_of_mem_take hx))
  rw [hLL] at hL
  have HL := Lib.hid hL
  have Hn := Lib.hid hlen
  have HJ := Lib.hid (fun W u (o : RowI W u L) => Join_any u L W o)
  have HRJ := Lib.hid (fun W (e : Ext w W) => refJoin_any (.slice A' q c') L W (HL.out.ext e))
  have HP := Lib.hid (fun W u (o : RowI W u L) => Place_any u L t W o)
  have HRP := Lib.hid (fun W (e : Ext w W) => refPlace_any (.slice A' q c') L t W (HL.out.ext e))
  have HS := Lib.hid (fun W u (e : Ext w W) (o1 : RowI W u L) => refSameL_any u (.slice A' q c') L L W o1 (HL.out.ext e))
  rw [decide_eq_true (rfl : L = L)] at HS
  obtain ⟨R, hR⟩ : ∃ R, joinZ L = R := ⟨_, rfl⟩
  obtain ⟨P, hP⟩ : ∃ P, placeZ L t = P := ⟨_, rfl⟩
  rw [hR] at HJ HRJ
  rw [hP] at HP HRP
  obtain ⟨bs, er⟩ := R
  obtain ⟨pa, pb⟩ := P
  have HQ := Lib.hid (fun W u1 u2 (o1 : Row W .u8 u1 bs) (o2 : Row W .u8 u2 bs) => eqBytes_any u1 u2 bs bs W o1 o2)
  rw [show decide (bs = bs) = true by simp] at HQ
  have hpb : (pb == pb) = true := by cases pb <;> rfl
  obtain ⟨nl, hnl⟩ : ∃ nl, l.length = nl := ⟨_, rfl⟩
  rw [hnl] at hmin s1 s2 hc ⊢
  clear h hs hL hLL hlen hR hP hpos hq hnl ht hA hA' H0
  go_enter Try.func4, Try.ntmps4
  have hif : (if (300 : Int) < nl then (300 : Int) else nl) = q := by
    rcases hmin with ⟨q1, q2⟩ | ⟨q1, q2⟩
    · rw [if_neg q1, q2]
    · rw [if_pos q1, q2]; rfl
  clear hmin
  go_wp2_with fail
  clear s1 s2 hif hqc hcc
  go_loopw [5, 6] (fun u i wr => ∃ (k : Nat), i = .int .i64 k ∧ k ≤ q ∧ Hid (OwnI w.heap.size wr u (L.take k)) ∧ Hid (Ext w wr)) (fun _ i _ => q - (intOf i).toNat)
  case atStart => exact ⟨0, rfl, by omega, Lib.hid (OwnI.nil _ _), Lib.hid (Ext.refl w)⟩
  case round =>
    obtain ⟨k, rfl, hk, HO, HX⟩ := hrel
    by_cases hlt : k < q
    · have hkl : k < L.length := by have := Hn.out; omega
      obtain ⟨b, o, rfl, hat⟩ := HL.out.at (by omega)
      obtain ⟨v1, v2, hat⟩ := hat k hkl
      have hr1 := (hat _ HX.out).2.1
      have hr2 := (hat _ HX.out).2.2
      obtain ⟨A1, c1, rfl, -⟩ := id hr1
      obtain ⟨A2, c2, rfl, -⟩ := id hr2
      obtain ⟨y0, y1, y2, y3, y4, y5⟩ := (hat _ HX.out).1
      have hsz := HSZ.out _ (gn_mem hkl)
      have HT := Lib.hid (take_next hkl)
      have hc := refCopy_any (gn L k) _ _ wr hr1 hr2 (by omega) (by omega)
      obtain ⟨x, hx⟩ : ∃ x, gn L k = x := ⟨_, rfl⟩
      rw [hx] at y0 y1 y2 y3 y4 y5 hc HT
      have HC := Lib.hid hc
      have hxs := HX.out.size
      have hol : (L.take k).length ≤ 1000 := by rw [List.length_take]; omega
      unfold In.vals at HC
      clear hat hx hkl hr1 hr2 hsz hc
      go_wp2_with fail
      refine HC.out.mono ?_
      rintro e w1 ⟨v', rfl, ⟨u1, u2, rfl, o1, o2, -⟩, x1⟩
      obtain ⟨B1, n1, k1, rfl⟩ := o1.slice
      obtain ⟨B2, n2, k2, rfl⟩ := o2.slice
      have O1 := Lib.hid o1
      have O2 := Lib.hid o2
      have X1 := Lib.hid x1
      have hx1 := x1.size
      unfold In.vals
      clear o1 o2 x1
      go_wp2_with (at_builtin; go_loud (refine wpList_appI _ rfl _ _ w.heap.size rfl _ (L.take k) rfl ((HO.out.ext X1.out).ext ((Ext.refl _).alloc _)) w1.heap.size x (.slice B1 n1 k1) (.slice B2 n2 k2) 34 rfl (heap_alloc_new _ _) ((O1.out.base hxs).ext ((Ext.refl _).alloc _)) ((O2.out.base hxs).ext ((Ext.refl _).alloc _)) (by omega) (by simp; omega) ?_); intro u' w2 ho2 hg2 _)
      have X2 := Lib.hid (((HX.out.trans X1.out).alloc (.cells #[.int .i64 x.a, .int .i64 x.o, .int .i64 x.n, .int .i64 x.m, .slice B1 n1 k1, .slice B2 n2 k2] 34)).grown hg2 (fun g hg => HO.out.low g hg))
      have HO2 := Lib.hid ho2
      clear ho2 hg2
      go_wp2_with fail
      go_roundw
      case rel => exact ⟨k + 1, by go_num, by omega, by rw [HT.out]; exact HO2, X2⟩
      case measure => simp [intOf]; omega
    · have HI : Hid (RowI wr _ L) := Lib.hid (by have := HO.out.row; rwa [List.take_of_length_le (by have := Hn.out; omega)] at this)
      go_wp2_with fail
      refine (HJ.out _ _ HI.out).mono ?_
      rintro e w1 ⟨v1, rfl, ⟨u1, rfl, o1⟩, x1⟩
      have O1 := Lib.hid o1.row
      have X1 := Lib.hid (HX.out.trans x1)
      have I1 := Lib.hid (HI.out.ext x1)
      clear o1 x1
      go_wp2_with fail
      refine (HRJ.out _ X1.out).mono ?_
      rintro e w2 ⟨v2, rfl, ⟨u2, rfl, o2⟩, x2⟩
      have O2 := Lib.hid o2.row
      have O12 := Lib.hid (O1.out.ext x2)
      have X2 := Lib.hid (X1.out.trans x2)
      have I2 := Lib.hid (I1.out.ext x2)
      clear o2 x2
      go_wp2_with fail
      refine (HP.out _ _ I2.out).mono ?_
      rintro e w3 ⟨rfl, x3⟩
      have X3 := Lib.hid (X2.out.trans x3)
      have O13 := Lib.hid (O12.out.ext x3)
      have O23 := Lib.hid (O2.out.ext x3)
      have I3 := Lib.hid (I2.out.ext x3)
      clear x3
      go_wp2_with fail
      refine (HRP.out _ X3.out).mono ?_
      rintro e w4 ⟨rfl, x4⟩
      have X4 := Lib.hid (X3.out.trans x4)
      have O14 := Lib.hid (O13.out.ext x4)
      have O24 := Lib.hid (O23.out.ext x4)
      have I4 := Lib.hid (I3.out.ext x4)
      clear x4
      go_wp2_with fail
      refine (HQ.out _ _ _ O14.out O24.out).mono ?_
      rintro e w5 ⟨rfl, n5, rfl⟩
      go_wp2_with fail
      refine (HS.out _ _ (X4.out.drewN _) (I4.out.ext ((Ext.refl _).drewN _))).mono ?_
      rintro e w6 ⟨rfl, x6⟩
      go_wp2_with fail
      refine (awake_any _).mono ?_
      rintro e w7 ⟨rfl, x7⟩
      go_wp2
      go_ret
      exact ⟨rfl, ((X4.out.drewN _).trans x6).trans x7⟩

set_option maxRecDepth 100000 in
theorem codeJoins_lifted (os : Os) (started : os.Started) (H : Type) (enc : TypeId × Value → H) :
    ReturnsInHanded {} Try.checked os 4 .any (Rows.codeJoinsSpec.pre6 enc Try.prog Try.f4 Rows.codeJoinsRow.domain false) (Rows.codeJoinsSpec.post enc Try.prog Try.f4 false true false false) := by
  refine returnsInHanded_of_change_sized (C := Try.checked) own started (by kernel_rfl) Try.func4
    (ChangeSpec.witness6 (enc := enc) (C := Try.checked) false ⟨#[], #[.slice none 0 0, .int .i64 0], []⟩ 8 (by kernel_rfl) (by kernel_rfl) (by kernel_rfl) (by kernel_rfl)) ?_
  intro W base args ds gs before hval0 hW hcnd hsz0 _
  have hval : ∀ (j : Nat) t v, Try.f4.params[j]? = some t → args[j]? = some v → Value.okWide Try.prog W .any base t v := hval0
  have hsz : (DataW.weightsEach Try.prog (Try.f4.params.toList ++ Rows.codeJoinsSpec.plain.varTypes Try.prog) (ds ++ gs)).all (· ≤ reachBytes) = true := hsz0
  have hW' := hW
  obtain ⟨p, q, hA0, hV, rfl, hfz, hnd⟩ := hW
  have hA : DataW.TrodAll enc Try.prog W 0 (fun _ => true) true Try.f4.params.toList args.toList ds p := hA0
  rw [Try.params4] at hA hval hsz
  obtain ⟨v0, vs0, d0, ds0, p0, q0, hargs, rfl, rfl, h0, r0⟩ := trodAll_cons hA
  obtain ⟨v1, vs1, d1, ds1, p1, q1, rfl, rfl, rfl, h1, r1⟩ := trodAll_cons r0
  obtain ⟨rfl, rfl, rfl⟩ := trodAll_nil r1
  obtain rfl : args = #[v0, v1] := by cases args; simp_all
  obtain ⟨rfl, rfl⟩ := trodVars_none hV
  obtain ⟨a0, len0, cap0, rfl⟩ := okWide_slice Try.underlying24 (hval 0 24 v0 rfl rfl)
  have k0 := h0
  have lt0 : ∀ x ∈ p0, x.block < W.heap.size := by obtain ⟨m, hm⟩ := k0; exact DataW.trod_lt m _ _ _ hm
  obtain ⟨l0, w0, z0⟩ : ∃ l, RowI W (.slice a0 len0 cap0) l ∧ ∀ x ∈ l, x.to.length * 8 ≤ 140737488351232 ∧ x.ks.length * 8 ≤ 140737488351232 := by
    obtain ⟨fuel, hf⟩ := h0
    obtain ⟨A, n, c, l, hcs, hln, hrow, hb, hq⟩ := open_listG ShI (bytes := 80) (Q := InOk) Try.underlying24 (by kernel_rfl) (by kernel_rfl) open_insG hf (light_of hsz (j := 0) rfl rfl)
    simp [Value.cells] at hcs
    obtain ⟨rfl, rfl, rfl⟩ := hcs
    refine ⟨l.map (·.1), ⟨l, rfl, hrow⟩, fun x hx => ?_⟩
    obtain ⟨y, hy, rfl⟩ := List.mem_map.1 hx
    exact (hq y hy).2
  obtain ⟨a1, rfl, rfl, rfl, w1⟩ := open_int Try.underlying3 (hval 1 3 v1 rfl rfl) h1
  have z1 : B64 a1 := bounds_i64 w1
  clear hA0 hval0 hsz0
  refine (codeJoins_walk W (.slice a0 len0 cap0) l0 w0 z0 a1 z1).mono fun e W' ⟨he, bel⟩ => ?_
  subst he
  exact ⟨_, rfl, _, _, _, [], _, [], hW', trodAll_mk1 (shut_bool Try.underlying4 _), (trodAll_cons_mk (Below.trod laidOut (by kernel_rfl) (of_decide_eq_true (by kernel_rfl)) k0 bel lt0) (trodAll_cons_mk (shut_int Try.underlying3 w1) trodAll_mk0)), rfl, bel.frame _, fun h => by cases h⟩

theorem codeJoins_over : Rows.codeJoinsRow.holds Try.pinned (OpenSpec.ofChange Rows.codeJoinsSpec) :=
  OpenClaim.holds_of_wide 4 Try.f4 rfl rfl rfl rfl rfl rfl rfl ⟨rfl, rfl, rfl, rfl, rfl⟩ rfl rfl rfl rfl rfl (by kernel_rfl) Try.func4 (by kernel_rfl)
    (of_decide_eq_true (by kernel_rfl)) (by unfold Func.isWrapper; first | (rw [if_pos (by decide +kernel)]; kernel_rfl) | (rw [if_neg (by decide +kernel)]; exact ⟨rfl, rfl⟩))
    (fun os started H enc _ => codeJoins_lifted os started H enc)

/-- The statement. -/
theorem codeJoins_proved : Rows.CodeJoinsSaid := codeJoins_over
#print axioms codeJoins_proved

end Go.Proofs.Ytcgajgileehbbaa
