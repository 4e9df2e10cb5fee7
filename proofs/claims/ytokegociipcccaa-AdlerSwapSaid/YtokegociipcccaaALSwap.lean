/- AdlerSwap: if two unlike bytes change places, fewer than 65521 places apart, the sum is another one, of any bytes, whichever two; no conditions. -/
import Derived.Test.YtokegociipcccaaRows
import Derived.ProofKit
import Derived.OpenShut
import Derived.ShutString
import Derived.ChangeOld
import Derived.SizedLaws
import Derived.RegionTactic
import Derived.Deep.QuietTactic
import Derived.Test.YtokegociipcccaaFrame
import Derived.Test.YtokegociipcccaaAdX
import Derived.Test.YtokegociipcccaaAdMath
import Derived.Test.YtokegociipcccaaOwn
namespace Go.Proofs.Ytokegociipcccaa
open Go.ChangeShapes Go.WideShapes Go.ChangeAt Go.RowKit
open Go.ChangeMaps (open_string shut_string)
set_option linter.unusedVariables false

theorem eq_eq {a b x y : Int} (h : a = b ↔ x = y) : ((a == b) == (x == y)) = true := by
  rw [beq_iff_eq, Bool.eq_iff_iff, beq_iff_eq, beq_iff_eq]
  exact h
theorem ret_b {b : Bool} (h : b = true) : Ending.returned (.bool b) = .returned (.bool true) := by rw [h]
theorem quiet_left {P : Program} {f : FuncId} {args : Array Value} {w : World} {n : Nat} {v : Value}
    (h : Calls P f args (w.drewN n) fun e w' => e = .returned v ∧ w.drewN n = w') : Calls P f args (w.drewN n) fun e w'' => e = .returned v ∧ ∃ m, w'' = w.drewN m :=
  h.mono fun _ _ ⟨he, hm⟩ => ⟨he, n, hm.symm⟩

set_option maxHeartbeats 4000000 in
theorem adlerSwap_walk (W : World) (v : Value) (l : List Int) (h : Row W .u8 v l) (hl : l.length ≤ 140737488351232) (n : Int) (hn : -9223372036854775808 ≤ n ∧ n ≤ 9223372036854775807) (m : Int) (hn' : -9223372036854775808 ≤ m ∧ m ≤ 9223372036854775807) :
    Calls Try.prog 6 #[v, .int .i64 n, .int .i64 m] W (RetB W true) := by
  have hr : l.length ≤ 140737488355328 := by omega
  have h' := h
  obtain ⟨A, c, rfl, hlc, hcm, _, hf, h6⟩ := h'
  unfold maxLen at hcm
  by_cases h0 : l.length = 0
  · have e : l = [] := List.eq_nil_of_length_eq_zero h0
    subst e
    clear hl h0 hr hlc hf h6
    simp only [List.length_nil] at h ⊢
    go_enter Try.func6, Try.ntmps6
    go_wp2_with (go_at_call 15; refine (works_any _).mono ?_; rintro e w0 ⟨rfl, x0⟩)
    go_ret
    exact ⟨rfl, x0⟩
  · obtain ⟨i, hi, hil⟩ := bring_nat n (show 0 < l.length by omega)
    obtain ⟨k, hk, hkl⟩ := bring_nat m (show 0 < l.length by omega)
    have HI := Lib.hid hi
    have HK := Lib.hid hk
    obtain ⟨bl, o, rfl, hbl, hcb⟩ := h6 (by omega)
    have hbi := hcb i hil
    have hbk := hcb k hkl
    clear hi hk h6 hcb
    by_cases c1 : (65521 : Int) ≤ (i : Int) - k
    · clear hf hbi hbk
      go_enter Try.func6, Try.ntmps6
      go_wp2_with fail
      refine (works_any _).mono ?_
      rintro e w0 ⟨rfl, x0⟩
      have h0w := h.ext x0
      go_wp2_with fail
      refine (copyBytes_any _ l _ (by exact h0w) hr).mono ?_
      rintro e w1 ⟨v1, rfl, ho1, x1⟩
      obtain ⟨g, d, rfl, hB, hg, hld, hdm, hcell, hfr⟩ := ho1.parts (by omega)
      unfold maxLen at hdm
      have hci := hcell i hil
      have hck := hcell k hkl
      have hfi := hfr i
      have hfk := hfr k
      have HO := Lib.hid ho1
      have HX := Lib.hid (x0.trans x1)
      have HX1 := Lib.hid x1
      have HW0 := Lib.hid h0w
      have HB : Hid (W.heap.size ≤ g) := Nat.le_trans x0.size hB
      have HB1 : Hid (w0.heap.size ≤ g) := hB
      clear hcell hfr ho1 x1 x0 hB hg h0w h
      go_wp2_with fail
      refine (bring_any _ _ _ hn.1 hn.2 (by omega) (by omega)).mono ?_
      rw [HI.out]
      rintro e w2 ⟨rfl, rfl⟩
      go_wp2_with fail
      refine (bring_any _ _ _ hn'.1 hn'.2 (by omega) (by omega)).mono ?_
      rw [HK.out]
      rintro e w2 ⟨rfl, rfl⟩
      go_wp2
      go_ret
      exact ⟨rfl, HX.out⟩
    · by_cases c2 : (65521 : Int) ≤ (k : Int) - i
      · clear hf hbi hbk
        go_enter Try.func6, Try.ntmps6
        go_wp2_with fail
        refine (works_any _).mono ?_
        rintro e w0 ⟨rfl, x0⟩
        have h0w := h.ext x0
        go_wp2_with fail
        refine (copyBytes_any _ l _ (by exact h0w) hr).mono ?_
        rintro e w1 ⟨v1, rfl, ho1, x1⟩
        obtain ⟨g, d, rfl, hB, hg, hld, hdm, hcell, hfr⟩ := ho1.parts (by omega)
        unfold maxLen at hdm
        have hci := hcell i hil
        have hck := hcell k hkl
        have hfi := hfr i
        have hfk := hfr k
        have HO := Lib.hid ho1
        have HX := Lib.hid (x0.trans x1)
        have HX1 := Lib.hid x1
        have HW0 := Lib.hid h0w
        have HB : Hid (W.heap.size ≤ g) := Nat.le_trans x0.size hB
        have HB1 : Hid (w0.heap.size ≤ g) := hB
        clear hcell hfr ho1 x1 x0 hB hg h0w h
        go_wp2_with fail
        refine (bring_any _ _ _ hn.1 hn.2 (by omega) (by omega)).mono ?_
        rw [HI.out]
        rintro e w2 ⟨rfl, rfl⟩
        go_wp2_with fail
        refine (bring_any _ _ _ hn'.1 hn'.2 (by omega) (by omega)).mono ?_
        rw [HK.out]
        rintro e w2 ⟨rfl, rfl⟩
        go_wp2
        go_ret
        exact ⟨rfl, HX.out⟩
      · have HS := Lib.hid (adl_swap hil hkl hf (by omega) (by omega))
        by_cases hik : i = k
        · subst hik
          go_enter Try.func6, Try.ntmps6
          go_wp2_with fail
          refine (works_any _).mono ?_
          rintro e w0 ⟨rfl, x0⟩
          have h0w := h.ext x0
          go_wp2_with fail
          refine (copyBytes_any _ l _ (by exact h0w) hr).mono ?_
          rintro e w1 ⟨v1, rfl, ho1, x1⟩
          obtain ⟨g, d, rfl, hB, hg, hld, hdm, hcell, hfr⟩ := ho1.parts (by omega)
          unfold maxLen at hdm
          have hci := hcell i hil
          have hck := hcell i hkl
          have hfi := hfr i
          have hfk := hfr i
          have HO := Lib.hid ho1
          have HX := Lib.hid (x0.trans x1)
          have HX1 := Lib.hid x1
          have HW0 := Lib.hid h0w
          have HB : Hid (W.heap.size ≤ g) := Nat.le_trans x0.size hB
          have HB1 : Hid (w0.heap.size ≤ g) := hB
          clear hcell hfr ho1 x1 x0 hB hg h0w h
          go_wp2_with fail
          refine (bring_any _ _ _ hn.1 hn.2 (by omega) (by omega)).mono ?_
          rw [HI.out]
          rintro e w2 ⟨rfl, rfl⟩
          go_wp2_with fail
          refine (bring_any _ _ _ hn'.1 hn'.2 (by omega) (by omega)).mono ?_
          rw [HK.out]
          rintro e w2 ⟨rfl, rfl⟩
          go_wp2_with fail
          go_region
          obtain ⟨w5, hw5⟩ : ∃ w5, w5 = ((w1.setCell ⟨g, i, none⟩ (.int .u8 (gi l i))).setCell ⟨g, i, none⟩ (.int .u8 (gi l i))).drew := ⟨_, rfl⟩
          rw [← hw5]
          have hoc : Own w0.heap.size w5 5 .u8 (.slice (some ⟨g, 0, none⟩) l.length d) (swp l i i) := by
            rw [hw5]
            exact ((HO.out.put (j := i) (x := gi l i) hil (hf _ (gi_mem hil))).put (j := i) (x := gi l i) (by rw [List.length_set]; exact hil) (hf _ (gi_mem hil))).ext (Ext.refl _).drew
          have x5 : Ext W w5 := by
            rw [hw5]
            exact ((HX.out.set_ (p := ⟨g, i, none⟩) HB.out _).set_ (p := ⟨g, i, none⟩) HB.out _).drew
          have x05 : Ext w0 w5 := by
            rw [hw5]
            exact ((HX1.out.set_ (p := ⟨g, i, none⟩) HB1.out _).set_ (p := ⟨g, i, none⟩) HB1.out _).drew
          have hb5 := HW0.out.ext x05
          have hb5i := (x5.cell (p := ⟨bl, o + i, none⟩) hbl).trans hbi
          have hb5k := (x5.cell (p := ⟨bl, o + i, none⟩) hbl).trans hbk
          have hr' : (swp l i i).length ≤ 140737488355328 := by rw [swp_len]; exact hr
          clear hw5 hci hck hfi hfk x05 hbi hbk
          have HX5 := Lib.hid x5
          clear x5
          go_wp2
          go_quiet ((go_at_call 10; first | exact quiet_left (Of_any _ l _ (hb5.ext ((Ext.refl _).drewN _)) hr) | exact quiet_left (Of_any _ (swp l i i) _ (hoc.row.ext ((Ext.refl _).drewN _)) hr')))
          go_wp2
          go_ret
          exact ⟨ret_b (by rw [swp_same rfl]; simp), HX5.out.drewN _⟩
        · have hki : ¬ k = i := fun e => hik e.symm
          go_enter Try.func6, Try.ntmps6
          go_wp2_with fail
          refine (works_any _).mono ?_
          rintro e w0 ⟨rfl, x0⟩
          have h0w := h.ext x0
          go_wp2_with fail
          refine (copyBytes_any _ l _ (by exact h0w) hr).mono ?_
          rintro e w1 ⟨v1, rfl, ho1, x1⟩
          obtain ⟨g, d, rfl, hB, hg, hld, hdm, hcell, hfr⟩ := ho1.parts (by omega)
          unfold maxLen at hdm
          have hci := hcell i hil
          have hck := hcell k hkl
          have hfi := hfr i
          have hfk := hfr k
          have HO := Lib.hid ho1
          have HX := Lib.hid (x0.trans x1)
          have HX1 := Lib.hid x1
          have HW0 := Lib.hid h0w
          have HB : Hid (W.heap.size ≤ g) := Nat.le_trans x0.size hB
          have HB1 : Hid (w0.heap.size ≤ g) := hB
          clear hcell hfr ho1 x1 x0 hB hg h0w h
          go_wp2_with fail
          refine (bring_any _ _ _ hn.1 hn.2 (by omega) (by omega)).mono ?_
          rw [HI.out]
          rintro e w2 ⟨rfl, rfl⟩
          go_wp2_with fail
          refine (bring_any _ _ _ hn'.1 hn'.2 (by omega) (by omega)).mono ?_
          rw [HK.out]
          rintro e w2 ⟨rfl, rfl⟩
          go_wp2_with fail
          go_region
          obtain ⟨w5, hw5⟩ : ∃ w5, w5 = ((w1.setCell ⟨g, i, none⟩ (.int .u8 (gi l k))).setCell ⟨g, k, none⟩ (.int .u8 (gi l i))).drew := ⟨_, rfl⟩
          rw [← hw5]
          have hoc : Own w0.heap.size w5 5 .u8 (.slice (some ⟨g, 0, none⟩) l.length d) (swp l i k) := by
            rw [hw5]
            exact ((HO.out.put (j := i) (x := gi l k) hil (hf _ (gi_mem hkl))).put (j := k) (x := gi l i) (by rw [List.length_set]; exact hkl) (hf _ (gi_mem hil))).ext (Ext.refl _).drew
          have x5 : Ext W w5 := by
            rw [hw5]
            exact ((HX.out.set_ (p := ⟨g, i, none⟩) HB.out _).set_ (p := ⟨g, k, none⟩) HB.out _).drew
          have x05 : Ext w0 w5 := by
            rw [hw5]
            exact ((HX1.out.set_ (p := ⟨g, i, none⟩) HB1.out _).set_ (p := ⟨g, k, none⟩) HB1.out _).drew
          have hb5 := HW0.out.ext x05
          have hb5i := (x5.cell (p := ⟨bl, o + i, none⟩) hbl).trans hbi
          have hb5k := (x5.cell (p := ⟨bl, o + k, none⟩) hbl).trans hbk
          have hr' : (swp l i k).length ≤ 140737488355328 := by rw [swp_len]; exact hr
          clear hw5 hci hck hfi hfk x05 hbi hbk
          have HX5 := Lib.hid x5
          clear x5
          go_wp2
          go_quiet ((go_at_call 10; first | exact quiet_left (Of_any _ l _ (hb5.ext ((Ext.refl _).drewN _)) hr) | exact quiet_left (Of_any _ (swp l i k) _ (hoc.row.ext ((Ext.refl _).drewN _)) hr')))
          go_wp2
          go_ret
          exact ⟨ret_b (eq_eq HS.out), HX5.out.drewN _⟩

set_option maxRecDepth 100000 in
theorem adlerSwap_lifted (os : Os) (started : os.Started) (H : Type) (enc : TypeId × Value → H) :
    ReturnsInHanded {} Try.checked os 6 .any (Rows.adlerSwapSpec.pre6 enc Try.prog Try.f6 Rows.adlerSwapRow.domain false) (Rows.adlerSwapSpec.post enc Try.prog Try.f6 false true false false) := by
  refine returnsInHanded_of_change_sized (C := Try.checked) own started (by kernel_rfl) Try.func6
    (ChangeSpec.witness6 (enc := enc) (C := Try.checked) false ⟨#[], #[.slice none 0 0, .int .i64 0, .int .i64 0], []⟩ 8 (by kernel_rfl) (by kernel_rfl) (by kernel_rfl) (by kernel_rfl)) ?_
  intro W base args ds gs before hval0 hW hcnd hsz0 _
  have hval : ∀ (j : Nat) t v, Try.f6.params[j]? = some t → args[j]? = some v → Value.okWide Try.prog W .any base t v := hval0
  have hsz : (DataW.weightsEach Try.prog (Try.f6.params.toList ++ Rows.adlerSwapSpec.plain.varTypes Try.prog) (ds ++ gs)).all (· ≤ reachBytes) = true := hsz0
  have hW' := hW
  obtain ⟨p, q, hA0, hV, rfl, hfz, hnd⟩ := hW
  have hA : DataW.TrodAll enc Try.prog W 0 (fun _ => true) true Try.f6.params.toList args.toList ds p := hA0
  rw [Try.params6] at hA hval hsz
  obtain ⟨v0, vs0, d0, ds0, p0, q0, hargs, rfl, rfl, h0, r0⟩ := trodAll_cons hA
  obtain ⟨v1, vs1, d1, ds1, p1, q1, rfl, rfl, rfl, h1, r1⟩ := trodAll_cons r0
  obtain ⟨v2, vs2, d2, ds2, p2, q2, rfl, rfl, rfl, h2, r2⟩ := trodAll_cons r1
  obtain ⟨rfl, rfl, rfl⟩ := trodAll_nil r2
  obtain rfl : args = #[v0, v1, v2] := by cases args; simp_all
  obtain ⟨rfl, rfl⟩ := trodVars_none hV
  obtain ⟨a0, len0, cap0, rfl⟩ := okWide_slice Try.underlying23 (hval 0 23 v0 rfl rfl)
  have k0 := h0
  have lt0 : ∀ x ∈ p0, x.block < W.heap.size := by obtain ⟨m, hm⟩ := k0; exact DataW.trod_lt m _ _ _ hm
  obtain ⟨l0, w0, z0⟩ : ∃ l, Row W .u8 (.slice a0 len0 cap0) l ∧ l.length ≤ 140737488351232 := by
    obtain ⟨fuel, hf⟩ := h0
    rcases open_ints Try.underlying23 Try.underlying5 (by kernel_rfl) hf with ⟨hcs, _⟩ | ⟨x, l, c, zs, hcs, _, hl, hm, hz, hx, hcell, hwz⟩
    · simp [Value.cells] at hcs
      obtain ⟨rfl, rfl, rfl⟩ := hcs
      exact ⟨[], (Own.nil 0 _ 0 _).row, by simp⟩
    · simp [Value.cells] at hcs
      obtain ⟨rfl, rfl, rfl⟩ := hcs
      simp only [if_true] at hz
      refine ⟨_, row_of_open hl hm hz hcell hwz, ?_⟩
      have hd : d0 = _ := congrArg Prod.fst hx
      have hs := sized_slice hsz (j := 0) rfl (by rw [hd]; rfl) Try.underlying23
      rw [bytes8] at hs
      simp only [lits, List.length_map, List.length_take, List.length_drop, reachBytes] at hs
      simp only [List.length_take]
      omega
  obtain ⟨a1, rfl, rfl, rfl, w1⟩ := open_int Try.underlying3 (hval 1 3 v1 rfl rfl) h1
  have z1 := bounds_i64 w1
  obtain ⟨a2, rfl, rfl, rfl, w2⟩ := open_int Try.underlying3 (hval 2 3 v2 rfl rfl) h2
  have z2 := bounds_i64 w2
  clear hA0 hval0 hsz0
  refine (adlerSwap_walk W (.slice a0 len0 cap0) l0 w0 z0 a1 z1 a2 z2).mono fun e W' ⟨he, bel⟩ => ?_
  subst he
  exact ⟨_, rfl, _, _, _, [], _, [], hW', trodAll_mk1 (shut_bool Try.underlying4 _), (trodAll_cons_mk (Below.trod laidOut (by kernel_rfl) (of_decide_eq_true (by kernel_rfl)) k0 bel lt0) (trodAll_cons_mk (shut_int Try.underlying3 w1) (trodAll_cons_mk (shut_int Try.underlying3 w2) trodAll_mk0))), rfl, bel.frame _, fun h => by cases h⟩

theorem adlerSwap_over : Rows.adlerSwapRow.holds Try.pinned (OpenSpec.ofChange Rows.adlerSwapSpec) :=
  OpenClaim.holds_of_wide 6 Try.f6 rfl rfl rfl rfl rfl rfl rfl ⟨rfl, rfl, rfl, rfl, rfl⟩ rfl rfl rfl rfl rfl (by kernel_rfl) Try.func6 (by kernel_rfl)
    (of_decide_eq_true (by kernel_rfl)) (by unfold Func.isWrapper; first | (rw [if_pos (by decide +kernel)]; kernel_rfl) | (rw [if_neg (by decide +kernel)]; exact ⟨rfl, rfl⟩))
    (fun os started H enc _ => adlerSwap_lifted os started H enc)

/-- The statement. -/
theorem adlerSwap_proved : Rows.AdlerSwapSaid := adlerSwap_over
#print axioms adlerSwap_proved
end Go.Proofs.Ytokegociipcccaa
