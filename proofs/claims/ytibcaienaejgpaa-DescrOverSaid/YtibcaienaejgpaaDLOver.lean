/- DescrOver: Elem takes back Over, and Over Elem; no type has both; arrays take one word, and are references. Of every type that may be. -/
import Derived.Test.YtibcaienaejgpaaDOpen
import Derived.Test.YtibcaienaejgpaaDescY
namespace Go.Proofs.Ytibcaienaejgpaa
open Go.ChangeShapes Go.WideShapes Go.ChangeAt Go.RowKit
open Go.ChangeMaps (open_string shut_string)
set_option linter.unusedVariables false
theorem over_cases {t : Ty} (ho : okT t = true) : (∃ U, overT t = (U, true) ∧ elemT t = (t0, false) ∧ elemT U = (t, true) ∧ okT U = true ∧ wordsT U = 1 ∧ valT U = 3) ∨ (∃ U, overT t = (t0, false) ∧ elemT t = (U, true) ∧ overT U = (t, true) ∧ okT U = true ∧ valT t = 3) := by
  obtain ⟨k, s⟩ := t
  rcases kinds k with rfl | rfl | rfl | rfl | rfl | rfl | ⟨n1, n2, n3, n4, n5, n6, -⟩
  · exact .inl ⟨⟨4, s⟩, rfl, rfl, rfl, ho, rfl, rfl⟩
  · exact .inl ⟨⟨5, s⟩, rfl, rfl, rfl, ho, rfl, rfl⟩
  · exact .inl ⟨⟨6, s⟩, rfl, rfl, rfl, ho, rfl, rfl⟩
  · exact .inr ⟨⟨1, s⟩, rfl, rfl, rfl, ho, rfl⟩
  · exact .inr ⟨⟨2, s⟩, rfl, rfl, rfl, ho, rfl⟩
  · exact .inr ⟨⟨3, s⟩, rfl, rfl, rfl, ho, rfl⟩
  · rw [okT_odd n1 n2 n3 n4 n5 n6] at ho
    cases ho
theorem AtT.more {w w' : World} {g : Nat} {t : Ty} {o : Obj} (h : AtT w g t) (hg : g < w.heap.size) (x : Ext (w.alloc o) w') : AtT w' g t ∧ g < w'.heap.size :=
  ⟨h.ext (((Ext.refl w).alloc o).trans x) hg, by have := x.size; simp at this; omega⟩
theorem AtT.made (w : World) (t : Ty) {w' : World} (x : Ext (w.alloc (.cells t.vals 23)) w') : AtT w' w.heap.size t ∧ w.heap.size < w'.heap.size :=
  ⟨(AtT.of (t := t) (heap_alloc_new w _)).ext x (by simp), by have := x.size; simp at this; omega⟩
set_option maxRecDepth 100000 in
set_option maxHeartbeats 8000000 in
theorem descrOver_walk (w : World) (t : Ty) (hk : I64 t.k) (hl : t.s.length ≤ 140737488351232) : Calls Try.prog 9 #[.agg t.vals] w (fun e w' => e = .returned (.bool true) ∧ Ext w w') := by
  have hC := fun W => CheckType_any t W hl
  cases ho : okT t
  · rw [checkT_no ho] at hC
    unfold Ty.vals at hC ⊢
    have HC := Lib.hid hC
    clear hC ho
    go_enter Try.func9, Try.ntmps9
    go_wp2_with fail
    refine (works_any _).mono ?_
    rintro e w1 ⟨rfl, x1⟩
    obtain ⟨⟨y0, y1⟩, hlt1⟩ := AtT.made w t x1
    go_wp2_with fail
    refine (HC.out _).mono ?_
    rintro e w2 ⟨rfl, x2⟩
    go_wp2
    go_ret
    exact ⟨rfl, (((Ext.refl w).alloc _).trans x1).trans x2⟩
  · rw [checkT_yes ho] at hC
    have hO := fun W => Over_any t W hl
    have hE := fun W => Elem_any t W hl
    have h64 := okT_name ho
    have hq := fun W => run_eqT t t W
    rw [show eqT t t = true by simp [eqT]] at hq
    rcases over_cases ho with ⟨U, e1, e2, e3, e4, e5, e6⟩ | ⟨U, e1, e2, e3, e4, e5⟩
    · rw [e1] at hO
      rw [e2] at hE
      have h64 := okT_name e4
      have hE2 := fun W => Elem_any U W (by omega)
      have hC2 := fun W => CheckType_any U W (by omega)
      have hW2 := fun W => Words_any U W
      have hV2 := fun W => Val_any U W
      rw [e3] at hE2
      rw [checkT_yes e4] at hC2
      rw [e5] at hW2
      rw [e6] at hV2
      unfold Ty.vals at hC hO hE hE2 hC2 hW2 hV2 hq ⊢
      simp only [t0] at hE
      have HC := Lib.hid hC
      have HO := Lib.hid hO
      have HE := Lib.hid hE
      have HE2 := Lib.hid hE2
      have HC2 := Lib.hid hC2
      have HW2 := Lib.hid hW2
      have HV2 := Lib.hid hV2
      clear hC hO hE hE2 hC2 hW2 hV2 ho e1 e2 e3 e4 e5 e6 h64
      go_enter Try.func9, Try.ntmps9
      go_wp2_with fail
      refine (works_any _).mono ?_
      rintro e w1 ⟨rfl, x1⟩
      obtain ⟨a1, hlt1⟩ := AtT.made w t x1
      have X1 := Lib.hid (((Ext.refl w).alloc (.cells t.vals 23)).trans x1)
      obtain ⟨y0, y1⟩ := id a1
      go_wp2_with fail
      refine (HC.out _).mono ?_
      rintro e w2 ⟨rfl, x2⟩
      have X2 := Lib.hid (X1.out.trans x2)
      have a2 := a1.ext x2 hlt1
      have hlt2 : w.heap.size < w2.heap.size := Nat.lt_of_lt_of_le hlt1 x2.size
      clear y0 y1 x1 x2 a1
      obtain ⟨y0, y1⟩ := id a2
      go_wp2_with fail
      refine (HO.out _).mono ?_
      rintro e w3 ⟨rfl, x3⟩
      have X3 := Lib.hid (X2.out.trans x3)
      have a3 := a2.ext x3 hlt2
      have hlt3 : w.heap.size < w3.heap.size := Nat.lt_of_lt_of_le hlt2 x3.size
      clear y0 y1 x3 a2
      obtain ⟨y0, y1⟩ := id a3
      go_wp2_with fail
      refine (HE.out _).mono ?_
      rintro e w4 ⟨rfl, x4⟩
      have X4 := Lib.hid ((X3.out.alloc _).trans x4)
      obtain ⟨a4, hlt4⟩ := a3.more hlt3 x4
      obtain ⟨b4, hlu4⟩ := AtT.made w3 U x4
      clear y0 y1 x4 a3
      obtain ⟨z0, z1⟩ := id b4
      go_wp2_with fail
      refine (HE2.out _).mono ?_
      rintro e w5 ⟨rfl, x5⟩
      have X5 := Lib.hid ((X4.out.alloc _).trans x5)
      obtain ⟨a5, hlt5⟩ := a4.more hlt4 x5
      obtain ⟨b5, hlu5⟩ := b4.more hlu4 x5
      clear z0 z1 x5 a4 b4
      obtain ⟨y0, y1⟩ := id a5
      obtain ⟨z0, z1⟩ := id b5
      go_wp2_with fail
      refine (HC2.out _).mono ?_
      rintro e w6 ⟨rfl, x6⟩
      have X6 := Lib.hid ((X5.out.alloc _).trans x6)
      obtain ⟨b6, hlu6⟩ := b5.more hlu5 x6
      clear y0 y1 z0 z1 x6 a5 b5
      obtain ⟨z0, z1⟩ := id b6
      go_wp2_with fail
      refine (HW2.out _).mono ?_
      rintro e w7 ⟨rfl, x7⟩
      have X7 := Lib.hid (X6.out.trans x7)
      have b7 := b6.ext x7 hlu6
      clear z0 z1 x7 b6
      obtain ⟨z0, z1⟩ := id b7
      go_wp2_with fail
      refine (HV2.out _).mono ?_
      rintro e w8 ⟨rfl, x8⟩
      go_wp2
      go_ret
      exact ⟨rfl, X7.out.trans x8⟩
    · rw [e1] at hO
      rw [e2] at hE
      have h64 := okT_name e4
      have hO2 := fun W => Over_any U W (by omega)
      have hC2 := fun W => CheckType_any U W (by omega)
      have hV2 := fun W => Val_any t W
      rw [e3] at hO2
      rw [checkT_yes e4] at hC2
      rw [e5] at hV2
      unfold Ty.vals at hC hO hE hO2 hC2 hV2 hq ⊢
      simp only [t0] at hO
      have HC := Lib.hid hC
      have HO := Lib.hid hO
      have HE := Lib.hid hE
      have HO2 := Lib.hid hO2
      have HC2 := Lib.hid hC2
      have HV2 := Lib.hid hV2
      clear hC hO hE hO2 hC2 hV2 ho e1 e2 e3 e4 e5 h64
      go_enter Try.func9, Try.ntmps9
      go_wp2_with fail
      refine (works_any _).mono ?_
      rintro e w1 ⟨rfl, x1⟩
      obtain ⟨a1, hlt1⟩ := AtT.made w t x1
      have X1 := Lib.hid (((Ext.refl w).alloc (.cells t.vals 23)).trans x1)
      obtain ⟨y0, y1⟩ := id a1
      go_wp2_with fail
      refine (HC.out _).mono ?_
      rintro e w2 ⟨rfl, x2⟩
      have X2 := Lib.hid (X1.out.trans x2)
      have a2 := a1.ext x2 hlt1
      have hlt2 : w.heap.size < w2.heap.size := Nat.lt_of_lt_of_le hlt1 x2.size
      clear y0 y1 x1 x2 a1
      obtain ⟨y0, y1⟩ := id a2
      go_wp2_with fail
      refine (HO.out _).mono ?_
      rintro e w3 ⟨rfl, x3⟩
      have X3 := Lib.hid (X2.out.trans x3)
      have a3 := a2.ext x3 hlt2
      have hlt3 : w.heap.size < w3.heap.size := Nat.lt_of_lt_of_le hlt2 x3.size
      clear y0 y1 x3 a2
      obtain ⟨y0, y1⟩ := id a3
      go_wp2_with fail
      refine (HE.out _).mono ?_
      rintro e w4 ⟨rfl, x4⟩
      have X4 := Lib.hid ((X3.out.alloc _).trans x4)
      obtain ⟨a4, hlt4⟩ := a3.more hlt3 x4
      clear y0 y1 x4 a3
      go_wp2_with fail
      refine (HO2.out _).mono ?_
      rintro e w5 ⟨rfl, x5⟩
      have X5 := Lib.hid ((X4.out.alloc _).trans x5)
      obtain ⟨a5, hlt5⟩ := a4.more hlt4 x5
      obtain ⟨b5, hlu5⟩ := AtT.made w4 U x5
      clear x5 a4
      obtain ⟨y0, y1⟩ := id a5
      obtain ⟨z0, z1⟩ := id b5
      go_wp2_with fail
      refine (HC2.out _).mono ?_
      rintro e w6 ⟨rfl, x6⟩
      have X6 := Lib.hid ((X5.out.alloc _).trans x6)
      obtain ⟨a6, hlt6⟩ := a5.more hlt5 x6
      clear y0 y1 z0 z1 x6 a5 b5
      obtain ⟨y0, y1⟩ := id a6
      go_wp2_with fail
      refine (HV2.out _).mono ?_
      rintro e w8 ⟨rfl, x8⟩
      go_wp2
      go_ret
      exact ⟨rfl, X6.out.trans x8⟩

set_option maxRecDepth 100000 in
theorem descrOver_lifted (os : Os) (started : os.Started) (H : Type) (enc : TypeId × Value → H) :
    ReturnsInHanded {} Try.checked os 9 .any (Rows.descrOverSpec.pre6 enc Try.prog Try.f9 Rows.descrOverRow.domain false) (Rows.descrOverSpec.post enc Try.prog Try.f9 false true false false) := by
  refine returnsInHanded_of_change_sized (C := Try.checked) own started (by kernel_rfl) Try.func9
    (ChangeSpec.witness6 (enc := enc) (C := Try.checked) false ⟨#[], #[.agg #[.int .i64 0, .string ⟨#[]⟩]], []⟩ 8 (by kernel_rfl) (by kernel_rfl) (by kernel_rfl) (by kernel_rfl)) ?_
  intro W base args ds gs before hval0 hW hcnd hsz0 _
  have hval : ∀ (j : Nat) t v, Try.f9.params[j]? = some t → args[j]? = some v → Value.okWide Try.prog W .any base t v := hval0
  have hsz : (DataW.weightsEach Try.prog (Try.f9.params.toList ++ Rows.descrOverSpec.plain.varTypes Try.prog) (ds ++ gs)).all (· ≤ reachBytes) = true := hsz0
  have hW' := hW
  obtain ⟨p, q, hA0, hV, rfl, hfz, hnd⟩ := hW
  have hA : DataW.TrodAll enc Try.prog W 0 (fun _ => true) true Try.f9.params.toList args.toList ds p := hA0
  rw [Try.params9] at hA hval hsz
  obtain ⟨v0, vs0, d0, ds0, p0, q0, hargs, rfl, rfl, h0, r0⟩ := trodAll_cons hA
  obtain ⟨rfl, rfl, rfl⟩ := trodAll_nil r0
  obtain rfl : args = #[v0] := by cases args; simp_all
  obtain ⟨rfl, rfl⟩ := trodVars_none hV
  obtain ⟨cs0, rfl, -⟩ := okWide_struct Try.underlying23 (hval 0 23 v0 rfl rfl)
  have k0 := h0
  have lt0 : ∀ x ∈ p0, x.block < W.heap.size := by obtain ⟨m, hm⟩ := k0; exact DataW.trod_lt m _ _ _ hm
  obtain ⟨a0, e0, i0, z0⟩ : ∃ t : Ty, cs0 = t.vals ∧ I64 t.k ∧ t.s.length ≤ 140737488351232 := by
    obtain ⟨fuel, hf⟩ := h0
    obtain ⟨y, hy, hd, hk⟩ := open_type hf
    have hd : d0 = _ := hd
    refine ⟨y, ?_, hk, ?_⟩
    · have hy : cs0.toList = y.vals.toList := by simpa [Value.cells] using hy
      exact Array.toList_inj.1 hy
    · exact weights_at hsz (j := 0) rfl (by rw [hd]; rfl) _ (dat_weights y)
  subst e0
  clear hA0 hval0 hsz0
  refine (descrOver_walk W a0 i0 z0).mono fun e W' ⟨he, bel⟩ => ?_
  subst he
  exact ⟨_, rfl, _, _, _, [], _, [], hW', trodAll_mk1 (shut_bool Try.underlying4 _), (trodAll_cons_mk (Below.trod laidOut (by kernel_rfl) (of_decide_eq_true (by kernel_rfl)) k0 bel lt0) trodAll_mk0), rfl, bel.frame _, fun h => by cases h⟩

theorem descrOver_over : Rows.descrOverRow.holds Try.pinned (OpenSpec.ofChange Rows.descrOverSpec) :=
  OpenClaim.holds_of_wide 9 Try.f9 rfl rfl rfl rfl rfl rfl rfl ⟨rfl, rfl, rfl, rfl, rfl⟩ rfl rfl rfl rfl rfl (by kernel_rfl) Try.func9 (by kernel_rfl)
    (of_decide_eq_true (by kernel_rfl)) (by unfold Func.isWrapper; first | (rw [if_pos (by decide +kernel)]; kernel_rfl) | (rw [if_neg (by decide +kernel)]; exact ⟨rfl, rfl⟩))
    (fun os started H enc _ => descrOver_lifted os started H enc)

/-- The statement. -/
theorem descrOver_proved : Rows.DescrOverSaid := descrOver_over
#print axioms descrOver_proved
end Go.Proofs.Ytibcaienaejgpaa
