/- DescrAgain: what can be read may be, and is written so. Of every text. -/
import Derived.Test.YtibcaienaejgpaaDOpen
import Derived.Test.YtibcaienaejgpaaDescY
namespace Go.Proofs.Ytibcaienaejgpaa
open Go.ChangeShapes Go.WideShapes Go.ChangeAt Go.RowKit
open Go.ChangeMaps (open_string shut_string)
set_option linter.unusedVariables false
set_option maxRecDepth 100000 in
set_option maxHeartbeats 8000000 in
theorem descrAgain_walk (w : World) (l : List UInt8) (hl : l.length ≤ 140737488351232) : Calls Try.prog 7 #[.string (bs l)] w (fun e w' => e = .returned (.bool true) ∧ Ext w w') := by
  have hbs := bs_nil l
  have hT := fun W => Type_any l hl W
  have hP := fun W => Proto_any l hl W
  unfold ProtoAns at hP
  rcases typeZ_err l with he | he
  · obtain ⟨ho, ht⟩ := type_back he
    have hf : protoZ l = (⟨t0, []⟩, 50) := (protoZ_err l).resolve_left (not_both he)
    have h64 := okT_name ho
    rw [hf] at hP
    obtain ⟨X, hX⟩ : ∃ X, X = (typeZ l).1 := ⟨_, rfl⟩
    rw [he, ← hX] at hT
    rw [← hX] at ho ht h64
    have hW := fun W => WriteType_any X W (by omega)
    have hC := fun W => CheckType_any X W (by omega)
    rw [show writeT X = (l, 0) by rw [writeT, ho, ht]; rfl] at hW
    rw [checkT_yes ho] at hC
    unfold Ty.vals at hT hW hC
    unfold Pr.vals at hP
    simp only [t0] at hP
    have HT := Lib.hid hT
    have HP := Lib.hid hP
    have HW := Lib.hid hW
    have HC := Lib.hid hC
    clear hT hP hW hC he hf hX ho ht h64
    go_enter Try.func7, Try.ntmps7
    go_wp2_with fail
    refine (works_any _).mono ?_
    rintro e w1 ⟨rfl, x1⟩
    go_wp2_with fail
    refine (HT.out _).mono ?_
    rintro e w2 ⟨rfl, x2⟩
    have at2 := AtT.of (t := X) (heap_alloc_new w2 (.cells X.vals 23))
    have X2 := Lib.hid ((x1.trans x2).alloc (.cells X.vals 23))
    clear x1 x2
    go_wp2_with fail
    refine (HP.out _).mono ?_
    rintro e w3 ⟨v3, rfl, hr3, x3⟩
    obtain ⟨A3, k3, hv3, hk3, hm3⟩ := hr3.cut
    rw [show ([] : List Ty).length = 0 from rfl] at hv3
    subst hv3
    have at3 := at2.ext x3 (by simp)
    have hlt3 : w2.heap.size < w3.heap.size := by have := x3.size; simp at this; omega
    have X3 := Lib.hid (X2.out.trans x3)
    clear x3 hr3
    obtain ⟨y0, y1⟩ := at3
    go_wp2_with fail
    refine (HW.out _).mono ?_
    rintro e w4 ⟨rfl, x4⟩
    have hlt4 : w3.heap.size < w4.heap.size := by have := x4.size; simp at this; omega
    have z0 := (x4.cell (p := ⟨w2.heap.size, 0, none⟩) (by simp; omega)).trans (cell_alloc y0 hlt3)
    have z1 := (x4.cell (p := ⟨w2.heap.size, 1, none⟩) (by simp; omega)).trans (cell_alloc y1 hlt3)
    have X4 := Lib.hid ((X3.out.alloc _).trans x4)
    clear x4
    go_wp2_with fail
    refine (HC.out _).mono ?_
    rintro e w5 ⟨rfl, x5⟩
    have X5 := Lib.hid (X4.out.trans x5)
    clear x5
    go_wp2
    go_ret
    exact ⟨rfl, X5.out⟩
  · rw [he] at hT
    rcases protoZ_err l with hf | hf
    · obtain ⟨hc, ht⟩ := proto_back hf
      obtain ⟨p, hp⟩ : ∃ p, p = (protoZ l).1 := ⟨_, rfl⟩
      rw [hf, ← hp] at hP
      rw [← hp] at hc ht
      have hret : p.ret.s.length ≤ 140737488351232 := ret_len hc
      have hW := fun v W (h : RowT W v p.args) => WriteProto_any v p W h hret
      have hC := fun v W (h : RowT W v p.args) => CheckProto_any v p W h hret
      rw [show writeP p = (l, 0) by rw [writeP_yes hc, ht]] at hW
      rw [hc] at hC
      unfold Ty.vals at hT
      unfold Pr.vals at hP hW hC
      simp only [t0] at hT
      have HT := Lib.hid hT
      have HP := Lib.hid hP
      have HW := Lib.hid hW
      have HC := Lib.hid hC
      clear hT hP hW hC he hf hp hc ht hret
      go_enter Try.func7, Try.ntmps7
      go_wp2_with fail
      refine (works_any _).mono ?_
      rintro e w1 ⟨rfl, x1⟩
      go_wp2_with fail
      refine (HT.out _).mono ?_
      rintro e w2 ⟨rfl, x2⟩
      have X2 := Lib.hid ((x1.trans x2).alloc (.cells t0.vals 23))
      clear x1 x2
      go_wp2_with fail
      refine (HP.out _).mono ?_
      rintro e w3 ⟨v3, rfl, hr3, x3⟩
      obtain ⟨A3, k3, hv3, hk3, hm3⟩ := hr3.cut
      obtain ⟨n, hn⟩ : ∃ n, n = p.args.length := ⟨_, rfl⟩
      rw [← hn] at hv3 hk3
      subst hv3
      clear hn
      have R3 := Lib.hid (hr3.ext ((Ext.refl _).alloc (.cells (p.vals (.slice A3 n k3)) 29)))
      have HP3 := Lib.hid (AtP.of (heap_alloc_new w3 (.cells (p.vals (.slice A3 n k3)) 29)))
      have X3 := Lib.hid ((X2.out.trans x3).alloc (.cells (p.vals (.slice A3 n k3)) 29))
      clear x3 hr3
      go_wp2_with fail
      refine (HW.out _ _ R3.out).mono ?_
      rintro e w4 ⟨rfl, x4⟩
      obtain ⟨y0, y1, y2⟩ := HP3.out.ext x4 (by simp)
      have R4 := Lib.hid (R3.out.ext x4)
      have X4 := Lib.hid (X3.out.trans x4)
      clear x4
      go_wp2_with fail
      refine (HC.out _ _ R4.out).mono ?_
      rintro e w5 ⟨rfl, x5⟩
      have X5 := Lib.hid (X4.out.trans x5)
      clear x5
      go_wp2
      go_ret
      exact ⟨rfl, X5.out⟩
    · rw [hf] at hP
      unfold Ty.vals at hT
      unfold Pr.vals at hP
      simp only [t0] at hT hP
      have HT := Lib.hid hT
      have HP := Lib.hid hP
      clear hT hP he hf
      go_enter Try.func7, Try.ntmps7
      go_wp2_with fail
      refine (works_any _).mono ?_
      rintro e w1 ⟨rfl, x1⟩
      go_wp2_with fail
      refine (HT.out _).mono ?_
      rintro e w2 ⟨rfl, x2⟩
      have X2 := Lib.hid ((x1.trans x2).alloc (.cells t0.vals 23))
      clear x1 x2
      go_wp2_with fail
      refine (HP.out _).mono ?_
      rintro e w3 ⟨v3, rfl, hr3, x3⟩
      obtain ⟨A3, k3, hv3, hk3, hm3⟩ := hr3.cut
      rw [show ([] : List Ty).length = 0 from rfl] at hv3
      subst hv3
      have X3 := Lib.hid ((X2.out.trans x3).alloc (.cells (Pr.vals ⟨t0, []⟩ (.slice A3 0 k3)) 29))
      clear x3 hr3
      go_wp2
      go_ret
      exact ⟨rfl, X3.out⟩

set_option maxRecDepth 100000 in
theorem descrAgain_lifted (os : Os) (started : os.Started) (H : Type) (enc : TypeId × Value → H) :
    ReturnsInHanded {} Try.checked os 7 .any (Rows.descrAgainSpec.pre6 enc Try.prog Try.f7 Rows.descrAgainRow.domain false) (Rows.descrAgainSpec.post enc Try.prog Try.f7 false true false false) := by
  refine returnsInHanded_of_change_sized (C := Try.checked) own started (by kernel_rfl) Try.func7
    (ChangeSpec.witness6 (enc := enc) (C := Try.checked) false ⟨#[], #[.string ⟨#[]⟩], []⟩ 8 (by kernel_rfl) (by kernel_rfl) (by kernel_rfl) (by kernel_rfl)) ?_
  intro W base args ds gs before hval0 hW hcnd hsz0 _
  have hval : ∀ (j : Nat) t v, Try.f7.params[j]? = some t → args[j]? = some v → Value.okWide Try.prog W .any base t v := hval0
  have hsz : (DataW.weightsEach Try.prog (Try.f7.params.toList ++ Rows.descrAgainSpec.plain.varTypes Try.prog) (ds ++ gs)).all (· ≤ reachBytes) = true := hsz0
  have hW' := hW
  obtain ⟨p, q, hA0, hV, rfl, hfz, hnd⟩ := hW
  have hA : DataW.TrodAll enc Try.prog W 0 (fun _ => true) true Try.f7.params.toList args.toList ds p := hA0
  rw [Try.params7] at hA hval hsz
  obtain ⟨v0, vs0, d0, ds0, p0, q0, hargs, rfl, rfl, h0, r0⟩ := trodAll_cons hA
  obtain ⟨rfl, rfl, rfl⟩ := trodAll_nil r0
  obtain rfl : args = #[v0] := by cases args; simp_all
  obtain ⟨rfl, rfl⟩ := trodVars_none hV
  obtain ⟨a0, rfl, rfl, rfl, w0⟩ := open_string Try.underlying9 (hval 0 9 v0 rfl rfl) h0
  have z0 : a0.data.toList.length ≤ 140737488351232 := sized_string hsz (j := 0) rfl rfl
  clear hA0 hval0 hsz0
  refine (descrAgain_walk W a0.data.toList z0).mono fun e W' ⟨he, bel⟩ => ?_
  subst he
  exact ⟨_, rfl, _, _, _, [], _, [], hW', trodAll_mk1 (shut_bool Try.underlying4 _), (trodAll_cons_mk (shut_string Try.underlying9 w0) trodAll_mk0), rfl, bel.frame _, fun h => by cases h⟩

theorem descrAgain_over : Rows.descrAgainRow.holds Try.pinned (OpenSpec.ofChange Rows.descrAgainSpec) :=
  OpenClaim.holds_of_wide 7 Try.f7 rfl rfl rfl rfl rfl rfl rfl ⟨rfl, rfl, rfl, rfl, rfl⟩ rfl rfl rfl rfl rfl (by kernel_rfl) Try.func7 (by kernel_rfl)
    (of_decide_eq_true (by kernel_rfl)) (by unfold Func.isWrapper; first | (rw [if_pos (by decide +kernel)]; kernel_rfl) | (rw [if_neg (by decide +kernel)]; exact ⟨rfl, rfl⟩))
    (fun os started H enc _ => descrAgain_lifted os started H enc)

/-- The statement. -/
theorem descrAgain_proved : Rows.DescrAgainSaid := descrAgain_over
#print axioms descrAgain_proved
end Go.Proofs.Ytibcaienaejgpaa
