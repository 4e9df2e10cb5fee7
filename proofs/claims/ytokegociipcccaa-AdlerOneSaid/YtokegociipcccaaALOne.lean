/- AdlerOne: if one byte is another one, the sum is another one, of any bytes, whichever byte, by however much; no conditions. -/
import Derived.Test.YtokegociipcccaaRows
import Derived.ProofKit
import Derived.OpenShut
import Derived.ShutString
import Derived.ChangeOld
import Derived.SizedLaws
import Derived.Test.YtokegociipcccaaFrame
import Derived.Test.YtokegociipcccaaAdX
import Derived.Test.YtokegociipcccaaAdMath
import Derived.Test.YtokegociipcccaaOwn
namespace Go.Proofs.Ytokegociipcccaa
open Go.ChangeShapes Go.WideShapes Go.ChangeAt Go.RowKit
open Go.ChangeMaps (open_string shut_string)
set_option linter.unusedVariables false

/-- The walk's answer: both are so, or neither. -/
theorem eq_eq {a b x y : Int} (h : a = b ↔ x = y) : ((a == b) == (x == y)) = true := by
  rw [beq_iff_eq, Bool.eq_iff_iff, beq_iff_eq, beq_iff_eq]
  exact h
theorem ret_b {b : Bool} (h : b = true) : Ending.returned (.bool b) = .returned (.bool true) := by rw [h]
theorem one_iff {l : List Int} {k : Nat} (h : k < l.length) (hf : Fit .u8 l) {by_ : Int} (hb : 0 ≤ by_ ∧ by_ ≤ 255) : adl 1 l = adl 1 (l.set k ((gi l k + by_) % 256)) ↔ by_ = 0 := by
  have hx := hf.u8 (gi_mem h)
  constructor
  · intro e
    by_cases h0 : by_ = 0
    · exact h0
    · exact (adl_one_byte h hf (y := (gi l k + by_) % 256) (by omega) (by omega) e).elim
  · intro e
    rw [e, Int.add_zero, show gi l k % 256 = gi l k by omega, set_same]

set_option maxHeartbeats 1000000 in
theorem adlerOne_walk (W : World) (v : Value) (l : List Int) (h : Row W .u8 v l) (hl : l.length ≤ 140737488351232) (n : Int) (hn : -9223372036854775808 ≤ n ∧ n ≤ 9223372036854775807) (y : Int) (hy : 0 ≤ y ∧ y ≤ 255) :
    Calls Try.prog 5 #[v, .int .i64 n, .int .u8 y] W (RetB W true) := by
  have hr : l.length ≤ 140737488355328 := by omega
  have h' := h
  obtain ⟨A, c, rfl, hlc, hcm, _, hf, _⟩ := h'
  unfold maxLen at hcm
  by_cases h0 : l.length = 0
  · have e : l = [] := List.eq_nil_of_length_eq_zero h0
    subst e
    clear hl h0 hr hlc hf
    simp only [List.length_nil] at h ⊢
    go_enter Try.func5, Try.ntmps5
    go_wp2_with (go_at_call 15; refine (works_any _).mono ?_; rintro e w0 ⟨rfl, x0⟩)
    go_ret
    exact ⟨rfl, x0⟩
  · obtain ⟨k, hk, hkl⟩ := bring_nat n (show 0 < l.length by omega)
    have HI := Lib.hid (one_iff hkl hf hy)
    have hx := hf.u8 (gi_mem hkl)
    go_enter Try.func5, Try.ntmps5
    go_wp2_with fail
    refine (works_any _).mono ?_
    rintro e w0 ⟨rfl, x0⟩
    have hw := h.ext x0
    have h0w := hw
    clear h hf
    go_wp2_with fail
    refine (copyBytes_any _ l _ (by exact hw) hr).mono ?_
    rintro e w1 ⟨v1, rfl, ho1, x1⟩
    obtain ⟨g, d, rfl, hB, hg, hld, hdm, hcell, hfr⟩ := ho1.parts (by omega)
    unfold maxLen at hdm
    have hc1 := hcell k hkl
    have hf1 := hfr k
    have HO := Lib.hid ho1
    have hw1 := hw.ext x1
    have HX := Lib.hid (x0.trans x1)
    have HW := Lib.hid hw1
    have HB : Hid (W.heap.size ≤ g) := Nat.le_trans x0.size hB
    have HB1 : Hid (w0.heap.size ≤ g) := hB
    have HK := Lib.hid hk
    clear hcell hfr ho1 hw1 x0 hw hB hg hk
    go_wp2_with fail
    refine (bring_any _ _ _ hn.1 hn.2 (by omega) (by omega)).mono ?_
    rw [HK.out]
    rintro e w2 ⟨rfl, rfl⟩
    go_wp2_with fail
    have hoc := HO.out.put (j := k) (x := (gi l k + y) % 256) hkl (wf_u8 (by omega) (by omega))
    have xs := HX.out.set_ (p := ⟨g, k, none⟩) HB.out (.int .u8 ((gi l k + y) % 256))
    have hwb : Row (w1.setCell ⟨g, k, none⟩ (.int .u8 ((gi l k + y) % 256))) .u8 (.slice A l.length c) l := (h0w.ext (x1.set_ (p := ⟨g, k, none⟩) HB1.out _))
    refine (Of_any _ l _ (by exact hwb) hr).mono ?_
    rintro e w3 ⟨rfl, rfl⟩
    go_wp2_with fail
    refine (Of_any _ (l.set k ((gi l k + y) % 256)) _ (by exact hoc.row) (by rw [List.length_set]; exact hr)).mono ?_
    rintro e w3 ⟨rfl, rfl⟩
    go_wp2_with fail
    go_ret
    exact ⟨ret_b (eq_eq HI.out), xs⟩

set_option maxRecDepth 100000 in
theorem adlerOne_lifted (os : Os) (started : os.Started) (H : Type) (enc : TypeId × Value → H) :
    ReturnsInHanded {} Try.checked os 5 .any (Rows.adlerOneSpec.pre6 enc Try.prog Try.f5 Rows.adlerOneRow.domain false) (Rows.adlerOneSpec.post enc Try.prog Try.f5 false true false false) := by
  refine returnsInHanded_of_change_sized (C := Try.checked) own started (by kernel_rfl) Try.func5
    (ChangeSpec.witness6 (enc := enc) (C := Try.checked) false ⟨#[], #[.slice none 0 0, .int .i64 0, .int .u8 0], []⟩ 8 (by kernel_rfl) (by kernel_rfl) (by kernel_rfl) (by kernel_rfl)) ?_
  intro W base args ds gs before hval0 hW hcnd hsz0 _
  have hval : ∀ (j : Nat) t v, Try.f5.params[j]? = some t → args[j]? = some v → Value.okWide Try.prog W .any base t v := hval0
  have hsz : (DataW.weightsEach Try.prog (Try.f5.params.toList ++ Rows.adlerOneSpec.plain.varTypes Try.prog) (ds ++ gs)).all (· ≤ reachBytes) = true := hsz0
  have hW' := hW
  obtain ⟨p, q, hA0, hV, rfl, hfz, hnd⟩ := hW
  have hA : DataW.TrodAll enc Try.prog W 0 (fun _ => true) true Try.f5.params.toList args.toList ds p := hA0
  rw [Try.params5] at hA hval hsz
  obtain ⟨v0, vs0, d0, ds0, p0, q0, hargs, rfl, rfl, h0, r0⟩ := trodAll_cons hA
  obtain ⟨v1, vs1, d1, ds1, p1, q1, rfl, rfl, rfl, h1, r1⟩ := trodAll_cons r0
  obtain ⟨v2, vs2, d2, ds2, p2, q2, rfl, rfl, rfl, h2, r2⟩ := trodAll_cons r1
  obtain ⟨rfl, rfl, rfl⟩ := trodAll_nil r2
  obtain rfl : args = #[v0, v1, v2] := by cases args; simp_all
  obtain ⟨rfl, rfl⟩ := trodVars_none hV
  obtain ⟨a0, len0, cap0, rfl⟩ := okWide_slice Try.underlying23 (hval 0 23 v0 rfl rfl)
  have k0 := h0
  have lt0 : ∀ x ∈ p0, x.block < W.heap.size := by obtain ⟨m, hm⟩ := k0; exact DataW.trod_lt m _ _ _ hm
  obtain ⟨l0, w0, z0⟩ : ∃ l, Row W .u8 (.slice a0 len0 cap0) l ∧ l.length ≤ 140737488351232 := by
    obtain ⟨fuel, hf⟩ := h0
    rcases open_ints Try.underlying23 Try.underlying5 (by kernel_rfl) hf with ⟨hcs, _⟩ | ⟨x, l, c, zs, hcs, _, hl, hm, hz, hx, hcell, hwz⟩
    · simp [Value.cells] at hcs
      obtain ⟨rfl, rfl, rfl⟩ := hcs
      exact ⟨[], (Own.nil 0 _ 0 _).row, by simp⟩
    · simp [Value.cells] at hcs
      obtain ⟨rfl, rfl, rfl⟩ := hcs
      simp only [if_true] at hz
      refine ⟨_, row_of_open hl hm hz hcell hwz, ?_⟩
      have hd : d0 = _ := congrArg Prod.fst hx
      have hs := sized_slice hsz (j := 0) rfl (by rw [hd]; rfl) Try.underlying23
      rw [bytes8] at hs
      simp only [lits, List.length_map, List.length_take, List.length_drop, reachBytes] at hs
      simp only [List.length_take]
      omega
  obtain ⟨a1, rfl, rfl, rfl, w1⟩ := open_int Try.underlying3 (hval 1 3 v1 rfl rfl) h1
  have z1 := bounds_i64 w1
  obtain ⟨a2, rfl, rfl, rfl, w2⟩ := open_int Try.underlying5 (hval 2 5 v2 rfl rfl) h2
  have z2 := bounds_u8 w2
  clear hA0 hval0 hsz0
  refine (adlerOne_walk W (.slice a0 len0 cap0) l0 w0 z0 a1 z1 a2 z2).mono fun e W' ⟨he, bel⟩ => ?_
  subst he
  exact ⟨_, rfl, _, _, _, [], _, [], hW', trodAll_mk1 (shut_bool Try.underlying4 _), (trodAll_cons_mk (Below.trod laidOut (by kernel_rfl) (of_decide_eq_true (by kernel_rfl)) k0 bel lt0) (trodAll_cons_mk (shut_int Try.underlying3 w1) (trodAll_cons_mk (shut_int Try.underlying5 w2) trodAll_mk0))), rfl, bel.frame _, fun h => by cases h⟩

theorem adlerOne_over : Rows.adlerOneRow.holds Try.pinned (OpenSpec.ofChange Rows.adlerOneSpec) :=
  OpenClaim.holds_of_wide 5 Try.f5 rfl rfl rfl rfl rfl rfl rfl ⟨rfl, rfl, rfl, rfl, rfl⟩ rfl rfl rfl rfl rfl (by kernel_rfl) Try.func5 (by kernel_rfl)
    (of_decide_eq_true (by kernel_rfl)) (by unfold Func.isWrapper; first | (rw [if_pos (by decide +kernel)]; kernel_rfl) | (rw [if_neg (by decide +kernel)]; exact ⟨rfl, rfl⟩))
    (fun os started H enc _ => adlerOne_lifted os started H enc)

/-- The statement. -/
theorem adlerOne_proved : Rows.AdlerOneSaid := adlerOne_over
#print axioms adlerOne_proved
end Go.Proofs.Ytokegociipcccaa
