/- LebSizes: a short number with a sign has as many bytes as seven bits each make of it and its sign, of any number; no conditions. -/
import Derived.Test.YtdjfdigaokokbaaRows
import Derived.ProofKit
import Derived.OpenShut
import Derived.ShutString
import Derived.ChangeOld
import Derived.SizedLaws
import Derived.Test.YtdjfdigaokokbaaFrame
import Derived.Test.YtdjfdigaokokbaaLebX
import Derived.Test.YtdjfdigaokokbaaLebMath
namespace Go.Proofs.Ytdjfdigaokokbaa
open Go.ChangeShapes Go.WideShapes Go.ChangeAt Go.RowKit
open Go.ChangeMaps (open_string shut_string)
set_option linter.unusedVariables false

theorem lebSizes_walk (W : World) (n : Int) (hn : -9223372036854775808 ≤ n ∧ n ≤ 9223372036854775807) :
    Calls Try.prog 10 #[.int .i64 n] W (RetB W true) := by
  go_enter Try.func10, Try.ntmps10
  go_wp2_with (first | (go_at_call 23; refine (works_any _).mono ?_; rintro e w0 ⟨rfl, x0⟩))
  go_loop [3, 4] (fun s t => ∃ (k f : Nat) (m : Int), s = .int .i64 k ∧ t = .int .i64 m ∧ 1 ≤ k ∧ k + f = 10 ∧ InB 2 f m ∧ Hid (szs 10 n + 1 = k + szs (f + 1) m)) (fun s _ => 10 - (intOf s).toNat)
  case atStart => exact ⟨1, 9, n, rfl, rfl, by omega, rfl, InB.start hn.1 hn.2 (.inl rfl), Nat.add_comm _ _⟩
  case round =>
    obtain ⟨k, f, m, rfl, rfl, hk, hkf, hin, HS⟩ := hrel
    have hb := hin.bound (by omega)
    by_cases hc : -64 ≤ m ∧ m ≤ 63
    · obtain ⟨h1, h2⟩ := hc
      have HE : Hid ((dg 2 10 n).length = k) := by
        have e := HS.out
        rw [szs_end ⟨h1, h2⟩] at e
        rw [Hid, dg_szs]
        omega
      have hk10 : k ≤ 10 := by omega
      have hkk : ((k : Int) == (k : Int)) = true := by simp
      go_wp2_with (first
        | (go_at_call 15; refine (S_any _ _ hn.1 hn.2).mono ?_; rintro e w4 ⟨v4, rfl, ho4, he4⟩; obtain ⟨A4, c4, rfl, _⟩ := ho4.row; rw [HE.out]))
      go_ret
      exact ⟨congrArg (fun b : Bool => Ending.returned (.bool b)) (decide_eq_true (by omega)), x0.trans he4⟩
    · have hf1 : ¬ f = 0 := by
        rintro rfl
        have := hin.last
        rw [ends_two] at this
        exact hc this
      obtain ⟨g, rfl⟩ : ∃ g, f = g + 1 := ⟨f - 1, by omega⟩
      have HN : Hid (szs 10 n + 1 = (k + 1) + szs (g + 1) (m / 128)) := by
        have e := HS.out
        rw [szs_next hc] at e
        rw [Hid]
        omega
      have hnx := hin.next
      by_cases h1 : m < -64
      · clear hc
        go_wp2
        go_round
        case rel => exact ⟨k + 1, g, m / 128, by go_num, rfl, by omega, by omega, hnx, HN⟩
        case measure => simp [intOf]; omega
      · have h2 : 63 < m := by omega
        clear hc
        go_wp2
        go_round
        case rel => exact ⟨k + 1, g, m / 128, by go_num, rfl, by omega, by omega, hnx, HN⟩
        case measure => simp [intOf]; omega

set_option maxRecDepth 100000 in
theorem lebSizes_lifted (os : Os) (started : os.Started) (H : Type) (enc : TypeId × Value → H) :
    ReturnsInHanded {} Try.checked os 10 .any (Rows.lebSizesSpec.pre6 enc Try.prog Try.f10 Rows.lebSizesRow.domain false) (Rows.lebSizesSpec.post enc Try.prog Try.f10 false true false false) := by
  refine returnsInHanded_of_change_sized (C := Try.checked) own started (by kernel_rfl) Try.func10
    (ChangeSpec.witness6 (enc := enc) (C := Try.checked) false ⟨#[], #[.int .i64 0], []⟩ 8 (by kernel_rfl) (by kernel_rfl) (by kernel_rfl) (by kernel_rfl)) ?_
  intro W base args ds gs before hval0 hW hcnd hsz0 _
  have hval : ∀ (j : Nat) t v, Try.f10.params[j]? = some t → args[j]? = some v → Value.okWide Try.prog W .any base t v := hval0
  have hsz : (DataW.weightsEach Try.prog (Try.f10.params.toList ++ Rows.lebSizesSpec.plain.varTypes Try.prog) (ds ++ gs)).all (· ≤ reachBytes) = true := hsz0
  have hW' := hW
  obtain ⟨p, q, hA0, hV, rfl, hfz, hnd⟩ := hW
  have hA : DataW.TrodAll enc Try.prog W 0 (fun _ => true) true Try.f10.params.toList args.toList ds p := hA0
  rw [Try.params10] at hA hval hsz
  obtain ⟨v0, vs0, d0, ds0, p0, q0, hargs, rfl, rfl, h0, r0⟩ := trodAll_cons hA
  obtain ⟨rfl, rfl, rfl⟩ := trodAll_nil r0
  obtain rfl : args = #[v0] := by cases args; simp_all
  obtain ⟨rfl, rfl⟩ := trodVars_none hV
  obtain ⟨a0, rfl, rfl, rfl, w0⟩ := open_int Try.underlying3 (hval 0 3 v0 rfl rfl) h0
  have z0 := bounds_i64 w0
  clear hA0 hval0 hsz0
  refine (lebSizes_walk W a0 z0).mono fun e W' ⟨he, bel⟩ => ?_
  subst he
  exact ⟨_, rfl, _, _, _, [], _, [], hW', trodAll_mk1 (shut_bool Try.underlying4 _), (trodAll_cons_mk (shut_int Try.underlying3 w0) trodAll_mk0), rfl, bel.frame _, fun h => by cases h⟩

theorem lebSizes_over : Rows.lebSizesRow.holds Try.pinned (OpenSpec.ofChange Rows.lebSizesSpec) :=
  OpenClaim.holds_of_wide 10 Try.f10 rfl rfl rfl rfl rfl rfl rfl ⟨rfl, rfl, rfl, rfl, rfl⟩ rfl rfl rfl rfl rfl (by kernel_rfl) Try.func10 (by kernel_rfl)
    (of_decide_eq_true (by kernel_rfl)) (by unfold Func.isWrapper; first | (rw [if_pos (by decide +kernel)]; kernel_rfl) | (rw [if_neg (by decide +kernel)]; exact ⟨rfl, rfl⟩))
    (fun os started H enc _ => lebSizes_lifted os started H enc)

/-- The statement. -/
theorem lebSizes_proved : Rows.LebSizesSaid := lebSizes_over
#print axioms lebSizes_proved
end Go.Proofs.Ytdjfdigaokokbaa
