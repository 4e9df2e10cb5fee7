/- LebAgain: what can be read in a short way is written so, of any bytes; no conditions. -/
import Derived.Test.YtdjfdigaokokbaaRows
import Derived.ProofKit
import Derived.OpenShut
import Derived.ShutString
import Derived.ChangeOld
import Derived.SizedLaws
import Derived.Test.YtdjfdigaokokbaaFrame
import Derived.Test.YtdjfdigaokokbaaLebX
import Derived.Test.YtdjfdigaokokbaaLebMath
namespace Go.Proofs.Ytdjfdigaokokbaa
open Go.ChangeShapes Go.WideShapes Go.ChangeAt Go.RowKit
open Go.ChangeMaps (open_string shut_string)
set_option linter.unusedVariables false

set_option maxHeartbeats 1000000 in
theorem lebAgain_walk (W : World) (v : Value) (l : List Int) (h : Row W .u8 v l) (hl : l.length ≤ 140737488351232) :
    Calls Try.prog 6 #[v] W (RetB W true) := by
  have hf := h.fit
  have hr : l.length ≤ 140737488355328 := by omega
  obtain ⟨tu, htu⟩ : ∃ t, t = tU l := ⟨_, rfl⟩
  obtain ⟨ts, hts⟩ : ∃ t, t = tS 10 2 l := ⟨_, rfl⟩
  have Htu := Lib.hid htu
  have Hts := Lib.hid hts
  have hu1 : tu.2.2 = 0 → uS tu.1 = (dg 1 10 tu.1, 0) ∧ dg 1 10 tu.1 ++ tu.2.1 = l := by rw [htu]; exact tU_ok
  have hu2 : ¬ tu.2.2 = 0 → tu.1 = 0 ∧ tu.2.1 = [] := by rw [htu]; exact tU_err
  have hs1 : ts.2.2 = 0 → dg 2 10 ts.1 ++ ts.2.1 = l := by rw [hts]; exact tS_ok
  have hs2 : ¬ ts.2.2 = 0 → ts.1 = 0 ∧ ts.2.1 = [] ∧ (ts.2.2 = 3 ∨ ts.2.2 = 4) := by rw [hts]; exact tS_err
  have hsr : -9223372036854775808 ≤ ts.1 ∧ ts.1 ≤ 9223372036854775807 := by rw [hts]; exact tS_range hf
  have hur : -9223372036854775808 ≤ tu.1 ∧ tu.1 ≤ 9223372036854775807 := by
    rw [htu]
    unfold tU
    split
    · simp
    · exact tS_range hf
  clear htu hts
  obtain ⟨un, ur, ue⟩ := tu
  obtain ⟨sn, sr, se⟩ := ts
  simp only at hu1 hu2 hs1 hs2 hsr hur
  by_cases hue : ue = 0
  · obtain ⟨hu3, hu4⟩ := hu1 hue
    subst hue
    have H3 := Lib.hid hu3
    have H4 := Lib.hid hu4
    have hlu : (dg 1 10 un).length + ur.length = l.length := by rw [← hu4, List.length_append]
    clear hu1 hu2 hu3 hu4
    by_cases hse : se = 0
    · have H5 := Lib.hid (hs1 hse)
      subst hse
      have hls : (dg 2 10 sn).length + sr.length = l.length := by rw [← H5.out, List.length_append]
      clear hs1 hs2
      go_enter Try.func6, Try.ntmps6
      go_wp2_with (first
        | (go_at_call 23; refine (works_any _).mono ?_; rintro e w0 ⟨rfl, x0⟩)
        | (go_at_call 16; refine (TakeU_any _ l _ (by exact h.ext x0) hr).mono ?_; rw [← Htu.out]; rintro e w1 ⟨v1, rfl, ⟨b1, rfl, ho1⟩, he1⟩)
        | (go_at_call 18; refine (TakeS_any _ l _ (by exact h.ext (x0.trans he1)) hr).mono ?_; rw [← Hts.out]; rintro e w2 ⟨v2, rfl, ⟨b2, rfl, ho2⟩, he2⟩; have x2 := (x0.trans he1).trans he2)
        | (go_at_call 13; refine (U_any _ _ hur.1 hur.2).mono ?_; rw [H3.out]; rintro e w3 ⟨v3, rfl, ⟨b3, rfl, ho3⟩, he3⟩)
        | (at_builtin; refine wpList_app _ rfl _ _ w2.heap.size 22 5 _ 1 .u8 rfl Try.underlying22 info8 rfl (by omega) b3 (dg 1 10 un) rfl (ho3) _ ur rfl (ho1.row.ext (he2.trans he3)) (by omega) (by exact he3.size) ?_; intro v4 w4 ho4 hg4 _; have y4 : Ext w2 w4 := he3.grown hg4 ho3.low)
        | (go_at_call 20; refine (eqBytes_any _ _ (dg 1 10 un ++ ur) l _ (by exact ho4.row) (by exact h.ext (x2.trans y4))).mono ?_; rw [decide_eq_true H4.out]; rintro e w5 ⟨rfl, m5, rfl⟩)
        | (go_at_call 15; refine (S_any _ _ hsr.1 hsr.2).mono ?_; rintro e w6 ⟨v6, rfl, ho6, he6⟩)
        | (at_builtin; refine wpList_app _ rfl _ _ _ 22 5 _ 1 .u8 rfl Try.underlying22 info8 rfl (by omega) v6 (dg 2 10 sn) rfl (ho6) _ sr rfl (ho2.row.ext ((y4.drewN m5).trans he6)) (by omega) (by exact he6.size) ?_; intro v7 w7 ho7 hg7 _; have y7 : Ext w2 w7 := ((y4.drewN m5).trans he6).grown hg7 (fun g hg => Nat.le_trans (Ext.size (y4.drewN m5)) (ho6.low g hg)))
        | (go_at_call 20; refine (eqBytes_any _ _ (dg 2 10 sn ++ sr) l _ (by exact ho7.row) (by exact h.ext (x2.trans y7))).mono ?_; rw [decide_eq_true H5.out]; rintro e w8 ⟨rfl, m8, rfl⟩))
      go_ret
      exact ⟨rfl, (x2.trans y7).drewN _⟩
    · obtain ⟨rfl, rfl, hse3⟩ := hs2 hse
      clear hs1 hs2
      rcases hse3 with rfl | rfl
      all_goals
        go_enter Try.func6, Try.ntmps6
        go_wp2_with (first
          | (go_at_call 23; refine (works_any _).mono ?_; rintro e w0 ⟨rfl, x0⟩)
          | (go_at_call 16; refine (TakeU_any _ l _ (by exact h.ext x0) hr).mono ?_; rw [← Htu.out]; rintro e w1 ⟨v1, rfl, ⟨b1, rfl, ho1⟩, he1⟩)
          | (go_at_call 18; refine (TakeS_any _ l _ (by exact h.ext (x0.trans he1)) hr).mono ?_; rw [← Hts.out]; rintro e w2 ⟨v2, rfl, ⟨b2, rfl, ho2⟩, he2⟩; have x2 := (x0.trans he1).trans he2; obtain ⟨A2, c2, hb2, _⟩ := ho2.row; rw [List.length_nil] at hb2; subst hb2)
          | (go_at_call 13; refine (U_any _ _ hur.1 hur.2).mono ?_; rw [H3.out]; rintro e w3 ⟨v3, rfl, ⟨b3, rfl, ho3⟩, he3⟩)
          | (at_builtin; refine wpList_app _ rfl _ _ w2.heap.size 22 5 _ 1 .u8 rfl Try.underlying22 info8 rfl (by omega) b3 (dg 1 10 un) rfl (ho3) _ ur rfl (ho1.row.ext (he2.trans he3)) (by omega) (by exact he3.size) ?_; intro v4 w4 ho4 hg4 _; have y4 : Ext w2 w4 := he3.grown hg4 ho3.low)
          | (go_at_call 20; refine (eqBytes_any _ _ (dg 1 10 un ++ ur) l _ (by exact ho4.row) (by exact h.ext (x2.trans y4))).mono ?_; rw [decide_eq_true H4.out]; rintro e w5 ⟨rfl, m5, rfl⟩))
        go_ret
        exact ⟨rfl, (x2.trans y4).drewN _⟩
  · obtain ⟨rfl, rfl⟩ := hu2 hue
    have hub : (ue == 0) = false := by simpa using hue
    clear hu1 hu2 hue
    by_cases hse : se = 0
    · have H5 := Lib.hid (hs1 hse)
      subst hse
      have hls : (dg 2 10 sn).length + sr.length = l.length := by rw [← H5.out, List.length_append]
      clear hs1 hs2
      go_enter Try.func6, Try.ntmps6
      go_wp2_with (first
        | (go_at_call 23; refine (works_any _).mono ?_; rintro e w0 ⟨rfl, x0⟩)
        | (go_at_call 16; refine (TakeU_any _ l _ (by exact h.ext x0) hr).mono ?_; rw [← Htu.out]; rintro e w1 ⟨v1, rfl, ⟨b1, rfl, ho1⟩, he1⟩)
        | (go_at_call 18; refine (TakeS_any _ l _ (by exact h.ext (x0.trans he1)) hr).mono ?_; rw [← Hts.out]; rintro e w2 ⟨v2, rfl, ⟨b2, rfl, ho2⟩, he2⟩; have x2 := (x0.trans he1).trans he2)
        | (go_at_call 15; refine (S_any _ _ hsr.1 hsr.2).mono ?_; rintro e w6 ⟨v6, rfl, ho6, he6⟩)
        | (at_builtin; refine wpList_app _ rfl _ _ _ 22 5 _ 1 .u8 rfl Try.underlying22 info8 rfl (by omega) v6 (dg 2 10 sn) rfl (ho6) _ sr rfl (ho2.row.ext ((Ext.refl w2).trans he6)) (by omega) (by exact he6.size) ?_; intro v7 w7 ho7 hg7 _; have y7 : Ext w2 w7 := ((Ext.refl w2).trans he6).grown hg7 (fun g hg => Nat.le_trans (Ext.size (Ext.refl w2)) (ho6.low g hg)))
        | (go_at_call 20; refine (eqBytes_any _ _ (dg 2 10 sn ++ sr) l _ (by exact ho7.row) (by exact h.ext (x2.trans y7))).mono ?_; rw [decide_eq_true H5.out]; rintro e w8 ⟨rfl, m8, rfl⟩))
      go_ret
      exact ⟨rfl, (x2.trans y7).drewN _⟩
    · obtain ⟨rfl, rfl, hse3⟩ := hs2 hse
      clear hs1 hs2
      rcases hse3 with rfl | rfl
      all_goals
        go_enter Try.func6, Try.ntmps6
        go_wp2_with (first
          | (go_at_call 23; refine (works_any _).mono ?_; rintro e w0 ⟨rfl, x0⟩)
          | (go_at_call 16; refine (TakeU_any _ l _ (by exact h.ext x0) hr).mono ?_; rw [← Htu.out]; rintro e w1 ⟨v1, rfl, ⟨b1, rfl, ho1⟩, he1⟩; obtain ⟨A1, c1, hb1, _⟩ := ho1.row; rw [List.length_nil] at hb1; subst hb1)
          | (go_at_call 18; refine (TakeS_any _ l _ (by exact h.ext (x0.trans he1)) hr).mono ?_; rw [← Hts.out]; rintro e w2 ⟨v2, rfl, ⟨b2, rfl, ho2⟩, he2⟩; have x2 := (x0.trans he1).trans he2; obtain ⟨A2, c2, hb2, _⟩ := ho2.row; rw [List.length_nil] at hb2; subst hb2))
        go_ret
        exact ⟨rfl, x2⟩

set_option maxRecDepth 100000 in
theorem lebAgain_lifted (os : Os) (started : os.Started) (H : Type) (enc : TypeId × Value → H) :
    ReturnsInHanded {} Try.checked os 6 .any (Rows.lebAgainSpec.pre6 enc Try.prog Try.f6 Rows.lebAgainRow.domain false) (Rows.lebAgainSpec.post enc Try.prog Try.f6 false true false false) := by
  refine returnsInHanded_of_change_sized (C := Try.checked) own started (by kernel_rfl) Try.func6
    (ChangeSpec.witness6 (enc := enc) (C := Try.checked) false ⟨#[], #[.slice none 0 0], []⟩ 8 (by kernel_rfl) (by kernel_rfl) (by kernel_rfl) (by kernel_rfl)) ?_
  intro W base args ds gs before hval0 hW hcnd hsz0 _
  have hval : ∀ (j : Nat) t v, Try.f6.params[j]? = some t → args[j]? = some v → Value.okWide Try.prog W .any base t v := hval0
  have hsz : (DataW.weightsEach Try.prog (Try.f6.params.toList ++ Rows.lebAgainSpec.plain.varTypes Try.prog) (ds ++ gs)).all (· ≤ reachBytes) = true := hsz0
  have hW' := hW
  obtain ⟨p, q, hA0, hV, rfl, hfz, hnd⟩ := hW
  have hA : DataW.TrodAll enc Try.prog W 0 (fun _ => true) true Try.f6.params.toList args.toList ds p := hA0
  rw [Try.params6] at hA hval hsz
  obtain ⟨v0, vs0, d0, ds0, p0, q0, hargs, rfl, rfl, h0, r0⟩ := trodAll_cons hA
  obtain ⟨rfl, rfl, rfl⟩ := trodAll_nil r0
  obtain rfl : args = #[v0] := by cases args; simp_all
  obtain ⟨rfl, rfl⟩ := trodVars_none hV
  obtain ⟨a0, len0, cap0, rfl⟩ := okWide_slice Try.underlying22 (hval 0 22 v0 rfl rfl)
  have k0 := h0
  have lt0 : ∀ x ∈ p0, x.block < W.heap.size := by obtain ⟨m, hm⟩ := k0; exact DataW.trod_lt m _ _ _ hm
  obtain ⟨l0, w0, z0⟩ : ∃ l, Row W .u8 (.slice a0 len0 cap0) l ∧ l.length ≤ 140737488351232 := by
    obtain ⟨fuel, hf⟩ := h0
    rcases open_ints Try.underlying22 Try.underlying5 (by kernel_rfl) hf with ⟨hcs, _⟩ | ⟨x, l, c, zs, hcs, _, hl, hm, hz, hx, hcell, hwz⟩
    · simp [Value.cells] at hcs
      obtain ⟨rfl, rfl, rfl⟩ := hcs
      exact ⟨[], (Own.nil 0 _ 0 _).row, by simp⟩
    · simp [Value.cells] at hcs
      obtain ⟨rfl, rfl, rfl⟩ := hcs
      simp only [if_true] at hz
      refine ⟨_, row_of_open hl hm hz hcell hwz, ?_⟩
      have hd : d0 = _ := congrArg Prod.fst hx
      have hs := sized_slice hsz (j := 0) rfl (by rw [hd]; rfl) Try.underlying22
      rw [bytes8] at hs
      simp only [lits, List.length_map, List.length_take, List.length_drop, reachBytes] at hs
      simp only [List.length_take]
      omega
  clear hA0 hval0 hsz0
  refine (lebAgain_walk W (.slice a0 len0 cap0) l0 w0 z0).mono fun e W' ⟨he, bel⟩ => ?_
  subst he
  exact ⟨_, rfl, _, _, _, [], _, [], hW', trodAll_mk1 (shut_bool Try.underlying4 _), (trodAll_cons_mk (Below.trod laidOut (by kernel_rfl) (of_decide_eq_true (by kernel_rfl)) k0 bel lt0) trodAll_mk0), rfl, bel.frame _, fun h => by cases h⟩

theorem lebAgain_over : Rows.lebAgainRow.holds Try.pinned (OpenSpec.ofChange Rows.lebAgainSpec) :=
  OpenClaim.holds_of_wide 6 Try.f6 rfl rfl rfl rfl rfl rfl rfl ⟨rfl, rfl, rfl, rfl, rfl⟩ rfl rfl rfl rfl rfl (by kernel_rfl) Try.func6 (by kernel_rfl)
    (of_decide_eq_true (by kernel_rfl)) (by unfold Func.isWrapper; first | (rw [if_pos (by decide +kernel)]; kernel_rfl) | (rw [if_neg (by decide +kernel)]; exact ⟨rfl, rfl⟩))
    (fun os started H enc _ => lebAgain_lifted os started H enc)

/-- The statement. -/
theorem lebAgain_proved : Rows.LebAgainSaid := lebAgain_over
#print axioms lebAgain_proved
end Go.Proofs.Ytdjfdigaokokbaa
