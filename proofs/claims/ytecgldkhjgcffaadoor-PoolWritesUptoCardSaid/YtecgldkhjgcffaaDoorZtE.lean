/- Several texts of this proof, one behind the other. -/
import Derived.Test.YtecgldkhjgcffaaDoorZtC
/- The document's answer of layer 1, walked: TakeS, its walk. -/
namespace Go.Proofs.YtecgldkhjgcffaaDoor
open Go.RowKit
set_option linter.unusedVariables false

set_option maxRecDepth 1000000 in
set_option maxHeartbeats 16000000 in
theorem refTakeS_any (v : Value) (l : List Int) (w : World) (h : Row w .u8 v l) (hr : l.length ≤ 140737488355328) :
    Calls Tryd.prog 77 #[v] w (Ret w (RowTake w (tS 10 2 l))) := by
  have hrow := h
  obtain ⟨A, c, rfl, h2, h3, h4, h5, h6⟩ := h
  unfold maxLen at h3
  go_enter Tryd.func77, Tryd.ntmps77
  go_wp2
  go_loop [5] (fun i => ∃ k : Nat, i = .int .i64 k ∧ k ≤ 10 ∧ k ≤ l.length ∧ Hid (∀ j, j < k → 128 ≤ gi l j)) (fun i => 10 - (intOf i).toNat)
  case atStart => exact ⟨0, rfl, by omega, by omega, fun j hj => by omega⟩
  case round =>
    obtain ⟨k, rfl, hk, hkl, HG⟩ := hrel
    by_cases hk10 : k = 10
    · have HE := Lib.hid (tS_long (l := l) (by omega) (by rw [← hk10]; exact HG.out))
      have hb : ((k : Int) == 10) = true := beq_iff_eq.2 (by omega)
      have hk' : (10 : Int) ≤ (k : Int) := by omega
      clear hk10 h6
      go_wp2
      go_ret3
      rw [HE.out]
      exact Ret.mk ⟨_, rfl, Own.nil _ _ _ _⟩ (Ext.refl _)
    · have hk9 : k < 10 := by omega
      have hb : ((k : Int) == 10) = false := beq_eq_false_iff_ne.2 (by omega)
      clear hk10
      by_cases hkn : k = l.length
      · have HE := Lib.hid (tS_trunc (l := l) (by omega) (by rw [← hkn]; exact HG.out))
        have hb2 : ((k : Int) == (l.length : Int)) = true := beq_iff_eq.2 (by omega)
        have hk' : (l.length : Int) ≤ (k : Int) := by omega
        clear hkn h6
        go_wp2
        go_ret3
        rw [HE.out]
        exact Ret.mk ⟨_, rfl, Own.nil _ _ _ _⟩ (Ext.refl _)
      · have hkn' : k < l.length := by omega
        have hb2 : ((k : Int) == (l.length : Int)) = false := beq_eq_false_iff_ne.2 (by omega)
        obtain ⟨b, o, rfl, hbk, hx⟩ := h6 (by omega)
        have hy := hx k hkn'
        have hf := h5.u8 (gi_mem (l := l) (j := k) hkn')
        have HX := Lib.hid hx
        clear hx h6 h4 hkn
        by_cases hge : 128 ≤ gi l k
        · go_wp2
          go_round
          case rel =>
            refine ⟨k + 1, by go_num, by omega, by omega, ?_⟩
            intro j hj
            by_cases hjk : j = k
            · subst hjk
              exact hge
            · exact HG.out j (by omega)
          case measure => simp [intOf]; omega
        · have HE := Lib.hid (tS_eq hk9 hkn' HG.out (by omega))
          have hlt : gi l k < 128 := by omega
          clear hge
          by_cases h9 : k = 9 ∧ ¬ gi l k = 0 ∧ ¬ gi l k = 127
          · obtain ⟨rfl, h90, h91⟩ := h9
            have HF := Lib.hid (tS_nine h5 hkn' h90 h91)
            have q0 : (gi l 9 != 0) = true := bne_iff_ne.2 h90
            have q1 : (gi l 9 != 127) = true := bne_iff_ne.2 h91
            clear h90 h91
            go_wp2
            go_ret3
            rw [HE.out, if_neg HF.out]
            exact Ret.mk ⟨_, rfl, Own.nil _ _ _ _⟩ (Ext.refl _)
          · have hy9 : 9 < l.length → w.cell? ⟨b, o + 9, none⟩ = some (.int .u8 (gi l 9)) := fun hh => HX.out 9 hh
            have hc9 : ((k : Int) == 9) = false ∧ k ≤ 8 ∨ ((k : Int) == 9) = true ∧ 9 ≤ k ∧ (gi l 9 != 0) = false ∨ ((k : Int) == 9) = true ∧ 9 ≤ k ∧ (gi l 9 != 0) = true ∧ (gi l 9 != 127) = false := by
              by_cases a : k = 9
              · subst a
                by_cases b : gi l 9 = 0
                · exact .inr (.inl ⟨by simp, by omega, by simp [b]⟩)
                · have d : gi l 9 = 127 := by
                    by_cases d : gi l 9 = 127
                    · exact d
                    · exact absurd ⟨rfl, b, d⟩ h9
                  exact .inr (.inr ⟨by simp, by omega, by simp [b], by simp [d]⟩)
              · exact .inl ⟨beq_eq_false_iff_ne.2 (by omega), by omega⟩
            have hhead := hrow.head (k + 1) (by omega)
            have htail := hrow.tail (k + 1) (by omega)
            have hld : (l.drop (k + 1)).length ≤ 140737488355328 := by simp; omega
            clear h9
            rcases hc9 with ⟨hc9, hk8⟩ | ⟨hc9, hk8, hc8⟩ | ⟨hc9, hk8, hc8, hc7⟩
            · go_wp2
              go_loop [6, 7] (fun x i => ∃ (i' : Nat) (m : Int), x = .int .u64 m ∧ i = .int .i64 i' ∧ i' ≤ k + 1 ∧ Hid (m = IntKind.u64.wrap (lov (l.take i')))) (fun _ i => 11 - (intOf i).toNat)
              case atStart => exact ⟨0, 0, rfl, rfl, by omega, (by decide : (0 : Int) = IntKind.u64.wrap 0)⟩
              case round =>
                obtain ⟨i', m, rfl, rfl, hi, HM⟩ := hrel
                by_cases hik : i' ≤ k
                · have hyi := HX.out i' (by omega)
                  have hfi := h5.u8 (gi_mem (l := l) (j := i') (by omega))
                  have hai := and127u8 (gi l i') (by omega) (by omega)
                  clear hy
                  have ht : i' = 0 ∨ i' = 1 ∨ i' = 2 ∨ i' = 3 ∨ i' = 4 ∨ i' = 5 ∨ i' = 6 ∨ i' = 7 ∨ i' = 8 ∨ i' = 9 := by omega
                  rcases ht with rfl | rfl | rfl | rfl | rfl | rfl | rfl | rfl | rfl | rfl
                  · rw [Nat.add_zero] at hyi
                    have hq := dig_step (l := l) (i := 0) (by omega) (by omega) HM.out
                    have HQ := Lib.hid hq
                    clear hq
                    go_wp2
                    go_round
                    case rel => exact ⟨1, _, rfl, rfl, by omega, by have q := HQ.out; rw [Hid]; simpa using q⟩
                    case measure => simp [intOf]
                  · have hq := dig_step (l := l) (i := 1) (by omega) (by omega) HM.out
                    have HQ := Lib.hid hq
                    clear hq
                    go_wp2
                    go_round
                    case rel => exact ⟨2, _, rfl, rfl, by omega, by have q := HQ.out; rw [Hid]; simpa using q⟩
                    case measure => simp [intOf]
                  · have hq := dig_step (l := l) (i := 2) (by omega) (by omega) HM.out
                    have HQ := Lib.hid hq
                    clear hq
                    go_wp2
                    go_round
                    case rel => exact ⟨3, _, rfl, rfl, by omega, by have q := HQ.out; rw [Hid]; simpa using q⟩
                    case measure => simp [intOf]
                  · have hq := dig_step (l := l) (i := 3) (by omega) (by omega) HM.out
                    have HQ := Lib.hid hq
                    clear hq
                    go_wp2
                    go_round
                    case rel => exact ⟨4, _, rfl, rfl, by omega, by have q := HQ.out; rw [Hid]; simpa using q⟩
                    case measure => simp [intOf]
                  · have hq := dig_step (l := l) (i := 4) (by omega) (by omega) HM.out
                    have HQ := Lib.hid hq
                    clear hq
                    go_wp2
                    go_round
                    case rel => exact ⟨5, _, rfl, rfl, by omega, by have q := HQ.out; rw [Hid]; simpa using q⟩
                    case measure => simp [intOf]
                  · have hq := dig_step (l := l) (i := 5) (by omega) (by omega) HM.out
                    have HQ := Lib.hid hq
                    clear hq
                    go_wp2
                    go_round
                    case rel => exact ⟨6, _, rfl, rfl, by omega, by have q := HQ.out; rw [Hid]; simpa using q⟩
                    case measure => simp [intOf]
                  · have hq := dig_step (l := l) (i := 6) (by omega) (by omega) HM.out
                    have HQ := Lib.hid hq
                    clear hq
                    go_wp2
                    go_round
                    case rel => exact ⟨7, _, rfl, rfl, by omega, by have q := HQ.out; rw [Hid]; simpa using q⟩
                    case measure => simp [intOf]
                  · have hq := dig_step (l := l) (i := 7) (by omega) (by omega) HM.out
                    have HQ := Lib.hid hq
                    clear hq
                    go_wp2
                    go_round
                    case rel => exact ⟨8, _, rfl, rfl, by omega, by have q := HQ.out; rw [Hid]; simpa using q⟩
                    case measure => simp [intOf]
                  · have hq := dig_step (l := l) (i := 8) (by omega) (by omega) HM.out
                    have HQ := Lib.hid hq
                    clear hq
                    go_wp2
                    go_round
                    case rel => exact ⟨9, _, rfl, rfl, by omega, by have q := HQ.out; rw [Hid]; simpa using q⟩
                    case measure => simp [intOf]
                  · exfalso
                    omega
                · have HK : Hid (m = IntKind.u64.wrap (lov (l.take (k + 1)))) := by
                    have e : i' = k + 1 := by omega
                    rw [← e]
                    exact HM.out
                  have hik2 : (k : Int) < (i' : Int) := by omega
                  clear HM hik
                  by_cases h64 : 64 ≤ gi l k
                  · have hk2 : (k : Int) ≤ 8 := by omega
                    have HZ := Lib.hid (sign_some2 h5 hkn' (by omega) h64 hlt HK.out)
                    have HZ1 : Hid (IntKind.i64.wrap _ = wo 2 (l.take (k + 1))) := (IntWalk.i64_left _).trans HZ.out
                    have hkc : k + 1 ≤ c := by omega
                    have hc0 : ¬ c = 0 := by omega
                    have hkc2 : (k : Int) + 1 ≤ (c : Int) := by omega
                    have hbw := wo_bound 2 (l.take (k + 1)) (by simp; omega) (h5.take _)
                    by_cases hd : l.take (k + 1) = dg 2 10 (wo 2 (l.take (k + 1)))
                    · have HD := Lib.hid hd
                      clear hd
                      by_cases hcc : c = k + 1
                      · have hll : l.drop (k + 1) = [] := List.drop_eq_nil_iff.2 (by omega)
                        have HLL := Lib.hid hll
                        have hcl : l.length ≤ k + 1 := by omega
                        clear hll htail hld
                        subst hcc
                        go_wp2_with fail
                        have hkw : IntKind.i64.wrap ((k : Int) + 1) = (k : Int) + 1 := IntWalk.i64_in _ (by omega)
                        have hk0 : 0 ≤ (k : Int) + 1 := by omega
                        have hkt : ((k : Int) + 1).toNat = k + 1 := by omega
                        go_region_with (first
                          | (go_at_call 40; refine (refS_any _ _ (by first | (rw [IntKind.wrap_i64]; omega) | (unfold wrap64; omega)) (by first | (rw [IntKind.wrap_i64]; omega) | (unfold wrap64; omega))).mono ?_; (first | rw [HZ1.out] | rw [HZ.out]); rintro e w1 ⟨v1, rfl, ho1, he1⟩)
                          | (go_at_call 15; refine (eqBytes_any _ _ (dg 2 10 (wo 2 (l.take (k + 1)))) (l.take (k + 1)) _ (by exact ho1.row) (by first | exact hhead.ext he1 | exact hhead.ext ((Ext.refl w).drew.trans he1))).mono ?_; rw [decide_eq_true HD.out.symm]; rintro e w2 ⟨rfl, m2, rfl⟩))
                        all_goals
                          have ex : Ext w w1 := by first | exact he1 | exact (Ext.refl w).drew.trans he1
                          go_wp2_with (first
                            | (go_at_call 11; refine (copyBytes_any _ [] _ (by exact Row.zero _ _ _ (by omega) (by simp [maxLen])) (by simp)).mono ?_; rintro e w3 ⟨v3, rfl, ho3, he3⟩))
                          go_ret3
                          rw [HE.out, if_pos HD.out]
                          refine Ret.mk ⟨_, congrArg (fun z : Int => Value.tuple #[.int .i64 z, _, _]) HZ.out, ?_⟩ ((ex.drewN _).trans he3)
                          show Own w.heap.size w3 5 .u8 _ (l.drop (k + 1))
                          rw [HLL.out]
                          exact ho3.base ex.size
                      · go_wp2_with fail
                        have hkw : IntKind.i64.wrap ((k : Int) + 1) = (k : Int) + 1 := IntWalk.i64_in _ (by omega)
                        have hk0 : 0 ≤ (k : Int) + 1 := by omega
                        have hkt : ((k : Int) + 1).toNat = k + 1 := by omega
                        go_region_with (first
                          | (go_at_call 40; refine (refS_any _ _ (by first | (rw [IntKind.wrap_i64]; omega) | (unfold wrap64; omega)) (by first | (rw [IntKind.wrap_i64]; omega) | (unfold wrap64; omega))).mono ?_; (first | rw [HZ1.out] | rw [HZ.out]); rintro e w1 ⟨v1, rfl, ho1, he1⟩)
                          | (go_at_call 15; refine (eqBytes_any _ _ (dg 2 10 (wo 2 (l.take (k + 1)))) (l.take (k + 1)) _ (by exact ho1.row) (by first | exact hhead.ext he1 | exact hhead.ext ((Ext.refl w).drew.trans he1))).mono ?_; rw [decide_eq_true HD.out.symm]; rintro e w2 ⟨rfl, m2, rfl⟩))
                        all_goals
                          have ex : Ext w w1 := by first | exact he1 | exact (Ext.refl w).drew.trans he1
                          go_wp2_with (first
                            | (go_at_call 11; refine (copyBytes_any _ (l.drop (k + 1)) _ (by first | exact htail.ext (he1.drewN _) | exact htail.ext (((Ext.refl w).drew.trans he1).drewN _)) hld).mono ?_; rintro e w3 ⟨v3, rfl, ho3, he3⟩))
                          go_ret3
                          rw [HE.out, if_pos HD.out]
                          exact Ret.mk ⟨_, congrArg (fun z : Int => Value.tuple #[.int .i64 z, _, _]) HZ.out, ho3.base ex.size⟩ ((ex.drewN _).trans he3)
                    · have HD := Lib.hid hd
                      clear hd
                      go_wp2_with fail
                      have hkw : IntKind.i64.wrap ((k : Int) + 1) = (k : Int) + 1 := IntWalk.i64_in _ (by omega)
                      have hk0 : 0 ≤ (k : Int) + 1 := by omega
                      have hkt : ((k : Int) + 1).toNat = k + 1 := by omega
                      go_region_with (first
                        | (go_at_call 40; refine (refS_any _ _ (by first | (rw [IntKind.wrap_i64]; omega) | (unfold wrap64; omega)) (by first | (rw [IntKind.wrap_i64]; omega) | (unfold wrap64; omega))).mono ?_; (first | rw [HZ1.out] | rw [HZ.out]); rintro e w1 ⟨v1, rfl, ho1, he1⟩)
                        | (go_at_call 15; refine (eqBytes_any _ _ (dg 2 10 (wo 2 (l.take (k + 1)))) (l.take (k + 1)) _ (by exact ho1.row) (by first | exact hhead.ext he1 | exact hhead.ext ((Ext.refl w).drew.trans he1))).mono ?_; rw [decide_eq_false (fun e => HD.out e.symm)]; rintro e w2 ⟨rfl, m2, rfl⟩))
                      all_goals
                        have ex : Ext w w1 := by first | exact he1 | exact (Ext.refl w).drew.trans he1
                        go_wp2
                        go_ret3
                        rw [HE.out, if_neg HD.out]
                        exact Ret.mk ⟨_, rfl, Own.nil _ _ _ _⟩ (ex.drewN _)
                  · have HZ := Lib.hid (sign_none h5 hkn' (by omega) (.inl (by omega)) hlt HK.out)
                    have HZ1 : Hid (IntKind.i64.wrap _ = wo 2 (l.take (k + 1))) := (IntWalk.i64_left _).trans HZ.out
                    have hkc : k + 1 ≤ c := by omega
                    have hc0 : ¬ c = 0 := by omega
                    have hkc2 : (k : Int) + 1 ≤ (c : Int) := by omega
                    have hbw := wo_bound 2 (l.take (k + 1)) (by simp; omega) (h5.take _)
                    by_cases hd : l.take (k + 1) = dg 2 10 (wo 2 (l.take (k + 1)))
                    · have HD := Lib.hid hd
                      clear hd
                      by_cases hcc : c = k + 1
                      · have hll : l.drop (k + 1) = [] := List.drop_eq_nil_iff.2 (by omega)
                        have HLL := Lib.hid hll
                        have hcl : l.length ≤ k + 1 := by omega
                        clear hll htail hld
                        subst hcc
                        go_wp2_with fail
                        have hkw : IntKind.i64.wrap ((k : Int) + 1) = (k : Int) + 1 := IntWalk.i64_in _ (by omega)
                        have hk0 : 0 ≤ (k : Int) + 1 := by omega
                        have hkt : ((k : Int) + 1).toNat = k + 1 := by omega
                        go_region_with (first
                          | (go_at_call 40; refine (refS_any _ _ (by first | (rw [IntKind.wrap_i64]; omega) | (unfold wrap64; omega)) (by first | (rw [IntKind.wrap_i64]; omega) | (unfold wrap64; omega))).mono ?_; (first | rw [HZ1.out] | rw [HZ.out]); rintro e w1 ⟨v1, rfl, ho1, he1⟩)
                          | (go_at_call 15; refine (eqBytes_any _ _ (dg 2 10 (wo 2 (l.take (k + 1)))) (l.take (k + 1)) _ (by exact ho1.row) (by first | exact hhead.ext he1 | exact hhead.ext ((Ext.refl w).drew.trans he1))).mono ?_; rw [decide_eq_true HD.out.symm]; rintro e w2 ⟨rfl, m2, rfl⟩))
                        all_goals
                          have ex : Ext w w1 := by first | exact he1 | exact (Ext.refl w).drew.trans he1
                          go_wp2_with (first
                            | (go_at_call 11; refine (copyBytes_any _ [] _ (by exact Row.zero _ _ _ (by omega) (by simp [maxLen])) (by simp)).mono ?_; rintro e w3 ⟨v3, rfl, ho3, he3⟩))
                          go_ret3
                          rw [HE.out, if_pos HD.out]
                          refine Ret.mk ⟨_, congrArg (fun z : Int => Value.tuple #[.int .i64 z, _, _]) HZ.out, ?_⟩ ((ex.drewN _).trans he3)
                          show Own w.heap.size w3 5 .u8 _ (l.drop (k + 1))
                          rw [HLL.out]
                          exact ho3.base ex.size
                      · go_wp2_with fail
                        have hkw : IntKind.i64.wrap ((k : Int) + 1) = (k : Int) + 1 := IntWalk.i64_in _ (by omega)
                        have hk0 : 0 ≤ (k : Int) + 1 := by omega
                        have hkt : ((k : Int) + 1).toNat = k + 1 := by omega
                        go_region_with (first
                          | (go_at_call 40; refine (refS_any _ _ (by first | (rw [IntKind.wrap_i64]; omega) | (unfold wrap64; omega)) (by first | (rw [IntKind.wrap_i64]; omega) | (unfold wrap64; omega))).mono ?_; (first | rw [HZ1.out] | rw [HZ.out]); rintro e w1 ⟨v1, rfl, ho1, he1⟩)
                          | (go_at_call 15; refine (eqBytes_any _ _ (dg 2 10 (wo 2 (l.take (k + 1)))) (l.take (k + 1)) _ (by exact ho1.row) (by first | exact hhead.ext he1 | exact hhead.ext ((Ext.refl w).drew.trans he1))).mono ?_; rw [decide_eq_true HD.out.symm]; rintro e w2 ⟨rfl, m2, rfl⟩))
                        all_goals
                          have ex : Ext w w1 := by first | exact he1 | exact (Ext.refl w).drew.trans he1
                          go_wp2_with (first
                            | (go_at_call 11; refine (copyBytes_any _ (l.drop (k + 1)) _ (by first | exact htail.ext (he1.drewN _) | exact htail.ext (((Ext.refl w).drew.trans he1).drewN _)) hld).mono ?_; rintro e w3 ⟨v3, rfl, ho3, he3⟩))
                          go_ret3
                          rw [HE.out, if_pos HD.out]
                          exact Ret.mk ⟨_, congrArg (fun z : Int => Value.tuple #[.int .i64 z, _, _]) HZ.out, ho3.base ex.size⟩ ((ex.drewN _).trans he3)
                    · have HD := Lib.hid hd
                      clear hd
                      go_wp2_with fail
                      have hkw : IntKind.i64.wrap ((k : Int) + 1) = (k : Int) + 1 := IntWalk.i64_in _ (by omega)
                      have hk0 : 0 ≤ (k : Int) + 1 := by omega
                      have hkt : ((k : Int) + 1).toNat = k + 1 := by omega
                      go_region_with (first
                        | (go_at_call 40; refine (refS_any _ _ (by first | (rw [IntKind.wrap_i64]; omega) | (unfold wrap64; omega)) (by first | (rw [IntKind.wrap_i64]; omega) | (unfold wrap64; omega))).mono ?_; (first | rw [HZ1.out] | rw [HZ.out]); rintro e w1 ⟨v1, rfl, ho1, he1⟩)
                        | (go_at_call 15; refine (eqBytes_any _ _ (dg 2 10 (wo 2 (l.take (k + 1)))) (l.take (k + 1)) _ (by exact ho1.row) (by first | exact hhead.ext he1 | exact hhead.ext ((Ext.refl w).drew.trans he1))).mono ?_; rw [decide_eq_false (fun e => HD.out e.symm)]; rintro e w2 ⟨rfl, m2, rfl⟩))
                      all_goals
                        have ex : Ext w w1 := by first | exact he1 | exact (Ext.refl w).drew.trans he1
                        go_wp2
                        go_ret3
                        rw [HE.out, if_neg HD.out]
                        exact Ret.mk ⟨_, rfl, Own.nil _ _ _ _⟩ (ex.drewN _)
            · have hy9' := hy9 (by omega)
              go_wp2
              go_loop [6, 7] (fun x i => ∃ (i' : Nat) (m : Int), x = .int .u64 m ∧ i = .int .i64 i' ∧ i' ≤ k + 1 ∧ Hid (m = IntKind.u64.wrap (lov (l.take i')))) (fun _ i => 11 - (intOf i).toNat)
              case atStart => exact ⟨0, 0, rfl, rfl, by omega, (by decide : (0 : Int) = IntKind.u64.wrap 0)⟩
              case round =>
                obtain ⟨i', m, rfl, rfl, hi, HM⟩ := hrel
                by_cases hik : i' ≤ k
                · have hyi := HX.out i' (by omega)
                  have hfi := h5.u8 (gi_mem (l := l) (j := i') (by omega))
                  have hai := and127u8 (gi l i') (by omega) (by omega)
                  clear hy
                  have ht : i' = 0 ∨ i' = 1 ∨ i' = 2 ∨ i' = 3 ∨ i' = 4 ∨ i' = 5 ∨ i' = 6 ∨ i' = 7 ∨ i' = 8 ∨ i' = 9 := by omega
                  rcases ht with rfl | rfl | rfl | rfl | rfl | rfl | rfl | rfl | rfl | rfl
                  · rw [Nat.add_zero] at hyi
                    have hq := dig_step (l := l) (i := 0) (by omega) (by omega) HM.out
                    have HQ := Lib.hid hq
                    clear hq
                    go_wp2
                    go_round
                    case rel => exact ⟨1, _, rfl, rfl, by omega, by have q := HQ.out; rw [Hid]; simpa using q⟩
                    case measure => simp [intOf]
                  · have hq := dig_step (l := l) (i := 1) (by omega) (by omega) HM.out
                    have HQ := Lib.hid hq
                    clear hq
                    go_wp2
                    go_round
                    case rel => exact ⟨2, _, rfl, rfl, by omega, by have q := HQ.out; rw [Hid]; simpa using q⟩
                    case measure => simp [intOf]
                  · have hq := dig_step (l := l) (i := 2) (by omega) (by omega) HM.out
                    have HQ := Lib.hid hq
                    clear hq
                    go_wp2
                    go_round
                    case rel => exact ⟨3, _, rfl, rfl, by omega, by have q := HQ.out; rw [Hid]; simpa using q⟩
                    case measure => simp [intOf]
                  · have hq := dig_step (l := l) (i := 3) (by omega) (by omega) HM.out
                    have HQ := Lib.hid hq
                    clear hq
                    go_wp2
                    go_round
                    case rel => exact ⟨4, _, rfl, rfl, by omega, by have q := HQ.out; rw [Hid]; simpa using q⟩
                    case measure => simp [intOf]
                  · have hq := dig_step (l := l) (i := 4) (by omega) (by omega) HM.out
                    have HQ := Lib.hid hq
                    clear hq
                    go_wp2
                    go_round
                    case rel => exact ⟨5, _, rfl, rfl, by omega, by have q := HQ.out; rw [Hid]; simpa using q⟩
                    case measure => simp [intOf]
                  · have hq := dig_step (l := l) (i := 5) (by omega) (by omega) HM.out
                    have HQ := Lib.hid hq
                    clear hq
                    go_wp2
                    go_round
                    case rel => exact ⟨6, _, rfl, rfl, by omega, by have q := HQ.out; rw [Hid]; simpa using q⟩
                    case measure => simp [intOf]
                  · have hq := dig_step (l := l) (i := 6) (by omega) (by omega) HM.out
                    have HQ := Lib.hid hq
                    clear hq
                    go_wp2
                    go_round
                    case rel => exact ⟨7, _, rfl, rfl, by omega, by have q := HQ.out; rw [Hid]; simpa using q⟩
                    case measure => simp [intOf]
                  · have hq := dig_step (l := l) (i := 7) (by omega) (by omega) HM.out
                    have HQ := Lib.hid hq
                    clear hq
                    go_wp2
                    go_round
                    case rel => exact ⟨8, _, rfl, rfl, by omega, by have q := HQ.out; rw [Hid]; simpa using q⟩
                    case measure => simp [intOf]
                  · have hq := dig_step (l := l) (i := 8) (by omega) (by omega) HM.out
                    have HQ := Lib.hid hq
                    clear hq
                    go_wp2
                    go_round
                    case rel => exact ⟨9, _, rfl, rfl, by omega, by have q := HQ.out; rw [Hid]; simpa using q⟩
                    case measure => simp [intOf]
                  · have hq := dig_nine (l := l) (by omega) HM.out
                    have HQ := Lib.hid hq
                    clear hq
                    go_wp2
                    go_round
                    case rel => exact ⟨10, _, rfl, rfl, by omega, by have q := HQ.out; rw [Hid]; simpa using q⟩
                    case measure => simp [intOf]
                · have HK : Hid (m = IntKind.u64.wrap (lov (l.take (k + 1)))) := by
                    have e : i' = k + 1 := by omega
                    rw [← e]
                    exact HM.out
                  have hik2 : (k : Int) < (i' : Int) := by omega
                  clear HM hik
                  by_cases h64 : 64 ≤ gi l k
                  · have HZ := Lib.hid (sign_none h5 hkn' (by omega) (.inr (by omega)) hlt HK.out)
                    have HZ1 : Hid (IntKind.i64.wrap _ = wo 2 (l.take (k + 1))) := (IntWalk.i64_left _).trans HZ.out
                    have hkc : k + 1 ≤ c := by omega
                    have hc0 : ¬ c = 0 := by omega
                    have hkc2 : (k : Int) + 1 ≤ (c : Int) := by omega
                    have hbw := wo_bound 2 (l.take (k + 1)) (by simp; omega) (h5.take _)
                    by_cases hd : l.take (k + 1) = dg 2 10 (wo 2 (l.take (k + 1)))
                    · have HD := Lib.hid hd
                      clear hd
                      by_cases hcc : c = k + 1
                      · have hll : l.drop (k + 1) = [] := List.drop_eq_nil_iff.2 (by omega)
                        have HLL := Lib.hid hll
                        have hcl : l.length ≤ k + 1 := by omega
                        clear hll htail hld
                        subst hcc
                        go_wp2_with fail
                        have hkw : IntKind.i64.wrap ((k : Int) + 1) = (k : Int) + 1 := IntWalk.i64_in _ (by omega)
                        have hk0 : 0 ≤ (k : Int) + 1 := by omega
                        have hkt : ((k : Int) + 1).toNat = k + 1 := by omega
                        go_region_with (first
                          | (go_at_call 40; refine (refS_any _ _ (by first | (rw [IntKind.wrap_i64]; omega) | (unfold wrap64; omega)) (by first | (rw [IntKind.wrap_i64]; omega) | (unfold wrap64; omega))).mono ?_; (first | rw [HZ1.out] | rw [HZ.out]); rintro e w1 ⟨v1, rfl, ho1, he1⟩)
                          | (go_at_call 15; refine (eqBytes_any _ _ (dg 2 10 (wo 2 (l.take (k + 1)))) (l.take (k + 1)) _ (by exact ho1.row) (by first | exact hhead.ext he1 | exact hhead.ext ((Ext.refl w).drew.trans he1))).mono ?_; rw [decide_eq_true HD.out.symm]; rintro e w2 ⟨rfl, m2, rfl⟩))
                        all_goals
                          have ex : Ext w w1 := by first | exact he1 | exact (Ext.refl w).drew.trans he1
                          go_wp2_with (first
                            | (go_at_call 11; refine (copyBytes_any _ [] _ (by exact Row.zero _ _ _ (by omega) (by simp [maxLen])) (by simp)).mono ?_; rintro e w3 ⟨v3, rfl, ho3, he3⟩))
                          go_ret3
                          rw [HE.out, if_pos HD.out]
                          refine Ret.mk ⟨_, congrArg (fun z : Int => Value.tuple #[.int .i64 z, _, _]) HZ.out, ?_⟩ ((ex.drewN _).trans he3)
                          show Own w.heap.size w3 5 .u8 _ (l.drop (k + 1))
                          rw [HLL.out]
                          exact ho3.base ex.size
                      · go_wp2_with fail
                        have hkw : IntKind.i64.wrap ((k : Int) + 1) = (k : Int) + 1 := IntWalk.i64_in _ (by omega)
                        have hk0 : 0 ≤ (k : Int) + 1 := by omega
                        have hkt : ((k : Int) + 1).toNat = k + 1 := by omega
                        go_region_with (first
                          | (go_at_call 40; refine (refS_any _ _ (by first | (rw [IntKind.wrap_i64]; omega) | (unfold wrap64; omega)) (by first | (rw [IntKind.wrap_i64]; omega) | (unfold wrap64; omega))).mono ?_; (first | rw [HZ1.out] | rw [HZ.out]); rintro e w1 ⟨v1, rfl, ho1, he1⟩)
                          | (go_at_call 15; refine (eqBytes_any _ _ (dg 2 10 (wo 2 (l.take (k + 1)))) (l.take (k + 1)) _ (by exact ho1.row) (by first | exact hhead.ext he1 | exact hhead.ext ((Ext.refl w).drew.trans he1))).mono ?_; rw [decide_eq_true HD.out.symm]; rintro e w2 ⟨rfl, m2, rfl⟩))
                        all_goals
                          have ex : Ext w w1 := by first | exact he1 | exact (Ext.refl w).drew.trans he1
                          go_wp2_with (first
                            | (go_at_call 11; refine (copyBytes_any _ (l.drop (k + 1)) _ (by first | exact htail.ext (he1.drewN _) | exact htail.ext (((Ext.refl w).drew.trans he1).drewN _)) hld).mono ?_; rintro e w3 ⟨v3, rfl, ho3, he3⟩))
                          go_ret3
                          rw [HE.out, if_pos HD.out]
                          exact Ret.mk ⟨_, congrArg (fun z : Int => Value.tuple #[.int .i64 z, _, _]) HZ.out, ho3.base ex.size⟩ ((ex.drewN _).trans he3)
                    · have HD := Lib.hid hd
                      clear hd
                      go_wp2_with fail
                      have hkw : IntKind.i64.wrap ((k : Int) + 1) = (k : Int) + 1 := IntWalk.i64_in _ (by omega)
                      have hk0 : 0 ≤ (k : Int) + 1 := by omega
                      have hkt : ((k : Int) + 1).toNat = k + 1 := by omega
                      go_region_with (first
                        | (go_at_call 40; refine (refS_any _ _ (by first | (rw [IntKind.wrap_i64]; omega) | (unfold wrap64; omega)) (by first | (rw [IntKind.wrap_i64]; omega) | (unfold wrap64; omega))).mono ?_; (first | rw [HZ1.out] | rw [HZ.out]); rintro e w1 ⟨v1, rfl, ho1, he1⟩)
                        | (go_at_call 15; refine (eqBytes_any _ _ (dg 2 10 (wo 2 (l.take (k + 1)))) (l.take (k + 1)) _ (by exact ho1.row) (by first | exact hhead.ext he1 | exact hhead.ext ((Ext.refl w).drew.trans he1))).mono ?_; rw [decide_eq_false (fun e => HD.out e.symm)]; rintro e w2 ⟨rfl, m2, rfl⟩))
                      all_goals
                        have ex : Ext w w1 := by first | exact he1 | exact (Ext.refl w).drew.trans he1
                        go_wp2
                        go_ret3
                        rw [HE.out, if_neg HD.out]
                        exact Ret.mk ⟨_, rfl, Own.nil _ _ _ _⟩ (ex.drewN _)
                  · have HZ := Lib.hid (sign_none h5 hkn' (by omega) (.inr (by omega)) hlt HK.out)
                    have HZ1 : Hid (IntKind.i64.wrap _ = wo 2 (l.take (k + 1))) := (IntWalk.i64_left _).trans HZ.out
                    have hkc : k + 1 ≤ c := by omega
                    have hc0 : ¬ c = 0 := by omega
                    have hkc2 : (k : Int) + 1 ≤ (c : Int) := by omega
                    have hbw := wo_bound 2 (l.take (k + 1)) (by simp; omega) (h5.take _)
                    by_cases hd : l.take (k + 1) = dg 2 10 (wo 2 (l.take (k + 1)))
                    · have HD := Lib.hid hd
                      clear hd
                      by_cases hcc : c = k + 1
                      · have hll : l.drop (k + 1) = [] := List.drop_eq_nil_iff.2 (by omega)
                        have HLL := Lib.hid hll
                        have hcl : l.length ≤ k + 1 := by omega
                        clear hll htail hld
                        subst hcc
                        go_wp2_with fail
                        have hkw : IntKind.i64.wrap ((k : Int) + 1) = (k : Int) + 1 := IntWalk.i64_in _ (by omega)
                        have hk0 : 0 ≤ (k : Int) + 1 := by omega
                        have hkt : ((k : Int) + 1).toNat = k + 1 := by omega
                        go_region_with (first
                          | (go_at_call 40; refine (refS_any _ _ (by first | (rw [IntKind.wrap_i64]; omega) | (unfold wrap64; omega)) (by first | (rw [IntKind.wrap_i64]; omega) | (unfold wrap64; omega))).mono ?_; (first | rw [HZ1.out] | rw [HZ.out]); rintro e w1 ⟨v1, rfl, ho1, he1⟩)
                          | (go_at_call 15; refine (eqBytes_any _ _ (dg 2 10 (wo 2 (l.take (k + 1)))) (l.take (k + 1)) _ (by exact ho1.row) (by first | exact hhead.ext he1 | exact hhead.ext ((Ext.refl w).drew.trans he1))).mono ?_; rw [decide_eq_true HD.out.symm]; rintro e w2 ⟨rfl, m2, rfl⟩))
                        all_goals
                          have ex : Ext w w1 := by first | exact he1 | exact (Ext.refl w).drew.trans he1
                          go_wp2_with (first
                            | (go_at_call 11; refine (copyBytes_any _ [] _ (by exact Row.zero _ _ _ (by omega) (by simp [maxLen])) (by simp)).mono ?_; rintro e w3 ⟨v3, rfl, ho3, he3⟩))
                          go_ret3
                          rw [HE.out, if_pos HD.out]
                          refine Ret.mk ⟨_, congrArg (fun z : Int => Value.tuple #[.int .i64 z, _, _]) HZ.out, ?_⟩ ((ex.drewN _).trans he3)
                          show Own w.heap.size w3 5 .u8 _ (l.drop (k + 1))
                          rw [HLL.out]
                          exact ho3.base ex.size
                      · go_wp2_with fail
                        have hkw : IntKind.i64.wrap ((k : Int) + 1) = (k : Int) + 1 := IntWalk.i64_in _ (by omega)
                        have hk0 : 0 ≤ (k : Int) + 1 := by omega
                        have hkt : ((k : Int) + 1).toNat = k + 1 := by omega
                        go_region_with (first
                          | (go_at_call 40; refine (refS_any _ _ (by first | (rw [IntKind.wrap_i64]; omega) | (unfold wrap64; omega)) (by first | (rw [IntKind.wrap_i64]; omega) | (unfold wrap64; omega))).mono ?_; (first | rw [HZ1.out] | rw [HZ.out]); rintro e w1 ⟨v1, rfl, ho1, he1⟩)
                          | (go_at_call 15; refine (eqBytes_any _ _ (dg 2 10 (wo 2 (l.take (k + 1)))) (l.take (k + 1)) _ (by exact ho1.row) (by first | exact hhead.ext he1 | exact hhead.ext ((Ext.refl w).drew.trans he1))).mono ?_; rw [decide_eq_true HD.out.symm]; rintro e w2 ⟨rfl, m2, rfl⟩))
                        all_goals
                          have ex : Ext w w1 := by first | exact he1 | exact (Ext.refl w).drew.trans he1
                          go_wp2_with (first
                            | (go_at_call 11; refine (copyBytes_any _ (l.drop (k + 1)) _ (by first | exact htail.ext (he1.drewN _) | exact htail.ext (((Ext.refl w).drew.trans he1).drewN _)) hld).mono ?_; rintro e w3 ⟨v3, rfl, ho3, he3⟩))
                          go_ret3
                          rw [HE.out, if_pos HD.out]
                          exact Ret.mk ⟨_, congrArg (fun z : Int => Value.tuple #[.int .i64 z, _, _]) HZ.out, ho3.base ex.size⟩ ((ex.drewN _).trans he3)
                    · have HD := Lib.hid hd
                      clear hd
                      go_wp2_with fail
                      have hkw : IntKind.i64.wrap ((k : Int) + 1) = (k : Int) + 1 := IntWalk.i64_in _ (by omega)
                      have hk0 : 0 ≤ (k : Int) + 1 := by omega
                      have hkt : ((k : Int) + 1).toNat = k + 1 := by omega
                      go_region_with (first
                        | (go_at_call 40; refine (refS_any _ _ (by first | (rw [IntKind.wrap_i64]; omega) | (unfold wrap64; omega)) (by first | (rw [IntKind.wrap_i64]; omega) | (unfold wrap64; omega))).mono ?_; (first | rw [HZ1.out] | rw [HZ.out]); rintro e w1 ⟨v1, rfl, ho1, he1⟩)
                        | (go_at_call 15; refine (eqBytes_any _ _ (dg 2 10 (wo 2 (l.take (k + 1)))) (l.take (k + 1)) _ (by exact ho1.row) (by first | exact hhead.ext he1 | exact hhead.ext ((Ext.refl w).drew.trans he1))).mono ?_; rw [decide_eq_false (fun e => HD.out e.symm)]; rintro e w2 ⟨rfl, m2, rfl⟩))
                      all_goals
                        have ex : Ext w w1 := by first | exact he1 | exact (Ext.refl w).drew.trans he1
                        go_wp2
                        go_ret3
                        rw [HE.out, if_neg HD.out]
                        exact Ret.mk ⟨_, rfl, Own.nil _ _ _ _⟩ (ex.drewN _)
            · have hy9' := hy9 (by omega)
              go_wp2
              go_loop [6, 7] (fun x i => ∃ (i' : Nat) (m : Int), x = .int .u64 m ∧ i = .int .i64 i' ∧ i' ≤ k + 1 ∧ Hid (m = IntKind.u64.wrap (lov (l.take i')))) (fun _ i => 11 - (intOf i).toNat)
              case atStart => exact ⟨0, 0, rfl, rfl, by omega, (by decide : (0 : Int) = IntKind.u64.wrap 0)⟩
              case round =>
                obtain ⟨i', m, rfl, rfl, hi, HM⟩ := hrel
                by_cases hik : i' ≤ k
                · have hyi := HX.out i' (by omega)
                  have hfi := h5.u8 (gi_mem (l := l) (j := i') (by omega))
                  have hai := and127u8 (gi l i') (by omega) (by omega)
                  clear hy
                  have ht : i' = 0 ∨ i' = 1 ∨ i' = 2 ∨ i' = 3 ∨ i' = 4 ∨ i' = 5 ∨ i' = 6 ∨ i' = 7 ∨ i' = 8 ∨ i' = 9 := by omega
                  rcases ht with rfl | rfl | rfl | rfl | rfl | rfl | rfl | rfl | rfl | rfl
                  · rw [Nat.add_zero] at hyi
                    have hq := dig_step (l := l) (i := 0) (by omega) (by omega) HM.out
                    have HQ := Lib.hid hq
                    clear hq
                    go_wp2
                    go_round
                    case rel => exact ⟨1, _, rfl, rfl, by omega, by have q := HQ.out; rw [Hid]; simpa using q⟩
                    case measure => simp [intOf]
                  · have hq := dig_step (l := l) (i := 1) (by omega) (by omega) HM.out
                    have HQ := Lib.hid hq
                    clear hq
                    go_wp2
                    go_round
                    case rel => exact ⟨2, _, rfl, rfl, by omega, by have q := HQ.out; rw [Hid]; simpa using q⟩
                    case measure => simp [intOf]
                  · have hq := dig_step (l := l) (i := 2) (by omega) (by omega) HM.out
                    have HQ := Lib.hid hq
                    clear hq
                    go_wp2
                    go_round
                    case rel => exact ⟨3, _, rfl, rfl, by omega, by have q := HQ.out; rw [Hid]; simpa using q⟩
                    case measure => simp [intOf]
                  · have hq := dig_step (l := l) (i := 3) (by omega) (by omega) HM.out
                    have HQ := Lib.hid hq
                    clear hq
                    go_wp2
                    go_round
                    case rel => exact ⟨4, _, rfl, rfl, by omega, by have q := HQ.out; rw [Hid]; simpa using q⟩
                    case measure => simp [intOf]
                  · have hq := dig_step (l := l) (i := 4) (by omega) (by omega) HM.out
                    have HQ := Lib.hid hq
                    clear hq
                    go_wp2
                    go_round
                    case rel => exact ⟨5, _, rfl, rfl, by omega, by have q := HQ.out; rw [Hid]; simpa using q⟩
                    case measure => simp [intOf]
                  · have hq := dig_step (l := l) (i := 5) (by omega) (by omega) HM.out
                    have HQ := Lib.hid hq
                    clear hq
                    go_wp2
                    go_round
                    case rel => exact ⟨6, _, rfl, rfl, by omega, by have q := HQ.out; rw [Hid]; simpa using q⟩
                    case measure => simp [intOf]
                  · have hq := dig_step (l := l) (i := 6) (by omega) (by omega) HM.out
                    have HQ := Lib.hid hq
                    clear hq
                    go_wp2
                    go_round
                    case rel => exact ⟨7, _, rfl, rfl, by omega, by have q := HQ.out; rw [Hid]; simpa using q⟩
                    case measure => simp [intOf]
                  · have hq := dig_step (l := l) (i := 7) (by omega) (by omega) HM.out
                    have HQ := Lib.hid hq
                    clear hq
                    go_wp2
                    go_round
                    case rel => exact ⟨8, _, rfl, rfl, by omega, by have q := HQ.out; rw [Hid]; simpa using q⟩
                    case measure => simp [intOf]
                  · have hq := dig_step (l := l) (i := 8) (by omega) (by omega) HM.out
                    have HQ := Lib.hid hq
                    clear hq
                    go_wp2
                    go_round
                    case rel => exact ⟨9, _, rfl, rfl, by omega, by have q := HQ.out; rw [Hid]; simpa using q⟩
                    case measure => simp [intOf]
                  · have hq := dig_nine (l := l) (by omega) HM.out
                    have HQ := Lib.hid hq
                    clear hq
                    go_wp2
                    go_round
                    case rel => exact ⟨10, _, rfl, rfl, by omega, by have q := HQ.out; rw [Hid]; simpa using q⟩
                    case measure => simp [intOf]
                · have HK : Hid (m = IntKind.u64.wrap (lov (l.take (k + 1)))) := by
                    have e : i' = k + 1 := by omega
                    rw [← e]
                    exact HM.out
                  have hik2 : (k : Int) < (i' : Int) := by omega
                  clear HM hik
                  by_cases h64 : 64 ≤ gi l k
                  · have HZ := Lib.hid (sign_none h5 hkn' (by omega) (.inr (by omega)) hlt HK.out)
                    have HZ1 : Hid (IntKind.i64.wrap _ = wo 2 (l.take (k + 1))) := (IntWalk.i64_left _).trans HZ.out
                    have hkc : k + 1 ≤ c := by omega
                    have hc0 : ¬ c = 0 := by omega
                    have hkc2 : (k : Int) + 1 ≤ (c : Int) := by omega
                    have hbw := wo_bound 2 (l.take (k + 1)) (by simp; omega) (h5.take _)
                    by_cases hd : l.take (k + 1) = dg 2 10 (wo 2 (l.take (k + 1)))
                    · have HD := Lib.hid hd
                      clear hd
                      by_cases hcc : c = k + 1
                      · have hll : l.drop (k + 1) = [] := List.drop_eq_nil_iff.2 (by omega)
                        have HLL := Lib.hid hll
                        have hcl : l.length ≤ k + 1 := by omega
                        clear hll htail hld
                        subst hcc
                        go_wp2_with fail
                        have hkw : IntKind.i64.wrap ((k : Int) + 1) = (k : Int) + 1 := IntWalk.i64_in _ (by omega)
                        have hk0 : 0 ≤ (k : Int) + 1 := by omega
                        have hkt : ((k : Int) + 1).toNat = k + 1 := by omega
                        go_region_with (first
                          | (go_at_call 40; refine (refS_any _ _ (by first | (rw [IntKind.wrap_i64]; omega) | (unfold wrap64; omega)) (by first | (rw [IntKind.wrap_i64]; omega) | (unfold wrap64; omega))).mono ?_; (first | rw [HZ1.out] | rw [HZ.out]); rintro e w1 ⟨v1, rfl, ho1, he1⟩)
                          | (go_at_call 15; refine (eqBytes_any _ _ (dg 2 10 (wo 2 (l.take (k + 1)))) (l.take (k + 1)) _ (by exact ho1.row) (by first | exact hhead.ext he1 | exact hhead.ext ((Ext.refl w).drew.trans he1))).mono ?_; rw [decide_eq_true HD.out.symm]; rintro e w2 ⟨rfl, m2, rfl⟩))
                        all_goals
                          have ex : Ext w w1 := by first | exact he1 | exact (Ext.refl w).drew.trans he1
                          go_wp2_with (first
                            | (go_at_call 11; refine (copyBytes_any _ [] _ (by exact Row.zero _ _ _ (by omega) (by simp [maxLen])) (by simp)).mono ?_; rintro e w3 ⟨v3, rfl, ho3, he3⟩))
                          go_ret3
                          rw [HE.out, if_pos HD.out]
                          refine Ret.mk ⟨_, congrArg (fun z : Int => Value.tuple #[.int .i64 z, _, _]) HZ.out, ?_⟩ ((ex.drewN _).trans he3)
                          show Own w.heap.size w3 5 .u8 _ (l.drop (k + 1))
                          rw [HLL.out]
                          exact ho3.base ex.size
                      · go_wp2_with fail
                        have hkw : IntKind.i64.wrap ((k : Int) + 1) = (k : Int) + 1 := IntWalk.i64_in _ (by omega)
                        have hk0 : 0 ≤ (k : Int) + 1 := by omega
                        have hkt : ((k : Int) + 1).toNat = k + 1 := by omega
                        go_region_with (first
                          | (go_at_call 40; refine (refS_any _ _ (by first | (rw [IntKind.wrap_i64]; omega) | (unfold wrap64; omega)) (by first | (rw [IntKind.wrap_i64]; omega) | (unfold wrap64; omega))).mono ?_; (first | rw [HZ1.out] | rw [HZ.out]); rintro e w1 ⟨v1, rfl, ho1, he1⟩)
                          | (go_at_call 15; refine (eqBytes_any _ _ (dg 2 10 (wo 2 (l.take (k + 1)))) (l.take (k + 1)) _ (by exact ho1.row) (by first | exact hhead.ext he1 | exact hhead.ext ((Ext.refl w).drew.trans he1))).mono ?_; rw [decide_eq_true HD.out.symm]; rintro e w2 ⟨rfl, m2, rfl⟩))
                        all_goals
                          have ex : Ext w w1 := by first | exact he1 | exact (Ext.refl w).drew.trans he1
                          go_wp2_with (first
                            | (go_at_call 11; refine (copyBytes_any _ (l.drop (k + 1)) _ (by first | exact htail.ext (he1.drewN _) | exact htail.ext (((Ext.refl w).drew.trans he1).drewN _)) hld).mono ?_; rintro e w3 ⟨v3, rfl, ho3, he3⟩))
                          go_ret3
                          rw [HE.out, if_pos HD.out]
                          exact Ret.mk ⟨_, congrArg (fun z : Int => Value.tuple #[.int .i64 z, _, _]) HZ.out, ho3.base ex.size⟩ ((ex.drewN _).trans he3)
                    · have HD := Lib.hid hd
                      clear hd
                      go_wp2_with fail
                      have hkw : IntKind.i64.wrap ((k : Int) + 1) = (k : Int) + 1 := IntWalk.i64_in _ (by omega)
                      have hk0 : 0 ≤ (k : Int) + 1 := by omega
                      have hkt : ((k : Int) + 1).toNat = k + 1 := by omega
                      go_region_with (first
                        | (go_at_call 40; refine (refS_any _ _ (by first | (rw [IntKind.wrap_i64]; omega) | (unfold wrap64; omega)) (by first | (rw [IntKind.wrap_i64]; omega) | (unfold wrap64; omega))).mono ?_; (first | rw [HZ1.out] | rw [HZ.out]); rintro e w1 ⟨v1, rfl, ho1, he1⟩)
                        | (go_at_call 15; refine (eqBytes_any _ _ (dg 2 10 (wo 2 (l.take (k + 1)))) (l.take (k + 1)) _ (by exact ho1.row) (by first | exact hhead.ext he1 | exact hhead.ext ((Ext.refl w).drew.trans he1))).mono ?_; rw [decide_eq_false (fun e => HD.out e.symm)]; rintro e w2 ⟨rfl, m2, rfl⟩))
                      all_goals
                        have ex : Ext w w1 := by first | exact he1 | exact (Ext.refl w).drew.trans he1
                        go_wp2
                        go_ret3
                        rw [HE.out, if_neg HD.out]
                        exact Ret.mk ⟨_, rfl, Own.nil _ _ _ _⟩ (ex.drewN _)
                  · have HZ := Lib.hid (sign_none h5 hkn' (by omega) (.inr (by omega)) hlt HK.out)
                    have HZ1 : Hid (IntKind.i64.wrap _ = wo 2 (l.take (k + 1))) := (IntWalk.i64_left _).trans HZ.out
                    have hkc : k + 1 ≤ c := by omega
                    have hc0 : ¬ c = 0 := by omega
                    have hkc2 : (k : Int) + 1 ≤ (c : Int) := by omega
                    have hbw := wo_bound 2 (l.take (k + 1)) (by simp; omega) (h5.take _)
                    by_cases hd : l.take (k + 1) = dg 2 10 (wo 2 (l.take (k + 1)))
                    · have HD := Lib.hid hd
                      clear hd
                      by_cases hcc : c = k + 1
                      · have hll : l.drop (k + 1) = [] := List.drop_eq_nil_iff.2 (by omega)
                        have HLL := Lib.hid hll
                        have hcl : l.length ≤ k + 1 := by omega
                        clear hll htail hld
                        subst hcc
                        go_wp2_with fail
                        have hkw : IntKind.i64.wrap ((k : Int) + 1) = (k : Int) + 1 := IntWalk.i64_in _ (by omega)
                        have hk0 : 0 ≤ (k : Int) + 1 := by omega
                        have hkt : ((k : Int) + 1).toNat = k + 1 := by omega
                        go_region_with (first
                          | (go_at_call 40; refine (refS_any _ _ (by first | (rw [IntKind.wrap_i64]; omega) | (unfold wrap64; omega)) (by first | (rw [IntKind.wrap_i64]; omega) | (unfold wrap64; omega))).mono ?_; (first | rw [HZ1.out] | rw [HZ.out]); rintro e w1 ⟨v1, rfl, ho1, he1⟩)
                          | (go_at_call 15; refine (eqBytes_any _ _ (dg 2 10 (wo 2 (l.take (k + 1)))) (l.take (k + 1)) _ (by exact ho1.row) (by first | exact hhead.ext he1 | exact hhead.ext ((Ext.refl w).drew.trans he1))).mono ?_; rw [decide_eq_true HD.out.symm]; rintro e w2 ⟨rfl, m2, rfl⟩))
                        all_goals
                          have ex : Ext w w1 := by first | exact he1 | exact (Ext.refl w).drew.trans he1
                          go_wp2_with (first
                            | (go_at_call 11; refine (copyBytes_any _ [] _ (by exact Row.zero _ _ _ (by omega) (by simp [maxLen])) (by simp)).mono ?_; rintro e w3 ⟨v3, rfl, ho3, he3⟩))
                          go_ret3
                          rw [HE.out, if_pos HD.out]
                          refine Ret.mk ⟨_, congrArg (fun z : Int => Value.tuple #[.int .i64 z, _, _]) HZ.out, ?_⟩ ((ex.drewN _).trans he3)
                          show Own w.heap.size w3 5 .u8 _ (l.drop (k + 1))
                          rw [HLL.out]
                          exact ho3.base ex.size
                      · go_wp2_with fail
                        have hkw : IntKind.i64.wrap ((k : Int) + 1) = (k : Int) + 1 := IntWalk.i64_in _ (by omega)
                        have hk0 : 0 ≤ (k : Int) + 1 := by omega
                        have hkt : ((k : Int) + 1).toNat = k + 1 := by omega
                        go_region_with (first
                          | (go_at_call 40; refine (refS_any _ _ (by first | (rw [IntKind.wrap_i64]; omega) | (unfold wrap64; omega)) (by first | (rw [IntKind.wrap_i64]; omega) | (unfold wrap64; omega))).mono ?_; (first | rw [HZ1.out] | rw [HZ.out]); rintro e w1 ⟨v1, rfl, ho1, he1⟩)
                          | (go_at_call 15; refine (eqBytes_any _ _ (dg 2 10 (wo 2 (l.take (k + 1)))) (l.take (k + 1)) _ (by exact ho1.row) (by first | exact hhead.ext he1 | exact hhead.ext ((Ext.refl w).drew.trans he1))).mono ?_; rw [decide_eq_true HD.out.symm]; rintro e w2 ⟨rfl, m2, rfl⟩))
                        all_goals
                          have ex : Ext w w1 := by first | exact he1 | exact (Ext.refl w).drew.trans he1
                          go_wp2_with (first
                            | (go_at_call 11; refine (copyBytes_any _ (l.drop (k + 1)) _ (by first | exact htail.ext (he1.drewN _) | exact htail.ext (((Ext.refl w).drew.trans he1).drewN _)) hld).mono ?_; rintro e w3 ⟨v3, rfl, ho3, he3⟩))
                          go_ret3
                          rw [HE.out, if_pos HD.out]
                          exact Ret.mk ⟨_, congrArg (fun z : Int => Value.tuple #[.int .i64 z, _, _]) HZ.out, ho3.base ex.size⟩ ((ex.drewN _).trans he3)
                    · have HD := Lib.hid hd
                      clear hd
                      go_wp2_with fail
                      have hkw : IntKind.i64.wrap ((k : Int) + 1) = (k : Int) + 1 := IntWalk.i64_in _ (by omega)
                      have hk0 : 0 ≤ (k : Int) + 1 := by omega
                      have hkt : ((k : Int) + 1).toNat = k + 1 := by omega
                      go_region_with (first
                        | (go_at_call 40; refine (refS_any _ _ (by first | (rw [IntKind.wrap_i64]; omega) | (unfold wrap64; omega)) (by first | (rw [IntKind.wrap_i64]; omega) | (unfold wrap64; omega))).mono ?_; (first | rw [HZ1.out] | rw [HZ.out]); rintro e w1 ⟨v1, rfl, ho1, he1⟩)
                        | (go_at_call 15; refine (eqBytes_any _ _ (dg 2 10 (wo 2 (l.take (k + 1)))) (l.take (k + 1)) _ (by exact ho1.row) (by first | exact hhead.ext he1 | exact hhead.ext ((Ext.refl w).drew.trans he1))).mono ?_; rw [decide_eq_false (fun e => HD.out e.symm)]; rintro e w2 ⟨rfl, m2, rfl⟩))
                      all_goals
                        have ex : Ext w w1 := by first | exact he1 | exact (Ext.refl w).drew.trans he1
                        go_wp2
                        go_ret3
                        rw [HE.out, if_neg HD.out]
                        exact Ret.mk ⟨_, rfl, Own.nil _ _ _ _⟩ (ex.drewN _)
end Go.Proofs.YtecgldkhjgcffaaDoor
