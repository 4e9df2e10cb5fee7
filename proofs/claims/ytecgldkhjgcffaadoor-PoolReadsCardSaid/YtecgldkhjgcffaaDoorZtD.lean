/- Several texts of this proof, one behind the other. -/
import Derived.Test.YtecgldkhjgcffaaDoorZtC
/- The document's answer of layer 1, walked: TakeU. -/
namespace Go.Proofs.YtecgldkhjgcffaaDoor
open Go.RowKit
set_option linter.unusedVariables false

set_option maxHeartbeats 8000000 in
theorem refTakeU_any (v : Value) (l : List Int) (w : World) (h : Row w .u8 v l) (hr : l.length ≤ 140737488355328) :
    Calls Tryd.prog 58 #[v] w (Ret w (RowTake w (tU l))) := by
  have hrow := h
  obtain ⟨A, c, rfl, h2, h3, h4, h5, h6⟩ := h
  unfold maxLen at h3
  go_enter Tryd.func58, Tryd.ntmps58
  go_wp2
  go_loop [5, 6] (fun x i => ∃ (k : Nat) (m : Int), x = .int .i64 m ∧ i = .int .i64 k ∧ k ≤ 8 ∧ k ≤ l.length ∧ Hid (∀ j, j < k → 128 ≤ gi l j) ∧ Hid (m = lov (l.take k))) (fun _ i => 8 - (intOf i).toNat)
  case atStart => exact ⟨0, 0, rfl, rfl, by omega, by omega, fun j hj => by omega, rfl⟩
  case round =>
    obtain ⟨k, m, rfl, rfl, hk, hkl, HG, HM⟩ := hrel
    by_cases hk8 : k = 8
    · have e := tU_long (l := l) (by omega) (by rw [← hk8]; exact HG.out)
      have HE := Lib.hid e
      clear e
      have hk9 : (8 : Int) ≤ (k : Int) := by omega
      clear hk8
      go_wp2
      go_ret3
      rw [HE.out]
      exact Ret.mk ⟨_, rfl, Own.nil _ _ _ _⟩ (Ext.refl _)
    · have hk7 : k < 8 := by omega
      clear hk8
      by_cases hkn : k = l.length
      · have e := tU_trunc (l := l) (by omega) (by rw [← hkn]; exact HG.out)
        have HE := Lib.hid e
        clear e
        have hb : ((k : Int) == (l.length : Int)) = true := beq_iff_eq.2 (by omega)
        clear hkn
        go_wp2
        go_ret3
        rw [HE.out]
        exact Ret.mk ⟨_, rfl, Own.nil _ _ _ _⟩ (Ext.refl _)
      · have hkn' : k < l.length := by omega
        have hb : ((k : Int) == (l.length : Int)) = false := beq_eq_false_iff_ne.2 (by omega)
        obtain ⟨b, o, rfl, hbk, hx⟩ := h6 (by omega)
        have hy := hx k hkn'
        have hf := h5.u8 (gi_mem (l := l) (j := k) hkn')
        have hand := and127u8 (gi l k) (by omega) (by omega)
        have HN := Lib.hid (lov_step (l := l) (k := k) hkn')
        have hmb : 0 ≤ m ∧ m < 128 ^ k := by
          have hl := lov_bound (l.take k)
          have e : (l.take k).length = k := by simp; omega
          rw [e] at hl
          rw [HM.out]
          exact hl
        rw [← HM.out] at HN
        have htail := hrow.tail (k + 1) (by omega)
        clear hx h6 h4 hkn
        have hg2 : ∀ x : Int, x = gi l k → 128 ≤ x → ∀ j, j < k + 1 → 128 ≤ gi l j := by
          intro x hx1 hx2 j hj
          by_cases hjk : j = k
          · subst hjk
            omega
          · exact HG.out j (by omega)
        have HG2 := Lib.hid hg2
        have HTU : Hid (gi l k < 128 → tU l = if gi l k = 0 ∧ 0 < k ∨ 9007199254740991 < lov (l.take (k + 1)) then (0, [], 4) else (lov (l.take (k + 1)), l.drop (k + 1), 0)) := fun hx => tU_eq h5 hk7 hkn' HG.out hx
        have hld : (l.drop (k + 1)).length ≤ 140737488355328 := by simp; omega
        clear hg2 HG
        generalize gi l k = x at *
        generalize hL : lov (l.take (k + 1)) = L at *
        have HL := Lib.hid hL
        clear hL
        have ht : k = 0 ∨ k = 1 ∨ k = 2 ∨ k = 3 ∨ k = 4 ∨ k = 5 ∨ k = 6 ∨ k = 7 := by omega
        rcases ht with rfl | rfl | rfl | rfl | rfl | rfl | rfl | rfl
        · have hmb1 := hmb.1
          have hmb2 : m < 1 := by have := hmb.2; simpa using this
          have hN2 : L = m + x % 128 := by have := HN.out; simpa using this
          have HN2 := Lib.hid hN2
          clear hmb HN HM
          rw [Nat.add_zero] at hy
          by_cases hx : 128 ≤ x
          · clear hN2 htail
            go_wp2
            go_round
            case rel => exact ⟨1, _, rfl, rfl, by omega, by omega, HG2.out x rfl hx, HN2.out.symm.trans HL.out.symm⟩
            case measure => simp [intOf]
          · have e := HTU.out (by omega)
            by_cases hmx : 9007199254740991 < L
            · omega
            · rw [if_neg (by omega)] at e
              have HE := Lib.hid e
              clear e HTU HG2 hN2
              by_cases hz : x = 0
              · have hzb : (x == 0) = true := beq_iff_eq.2 hz
                clear hz hmx
                by_cases hcc : c = 1
                · have hll : l.drop 1 = [] := List.drop_eq_nil_iff.2 (by omega)
                  change l.drop (0 + 1) = [] at hll
                  rw [Nat.zero_add] at hll
                  have HLL : Hid (l.drop 1 = []) := hll
                  have hcl : l.length = 1 := by omega
                  have HCL := Lib.hid hcl
                  clear hll htail hld hcl
                  subst hcc
                  go_wp2_with (first
                    | (go_at_call 11; refine (copyBytes_any _ [] _ (by exact Row.zero _ _ _ (by have := HCL.out; omega) (by simp [maxLen])) (by simp)).mono ?_; rintro e w2 ⟨v2, rfl, ho2, he2⟩))
                  go_ret3
                  rw [HE.out]
                  refine Ret.mk ⟨_, congrArg (fun z : Int => Value.tuple #[.int .i64 z, _, _]) HN2.out.symm, ?_⟩ he2
                  show Own w.heap.size w2 5 .u8 _ (l.drop 1)
                  rw [HLL.out]
                  exact ho2
                · go_wp2_with (first
                    | (go_at_call 11; refine (copyBytes_any _ (l.drop 1) _ (by exact htail) (by exact hld)).mono ?_; rintro e w2 ⟨v2, rfl, ho2, he2⟩))
                  go_ret3
                  rw [HE.out]
                  exact Ret.mk ⟨_, congrArg (fun z : Int => Value.tuple #[.int .i64 z, _, _]) HN2.out.symm, ho2⟩ he2
              · have hzb : (x == 0) = false := beq_eq_false_iff_ne.2 hz
                clear hz hmx
                by_cases hcc : c = 1
                · have hll : l.drop 1 = [] := List.drop_eq_nil_iff.2 (by omega)
                  change l.drop (0 + 1) = [] at hll
                  rw [Nat.zero_add] at hll
                  have HLL : Hid (l.drop 1 = []) := hll
                  have hcl : l.length = 1 := by omega
                  have HCL := Lib.hid hcl
                  clear hll htail hld hcl
                  subst hcc
                  go_wp2_with (first
                    | (go_at_call 11; refine (copyBytes_any _ [] _ (by exact Row.zero _ _ _ (by have := HCL.out; omega) (by simp [maxLen])) (by simp)).mono ?_; rintro e w2 ⟨v2, rfl, ho2, he2⟩))
                  go_ret3
                  rw [HE.out]
                  refine Ret.mk ⟨_, congrArg (fun z : Int => Value.tuple #[.int .i64 z, _, _]) HN2.out.symm, ?_⟩ he2
                  show Own w.heap.size w2 5 .u8 _ (l.drop 1)
                  rw [HLL.out]
                  exact ho2
                · go_wp2_with (first
                    | (go_at_call 11; refine (copyBytes_any _ (l.drop 1) _ (by exact htail) (by exact hld)).mono ?_; rintro e w2 ⟨v2, rfl, ho2, he2⟩))
                  go_ret3
                  rw [HE.out]
                  exact Ret.mk ⟨_, congrArg (fun z : Int => Value.tuple #[.int .i64 z, _, _]) HN2.out.symm, ho2⟩ he2
        · have hmb1 := hmb.1
          have hmb2 : m < 128 := by have := hmb.2; simpa using this
          have hN2 : L = m + x % 128 * 128 := by have := HN.out; simpa using this
          have HN2 := Lib.hid hN2
          clear hmb HN HM
          by_cases hx : 128 ≤ x
          · clear hN2 htail
            go_wp2
            go_round
            case rel => exact ⟨2, _, rfl, rfl, by omega, by omega, HG2.out x rfl hx, HN2.out.symm.trans HL.out.symm⟩
            case measure => simp [intOf]
          · have e := HTU.out (by omega)
            by_cases hz : x = 0
            · rw [if_pos (.inl ⟨hz, by omega⟩)] at e
              have HE := Lib.hid e
              have hzb : (x == 0) = true := beq_iff_eq.2 hz
              clear hz HTU HG2 hN2
              clear htail hld HN2 e
              go_wp2
              go_ret3
              rw [HE.out]
              exact Ret.mk ⟨_, rfl, Own.nil _ _ _ _⟩ (Ext.refl _)
            · have hzb : (x == 0) = false := beq_eq_false_iff_ne.2 hz
              by_cases hmx : 9007199254740991 < L
              · exfalso
                omega
              · rw [if_neg (by omega)] at e
                have HE := Lib.hid e
                have hmx2 : m + x % 128 * 128 ≤ 9007199254740991 := by omega
                clear hz HTU HG2 hN2 hmx e
                by_cases hcc : c = 2
                · have hll : l.drop 2 = [] := List.drop_eq_nil_iff.2 (by omega)
                  change l.drop (0 + 2) = [] at hll
                  rw [Nat.zero_add] at hll
                  have HLL : Hid (l.drop 2 = []) := hll
                  have hcl : l.length = 2 := by omega
                  have HCL := Lib.hid hcl
                  clear hll htail hld hcl
                  subst hcc
                  go_wp2_with (first
                    | (go_at_call 11; refine (copyBytes_any _ [] _ (by exact Row.zero _ _ _ (by have := HCL.out; omega) (by simp [maxLen])) (by simp)).mono ?_; rintro e w2 ⟨v2, rfl, ho2, he2⟩))
                  go_ret3
                  rw [HE.out]
                  refine Ret.mk ⟨_, congrArg (fun z : Int => Value.tuple #[.int .i64 z, _, _]) HN2.out.symm, ?_⟩ he2
                  show Own w.heap.size w2 5 .u8 _ (l.drop 2)
                  rw [HLL.out]
                  exact ho2
                · go_wp2_with (first
                    | (go_at_call 11; refine (copyBytes_any _ (l.drop 2) _ (by exact htail) (by exact hld)).mono ?_; rintro e w2 ⟨v2, rfl, ho2, he2⟩))
                  go_ret3
                  rw [HE.out]
                  exact Ret.mk ⟨_, congrArg (fun z : Int => Value.tuple #[.int .i64 z, _, _]) HN2.out.symm, ho2⟩ he2
        · have hmb1 := hmb.1
          have hmb2 : m < 16384 := by have := hmb.2; simpa using this
          have hN2 : L = m + x % 128 * 16384 := by have := HN.out; simpa using this
          have HN2 := Lib.hid hN2
          clear hmb HN HM
          by_cases hx : 128 ≤ x
          · clear hN2 htail
            go_wp2
            go_round
            case rel => exact ⟨3, _, rfl, rfl, by omega, by omega, HG2.out x rfl hx, HN2.out.symm.trans HL.out.symm⟩
            case measure => simp [intOf]
          · have e := HTU.out (by omega)
            by_cases hz : x = 0
            · rw [if_pos (.inl ⟨hz, by omega⟩)] at e
              have HE := Lib.hid e
              have hzb : (x == 0) = true := beq_iff_eq.2 hz
              clear hz HTU HG2 hN2
              clear htail hld HN2 e
              go_wp2
              go_ret3
              rw [HE.out]
              exact Ret.mk ⟨_, rfl, Own.nil _ _ _ _⟩ (Ext.refl _)
            · have hzb : (x == 0) = false := beq_eq_false_iff_ne.2 hz
              by_cases hmx : 9007199254740991 < L
              · exfalso
                omega
              · rw [if_neg (by omega)] at e
                have HE := Lib.hid e
                have hmx2 : m + x % 128 * 16384 ≤ 9007199254740991 := by omega
                clear hz HTU HG2 hN2 hmx e
                by_cases hcc : c = 3
                · have hll : l.drop 3 = [] := List.drop_eq_nil_iff.2 (by omega)
                  change l.drop (0 + 3) = [] at hll
                  rw [Nat.zero_add] at hll
                  have HLL : Hid (l.drop 3 = []) := hll
                  have hcl : l.length = 3 := by omega
                  have HCL := Lib.hid hcl
                  clear hll htail hld hcl
                  subst hcc
                  go_wp2_with (first
                    | (go_at_call 11; refine (copyBytes_any _ [] _ (by exact Row.zero _ _ _ (by have := HCL.out; omega) (by simp [maxLen])) (by simp)).mono ?_; rintro e w2 ⟨v2, rfl, ho2, he2⟩))
                  go_ret3
                  rw [HE.out]
                  refine Ret.mk ⟨_, congrArg (fun z : Int => Value.tuple #[.int .i64 z, _, _]) HN2.out.symm, ?_⟩ he2
                  show Own w.heap.size w2 5 .u8 _ (l.drop 3)
                  rw [HLL.out]
                  exact ho2
                · go_wp2_with (first
                    | (go_at_call 11; refine (copyBytes_any _ (l.drop 3) _ (by exact htail) (by exact hld)).mono ?_; rintro e w2 ⟨v2, rfl, ho2, he2⟩))
                  go_ret3
                  rw [HE.out]
                  exact Ret.mk ⟨_, congrArg (fun z : Int => Value.tuple #[.int .i64 z, _, _]) HN2.out.symm, ho2⟩ he2
        · have hmb1 := hmb.1
          have hmb2 : m < 2097152 := by have := hmb.2; simpa using this
          have hN2 : L = m + x % 128 * 2097152 := by have := HN.out; simpa using this
          have HN2 := Lib.hid hN2
          clear hmb HN HM
          by_cases hx : 128 ≤ x
          · clear hN2 htail
            go_wp2
            go_round
            case rel => exact ⟨4, _, rfl, rfl, by omega, by omega, HG2.out x rfl hx, HN2.out.symm.trans HL.out.symm⟩
            case measure => simp [intOf]
          · have e := HTU.out (by omega)
            by_cases hz : x = 0
            · rw [if_pos (.inl ⟨hz, by omega⟩)] at e
              have HE := Lib.hid e
              have hzb : (x == 0) = true := beq_iff_eq.2 hz
              clear hz HTU HG2 hN2
              clear htail hld HN2 e
              go_wp2
              go_ret3
              rw [HE.out]
              exact Ret.mk ⟨_, rfl, Own.nil _ _ _ _⟩ (Ext.refl _)
            · have hzb : (x == 0) = false := beq_eq_false_iff_ne.2 hz
              by_cases hmx : 9007199254740991 < L
              · exfalso
                omega
              · rw [if_neg (by omega)] at e
                have HE := Lib.hid e
                have hmx2 : m + x % 128 * 2097152 ≤ 9007199254740991 := by omega
                clear hz HTU HG2 hN2 hmx e
                by_cases hcc : c = 4
                · have hll : l.drop 4 = [] := List.drop_eq_nil_iff.2 (by omega)
                  change l.drop (0 + 4) = [] at hll
                  rw [Nat.zero_add] at hll
                  have HLL : Hid (l.drop 4 = []) := hll
                  have hcl : l.length = 4 := by omega
                  have HCL := Lib.hid hcl
                  clear hll htail hld hcl
                  subst hcc
                  go_wp2_with (first
                    | (go_at_call 11; refine (copyBytes_any _ [] _ (by exact Row.zero _ _ _ (by have := HCL.out; omega) (by simp [maxLen])) (by simp)).mono ?_; rintro e w2 ⟨v2, rfl, ho2, he2⟩))
                  go_ret3
                  rw [HE.out]
                  refine Ret.mk ⟨_, congrArg (fun z : Int => Value.tuple #[.int .i64 z, _, _]) HN2.out.symm, ?_⟩ he2
                  show Own w.heap.size w2 5 .u8 _ (l.drop 4)
                  rw [HLL.out]
                  exact ho2
                · go_wp2_with (first
                    | (go_at_call 11; refine (copyBytes_any _ (l.drop 4) _ (by exact htail) (by exact hld)).mono ?_; rintro e w2 ⟨v2, rfl, ho2, he2⟩))
                  go_ret3
                  rw [HE.out]
                  exact Ret.mk ⟨_, congrArg (fun z : Int => Value.tuple #[.int .i64 z, _, _]) HN2.out.symm, ho2⟩ he2
        · have hmb1 := hmb.1
          have hmb2 : m < 268435456 := by have := hmb.2; simpa using this
          have hN2 : L = m + x % 128 * 268435456 := by have := HN.out; simpa using this
          have HN2 := Lib.hid hN2
          clear hmb HN HM
          by_cases hx : 128 ≤ x
          · clear hN2 htail
            go_wp2
            go_round
            case rel => exact ⟨5, _, rfl, rfl, by omega, by omega, HG2.out x rfl hx, HN2.out.symm.trans HL.out.symm⟩
            case measure => simp [intOf]
          · have e := HTU.out (by omega)
            by_cases hz : x = 0
            · rw [if_pos (.inl ⟨hz, by omega⟩)] at e
              have HE := Lib.hid e
              have hzb : (x == 0) = true := beq_iff_eq.2 hz
              clear hz HTU HG2 hN2
              clear htail hld HN2 e
              go_wp2
              go_ret3
              rw [HE.out]
              exact Ret.mk ⟨_, rfl, Own.nil _ _ _ _⟩ (Ext.refl _)
            · have hzb : (x == 0) = false := beq_eq_false_iff_ne.2 hz
              by_cases hmx : 9007199254740991 < L
              · exfalso
                omega
              · rw [if_neg (by omega)] at e
                have HE := Lib.hid e
                have hmx2 : m + x % 128 * 268435456 ≤ 9007199254740991 := by omega
                clear hz HTU HG2 hN2 hmx e
                by_cases hcc : c = 5
                · have hll : l.drop 5 = [] := List.drop_eq_nil_iff.2 (by omega)
                  change l.drop (0 + 5) = [] at hll
                  rw [Nat.zero_add] at hll
                  have HLL : Hid (l.drop 5 = []) := hll
                  have hcl : l.length = 5 := by omega
                  have HCL := Lib.hid hcl
                  clear hll htail hld hcl
                  subst hcc
                  go_wp2_with (first
                    | (go_at_call 11; refine (copyBytes_any _ [] _ (by exact Row.zero _ _ _ (by have := HCL.out; omega) (by simp [maxLen])) (by simp)).mono ?_; rintro e w2 ⟨v2, rfl, ho2, he2⟩))
                  go_ret3
                  rw [HE.out]
                  refine Ret.mk ⟨_, congrArg (fun z : Int => Value.tuple #[.int .i64 z, _, _]) HN2.out.symm, ?_⟩ he2
                  show Own w.heap.size w2 5 .u8 _ (l.drop 5)
                  rw [HLL.out]
                  exact ho2
                · go_wp2_with (first
                    | (go_at_call 11; refine (copyBytes_any _ (l.drop 5) _ (by exact htail) (by exact hld)).mono ?_; rintro e w2 ⟨v2, rfl, ho2, he2⟩))
                  go_ret3
                  rw [HE.out]
                  exact Ret.mk ⟨_, congrArg (fun z : Int => Value.tuple #[.int .i64 z, _, _]) HN2.out.symm, ho2⟩ he2
        · have hmb1 := hmb.1
          have hmb2 : m < 34359738368 := by have := hmb.2; simpa using this
          have hN2 : L = m + x % 128 * 34359738368 := by have := HN.out; simpa using this
          have HN2 := Lib.hid hN2
          clear hmb HN HM
          by_cases hx : 128 ≤ x
          · clear hN2 htail
            go_wp2
            go_round
            case rel => exact ⟨6, _, rfl, rfl, by omega, by omega, HG2.out x rfl hx, HN2.out.symm.trans HL.out.symm⟩
            case measure => simp [intOf]
          · have e := HTU.out (by omega)
            by_cases hz : x = 0
            · rw [if_pos (.inl ⟨hz, by omega⟩)] at e
              have HE := Lib.hid e
              have hzb : (x == 0) = true := beq_iff_eq.2 hz
              clear hz HTU HG2 hN2
              clear htail hld HN2 e
              go_wp2
              go_ret3
              rw [HE.out]
              exact Ret.mk ⟨_, rfl, Own.nil _ _ _ _⟩ (Ext.refl _)
            · have hzb : (x == 0) = false := beq_eq_false_iff_ne.2 hz
              by_cases hmx : 9007199254740991 < L
              · exfalso
                omega
              · rw [if_neg (by omega)] at e
                have HE := Lib.hid e
                have hmx2 : m + x % 128 * 34359738368 ≤ 9007199254740991 := by omega
                clear hz HTU HG2 hN2 hmx e
                by_cases hcc : c = 6
                · have hll : l.drop 6 = [] := List.drop_eq_nil_iff.2 (by omega)
                  change l.drop (0 + 6) = [] at hll
                  rw [Nat.zero_add] at hll
                  have HLL : Hid (l.drop 6 = []) := hll
                  have hcl : l.length = 6 := by omega
                  have HCL := Lib.hid hcl
                  clear hll htail hld hcl
                  subst hcc
                  go_wp2_with (first
                    | (go_at_call 11; refine (copyBytes_any _ [] _ (by exact Row.zero _ _ _ (by have := HCL.out; omega) (by simp [maxLen])) (by simp)).mono ?_; rintro e w2 ⟨v2, rfl, ho2, he2⟩))
                  go_ret3
                  rw [HE.out]
                  refine Ret.mk ⟨_, congrArg (fun z : Int => Value.tuple #[.int .i64 z, _, _]) HN2.out.symm, ?_⟩ he2
                  show Own w.heap.size w2 5 .u8 _ (l.drop 6)
                  rw [HLL.out]
                  exact ho2
                · go_wp2_with (first
                    | (go_at_call 11; refine (copyBytes_any _ (l.drop 6) _ (by exact htail) (by exact hld)).mono ?_; rintro e w2 ⟨v2, rfl, ho2, he2⟩))
                  go_ret3
                  rw [HE.out]
                  exact Ret.mk ⟨_, congrArg (fun z : Int => Value.tuple #[.int .i64 z, _, _]) HN2.out.symm, ho2⟩ he2
        · have hmb1 := hmb.1
          have hmb2 : m < 4398046511104 := by have := hmb.2; simpa using this
          have hN2 : L = m + x % 128 * 4398046511104 := by have := HN.out; simpa using this
          have HN2 := Lib.hid hN2
          clear hmb HN HM
          by_cases hx : 128 ≤ x
          · clear hN2 htail
            go_wp2
            go_round
            case rel => exact ⟨7, _, rfl, rfl, by omega, by omega, HG2.out x rfl hx, HN2.out.symm.trans HL.out.symm⟩
            case measure => simp [intOf]
          · have e := HTU.out (by omega)
            by_cases hz : x = 0
            · rw [if_pos (.inl ⟨hz, by omega⟩)] at e
              have HE := Lib.hid e
              have hzb : (x == 0) = true := beq_iff_eq.2 hz
              clear hz HTU HG2 hN2
              clear htail hld HN2 e
              go_wp2
              go_ret3
              rw [HE.out]
              exact Ret.mk ⟨_, rfl, Own.nil _ _ _ _⟩ (Ext.refl _)
            · have hzb : (x == 0) = false := beq_eq_false_iff_ne.2 hz
              by_cases hmx : 9007199254740991 < L
              · exfalso
                omega
              · rw [if_neg (by omega)] at e
                have HE := Lib.hid e
                have hmx2 : m + x % 128 * 4398046511104 ≤ 9007199254740991 := by omega
                clear hz HTU HG2 hN2 hmx e
                by_cases hcc : c = 7
                · have hll : l.drop 7 = [] := List.drop_eq_nil_iff.2 (by omega)
                  change l.drop (0 + 7) = [] at hll
                  rw [Nat.zero_add] at hll
                  have HLL : Hid (l.drop 7 = []) := hll
                  have hcl : l.length = 7 := by omega
                  have HCL := Lib.hid hcl
                  clear hll htail hld hcl
                  subst hcc
                  go_wp2_with (first
                    | (go_at_call 11; refine (copyBytes_any _ [] _ (by exact Row.zero _ _ _ (by have := HCL.out; omega) (by simp [maxLen])) (by simp)).mono ?_; rintro e w2 ⟨v2, rfl, ho2, he2⟩))
                  go_ret3
                  rw [HE.out]
                  refine Ret.mk ⟨_, congrArg (fun z : Int => Value.tuple #[.int .i64 z, _, _]) HN2.out.symm, ?_⟩ he2
                  show Own w.heap.size w2 5 .u8 _ (l.drop 7)
                  rw [HLL.out]
                  exact ho2
                · go_wp2_with (first
                    | (go_at_call 11; refine (copyBytes_any _ (l.drop 7) _ (by exact htail) (by exact hld)).mono ?_; rintro e w2 ⟨v2, rfl, ho2, he2⟩))
                  go_ret3
                  rw [HE.out]
                  exact Ret.mk ⟨_, congrArg (fun z : Int => Value.tuple #[.int .i64 z, _, _]) HN2.out.symm, ho2⟩ he2
        · have hmb1 := hmb.1
          have hmb2 : m < 562949953421312 := by have := hmb.2; simpa using this
          have hN2 : L = m + x % 128 * 562949953421312 := by have := HN.out; simpa using this
          have HN2 := Lib.hid hN2
          clear hmb HN HM
          by_cases hx : 128 ≤ x
          · clear hN2 htail
            go_wp2
            go_round
            case rel => exact ⟨8, _, rfl, rfl, by omega, by omega, HG2.out x rfl hx, HN2.out.symm.trans HL.out.symm⟩
            case measure => simp [intOf]
          · have e := HTU.out (by omega)
            by_cases hz : x = 0
            · rw [if_pos (.inl ⟨hz, by omega⟩)] at e
              have HE := Lib.hid e
              have hzb : (x == 0) = true := beq_iff_eq.2 hz
              clear hz HTU HG2 hN2
              clear htail hld HN2 e
              go_wp2
              go_ret3
              rw [HE.out]
              exact Ret.mk ⟨_, rfl, Own.nil _ _ _ _⟩ (Ext.refl _)
            · have hzb : (x == 0) = false := beq_eq_false_iff_ne.2 hz
              by_cases hmx : 9007199254740991 < L
              · rw [if_pos (.inr hmx)] at e
                have HE := Lib.hid e
                have hmx2 : 9007199254740991 < m + x % 128 * 562949953421312 := by omega
                clear hz HTU HG2 hN2 hmx
                clear htail hld HN2 e
                go_wp2
                go_ret3
                rw [HE.out]
                exact Ret.mk ⟨_, rfl, Own.nil _ _ _ _⟩ (Ext.refl _)
              · rw [if_neg (by omega)] at e
                have HE := Lib.hid e
                have hmx2 : m + x % 128 * 562949953421312 ≤ 9007199254740991 := by omega
                clear hz HTU HG2 hN2 hmx e
                by_cases hcc : c = 8
                · have hll : l.drop 8 = [] := List.drop_eq_nil_iff.2 (by omega)
                  change l.drop (0 + 8) = [] at hll
                  rw [Nat.zero_add] at hll
                  have HLL : Hid (l.drop 8 = []) := hll
                  have hcl : l.length = 8 := by omega
                  have HCL := Lib.hid hcl
                  clear hll htail hld hcl
                  subst hcc
                  go_wp2_with (first
                    | (go_at_call 11; refine (copyBytes_any _ [] _ (by exact Row.zero _ _ _ (by have := HCL.out; omega) (by simp [maxLen])) (by simp)).mono ?_; rintro e w2 ⟨v2, rfl, ho2, he2⟩))
                  go_ret3
                  rw [HE.out]
                  refine Ret.mk ⟨_, congrArg (fun z : Int => Value.tuple #[.int .i64 z, _, _]) HN2.out.symm, ?_⟩ he2
                  show Own w.heap.size w2 5 .u8 _ (l.drop 8)
                  rw [HLL.out]
                  exact ho2
                · go_wp2_with (first
                    | (go_at_call 11; refine (copyBytes_any _ (l.drop 8) _ (by exact htail) (by exact hld)).mono ?_; rintro e w2 ⟨v2, rfl, ho2, he2⟩))
                  go_ret3
                  rw [HE.out]
                  exact Ret.mk ⟨_, congrArg (fun z : Int => Value.tuple #[.int .i64 z, _, _]) HN2.out.symm, ho2⟩ he2
end Go.Proofs.YtecgldkhjgcffaaDoor
