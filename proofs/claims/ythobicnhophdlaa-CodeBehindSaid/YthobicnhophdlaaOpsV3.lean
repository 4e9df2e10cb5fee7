/- Whether an instruction's keys may be, as the project tells it. -/
import Derived.Test.YthobicnhophdlaaOpsV
namespace Go.Proofs.Ythobicnhophdlaa
open Go.RowKit
set_option linter.unusedVariables false

theorem pints_ext3 (w : World) : Calls Try.prog 57 #[] w fun e w' => e = .returned (.agg #[.int .i64 (-2147483648), .int .i64 2147483647]) ∧ Ext w w' :=
  (pints_any w).mono fun e w' ⟨h1, h2⟩ => ⟨h1, by rw [h2]; exact (Ext.refl w).alloc _⟩
theorem Row.all {w : World} {k : IntKind} {A : Option Addr} {n c : Nat} {l : List Int} (h : Row w k (.slice A n c) l) (hl : 0 < l.length) : ∃ b o, A = some ⟨b, o, none⟩ ∧ ∀ W, Ext w W → ∀ j, j < l.length → W.cell? ⟨b, o + j, none⟩ = some (.int k (gi l j)) := by
  obtain ⟨A', c', h1, h2, h3, h4, h5, h6⟩ := h
  obtain ⟨b, o, rfl, hb, hc⟩ := h6 hl
  injection h1 with e1 e2 e3
  subst e1
  exact ⟨b, o, rfl, fun W e j hj => (e.cell (p := ⟨b, o + j, none⟩) hb).trans (hc j hj)⟩
theorem keysP_no {x : In} (hz : shapeZ x.o = 7) (hl : x.ks.length + 1 = x.to.length) {k : Nat} (hk : k < x.ks.length) (h : ¬ (isInt (gi x.ks k) = true ∧ (0 < k → gi x.ks (k - 1) < gi x.ks k))) : keysP x = false := by
  unfold keysP
  rw [if_pos hz, decide_eq_true hl, Bool.true_and, Bool.eq_false_iff]
  intro hr
  exact h ((rise_iff _).1 hr k hk)
theorem keysP_yes {x : In} (hz : shapeZ x.o = 7) (hl : x.ks.length + 1 = x.to.length) (h : UpTo x.ks x.ks.length) : keysP x = true := by
  unfold keysP
  rw [if_pos hz, decide_eq_true hl, Bool.true_and]
  exact (rise_iff _).2 h
theorem keysP_len {x : In} (hz : shapeZ x.o = 7) (hl : ¬ x.ks.length + 1 = x.to.length) : keysP x = false := by
  unfold keysP
  rw [if_pos hz, decide_eq_false hl, Bool.false_and]
set_option maxHeartbeats 4000000 in
theorem keysMay_any (x : In) (v1 v2 : Value) (w : World) (h1 : Row w .i64 v1 x.to) (h2 : Row w .i64 v2 x.ks) :
    Calls Try.prog 49 #[.agg (x.vals v1 v2)] w fun e w' => e = .returned (.bool (keysP x)) ∧ Ext w w' := by
  have H2 := Lib.hid h2
  obtain ⟨A1, c1, rfl, hc1, hm1, -⟩ := h1
  obtain ⟨A2, c2, rfl, hc2, hm2, -⟩ := h2
  unfold maxLen at hm1 hm2
  have HB := Lib.hid (fun W e => boxed (w := w) (W := W) (x := x) (v1 := .slice A1 x.to.length c1) (v2 := .slice A2 x.ks.length c2) e)
  obtain ⟨d0, d1, d2, d3, d4, d5⟩ := HB.out _ (Ext.refl _)
  unfold In.vals at HB d0 d1 d2 d3 d4 d5 ⊢
  clear d0 d2 d3
  by_cases hz : shapeZ x.o = 7
  · have HZ := Lib.hid hz
    clear hz
    have ha : IntKind.i64.wrap ((x.to.length : Int) - 1) = x.to.length - 1 := by rw [IntKind.wrap_i64]; omega
    by_cases hl : x.ks.length + 1 = x.to.length
    · have HL := Lib.hid hl
      have hl2 : ((x.ks.length : Int) != (x.to.length : Int) - 1) = false := by simp; omega
      clear hl
      have HM := Lib.hid (And.intro hm1 hm2)
      go_enter Try.func49, Try.ntmps49
      go_wp2_with (first
        | (go_at_call 37; refine (Shape_any _ _).mono ?_; rintro e w1 ⟨rfl, x1⟩; rw [HZ.out]; obtain ⟨d10, d11, d12, d13, d14, d15⟩ := HB.out _ x1))
      clear d10 d11 d12 d13 d14 hl2 ha d1 d4 d5
      go_loopw [24] (fun i wr => ∃ k : Nat, k ≤ x.ks.length ∧ i = .int .i64 k ∧ Hid (Ext w1 wr) ∧ Hid (UpTo x.ks k)) (fun i _ => x.ks.length - (intOf i).toNat)
      case atStart => exact ⟨0, by omega, rfl, Lib.hid (Ext.refl w1), Lib.hid (fun j hj => by omega)⟩
      case round =>
        obtain ⟨k, hk, rfl, HX, HU⟩ := hrel
        by_cases hlt : k < x.ks.length
        · obtain ⟨b1, o1, rfl, hat⟩ := H2.out.all (by omega)
          have HAT := Lib.hid hat
          have y0 := hat _ ((((Ext.refl w).alloc _).trans x1).trans HX.out) k (by omega)
          obtain ⟨d20, d21, d22, d23, d24, d25⟩ := HB.out _ (x1.trans HX.out)
          clear hat d15 d20 d21 d22 d23 d24
          by_cases he : inR (-2147483648) 2147483647 (gi x.ks k) = true
          · have HE := Lib.hid he
            clear he
            match k, hk, hlt with
            | 0, hk, hlt =>
              rw [Nat.add_zero] at y0
              go_wp2_with (first
                | (go_at_call 57; refine (pints_ext3 _).mono ?_; rintro e w2 ⟨rfl, x2⟩)
                | (go_at_call 45; refine (has_any _ _ _ _).mono ?_; rintro e w3 ⟨rfl, x3⟩; rw [HE.out]))
              go_roundw
              case rel => exact ⟨1, by omega, by go_num, Lib.hid ((HX.out.trans x2).trans x3), Lib.hid (HU.out.next HE.out (fun h => by omega))⟩
              case measure => simp [intOf]; omega
            | j + 1, hk, hlt =>
              have hj : IntKind.i64.wrap (((j + 1 : Nat) : Int) - 1) = j := by rw [IntKind.wrap_i64]; have := HM.out; omega
              by_cases hr : gi x.ks j < gi x.ks (j + 1)
              · have hr2 : ¬ gi x.ks (j + 1) ≤ gi x.ks j := by omega
                go_wp2_with (first
                  | (go_at_call 57; refine (pints_ext3 _).mono ?_; rintro e w2 ⟨rfl, x2⟩)
                  | (go_at_call 45; refine (has_any _ _ _ _).mono ?_; rintro e w3 ⟨rfl, x3⟩; rw [HE.out]; have X3 := (HX.out.trans x2).trans x3; have y3 := HAT.out _ (((Ext.refl w).alloc _).trans (x1.trans X3)) j (by omega); obtain ⟨d30, d31, d32, d33, d34, d35⟩ := HB.out _ (x1.trans X3)))
                go_roundw
                case rel => exact ⟨j + 1 + 1, by omega, by go_num, Lib.hid X3, Lib.hid (HU.out.next HE.out (fun _ => by simpa using hr))⟩
                case measure => simp [intOf]; omega
              · have hr2 : gi x.ks (j + 1) ≤ gi x.ks j := by omega
                have HR := Lib.hid hr
                go_wp2_with (first
                  | (go_at_call 57; refine (pints_ext3 _).mono ?_; rintro e w2 ⟨rfl, x2⟩)
                  | (go_at_call 45; refine (has_any _ _ _ _).mono ?_; rintro e w3 ⟨rfl, x3⟩; rw [HE.out]; have X3 := (HX.out.trans x2).trans x3; have y3 := HAT.out _ (((Ext.refl w).alloc _).trans (x1.trans X3)) j (by omega); obtain ⟨d30, d31, d32, d33, d34, d35⟩ := HB.out _ (x1.trans X3)))
                go_ret
                refine ⟨ret_bb (keysP_no HZ.out HL.out hlt (fun h => ?_)).symm, ((Ext.refl w).alloc _).trans (x1.trans X3)⟩
                have h3 : gi x.ks j < gi x.ks (j + 1) := by simpa using h.2 (by omega)
                have h4 := HR.out
                omega
          · have HE := Lib.hid (show inR (-2147483648) 2147483647 (gi x.ks k) = false by simpa using he)
            clear he
            go_wp2_with (first
              | (go_at_call 57; refine (pints_ext3 _).mono ?_; rintro e w2 ⟨rfl, x2⟩)
              | (go_at_call 45; refine (has_any _ _ _ _).mono ?_; rintro e w3 ⟨rfl, x3⟩; rw [HE.out]))
            go_ret
            refine ⟨ret_bb (keysP_no HZ.out HL.out hlt (fun h => ?_)).symm, ((Ext.refl w).alloc _).trans (x1.trans ((HX.out.trans x2).trans x3))⟩
            have h1 := h.1
            rw [← inR_isInt, HE.out] at h1
            cases h1
        · obtain rfl : k = x.ks.length := by omega
          go_wp2
          go_ret
          exact ⟨ret_bb (keysP_yes HZ.out HL.out HU.out).symm, ((Ext.refl w).alloc _).trans (x1.trans HX.out)⟩
    · have HL := Lib.hid hl
      have hl2 : ((x.ks.length : Int) != (x.to.length : Int) - 1) = true := by simp; omega
      clear hl
      go_enter Try.func49, Try.ntmps49
      go_wp2_with (first
        | (go_at_call 37; refine (Shape_any _ _).mono ?_; rintro e w1 ⟨rfl, x1⟩; rw [HZ.out]; obtain ⟨d10, d11, d12, d13, d14, d15⟩ := HB.out _ x1))
      go_ret
      exact ⟨ret_bb (keysP_len HZ.out HL.out).symm, ((Ext.refl w).alloc _).trans x1⟩
  · have HZ := Lib.hid hz
    have hzb : (shapeZ x.o != 7) = true := by simpa using hz
    clear hz
    go_enter Try.func49, Try.ntmps49
    go_wp2_with (first
      | (go_at_call 37; refine (Shape_any _ _).mono ?_; rintro e w1 ⟨rfl, x1⟩; obtain ⟨d10, d11, d12, d13, d14, d15⟩ := HB.out _ x1))
    go_ret
    refine ⟨ret_bb ?_, ((Ext.refl w).alloc _).trans x1⟩
    unfold keysP
    rw [if_neg HZ.out]
    cases x.ks <;> simp
    try omega
end Go.Proofs.Ythobicnhophdlaa
