/- The walks of package leb. -/
import Derived.Test.YtdjfdigaokokbaaEq
import Derived.Test.YtdjfdigaokokbaaLebSpec
namespace Go.Proofs.Ytdjfdigaokokbaa
open Go.RowKit
set_option linter.unusedVariables false

theorem above_any (d wy : Int) (w : World) (h0 : 0 ≤ d) (h1 : d ≤ 255) (hw : wy = 1 ∨ wy = 2 ∨ wy = 3 ∨ wy = 4) :
    Calls Try.prog 43 #[.int .u8 d, .int .i64 wy] w fun e w' => e = .returned (.int .i64 (ab wy d)) ∧ w = w' := by
  rcases hw with rfl | rfl | rfl | rfl
  all_goals
    go_enter Try.func43, Try.ntmps43
    go_wp2
    go_ret
    refine ⟨congrArg (fun x : Int => Ending.returned (.int .i64 x)) ?_, rfl⟩
    simp [ab]
    try omega

theorem digits_any (n wy : Int) (w : World) (h : InB wy 9 n) (hl : -9223372036854775808 ≤ n) (hh : n ≤ 9223372036854775807) :
    Calls Try.prog 36 #[.int .i64 n, .int .i64 wy] w (Ret w (fun v' w' => Own w.heap.size w' 5 .u8 v' (dg wy 10 n))) := by
  go_enter Try.func36, Try.ntmps36
  go_wp2_with fail
  refine wp_scope_again 0 (fun a' w' => ∃ (f : Nat) (m : Int) (pre : List Int) (v u6 u7 u8 u9 u10 u11 u12 u13 u14 u15 u16 u17 u18 u19 u20 u21 u22 u23 u24 u25 : Value), a' = { tmps := #[.int .i64 m, .int .i64 wy, undef, undef, .slice none 0 0, v, u6, u7, u8, u9, u10, u11, u12, u13, u14, u15, u16, u17, u18, u19, u20, u21, u22, u23, u24, u25], defers := [] } ∧ Ext w w' ∧ Own w.heap.size w' 5 .u8 v pre ∧ f ≤ 9 ∧ pre.length + f = 9 ∧ InB wy f m ∧ Hid (dg wy 10 n = pre ++ dg wy (f + 1) m)) (fun a' _ => mag (a'.tmps.getD 0 undef)) rfl ?_ ?_
  · rintro a' w' ⟨f, m, pre, v, u6, u7, u8, u9, u10, u11, u12, u13, u14, u15, u16, u17, u18, u19, u20, u21, u22, u23, u24, u25, rfl, he, ho, hf, hpl, hb, HD⟩
    go_wp2_with fail
    have hd : 0 ≤ m % 128 ∧ m % 128 ≤ 255 := by omega
    have hwy : wy = 1 ∨ wy = 2 ∨ wy = 3 ∨ wy = 4 := by have := hb.2.2; omega
    have hm := hb.bound hf
    have ha := and127
    have ho128 := or128 (m % 128) (by omega) (by omega)
    have h256 : m % 128 % 256 = m % 128 := by omega
    have Hpl := Lib.hid hpl
    have hpl2 : pre.length ≤ 9 := by omega
    clear hpl
    by_cases hc : m / 128 = ab wy (m % 128)
    · have hcb : (m / 128 == ab wy (m % 128)) = true := by simpa using hc
      have Hc := Lib.hid hc
      clear hc ho128
      go_wp2_with (first
        | (go_at_call 43; refine (above_any _ _ _ (by omega) (by omega) (by omega)).mono ?_; rintro e w1 ⟨rfl, rfl⟩)
        | (at_builtin; go_loud (refine wpList_app _ rfl _ _ w.heap.size 22 5 _ 1 .u8 rfl Try.underlying22 info8 rfl (by omega) _ pre rfl (ho.ext ((Ext.refl _).alloc _)) _ [m % 128] rfl (Row.built1 _ _ _ _ (wf_u8 (by omega) (by omega))) (by simp; omega) (by have := he.size; simp; omega) ?_)))
      intro v' w2 ho2 hg2 _
      go_wp2
      simp only [Exit.jump]
      go_ret
      refine Ret.mk ?_ ((he.alloc _).grown hg2 ho.low)
      rw [HD.out, dg_last f Hc.out]
      exact ho2
    · have hcb : (m / 128 == ab wy (m % 128)) = false := by simpa using hc
      have Hc := Lib.hid hc
      clear hc
      have hf1 : ¬ f = 0 := by
        intro h0
        subst h0
        exact Hc.out hb.last
      go_wp2_with (first
        | (go_at_call 43; refine (above_any _ _ _ (by omega) (by omega) (by omega)).mono ?_; rintro e w1 ⟨rfl, rfl⟩)
        | (at_builtin; go_loud (refine wpList_app _ rfl _ _ w.heap.size 22 5 _ 1 .u8 rfl Try.underlying22 info8 rfl (by omega) _ pre rfl (ho.ext ((Ext.refl _).alloc _)) _ [m % 128 + 128] rfl (Row.built1 _ _ _ _ (wf_u8 (by omega) (by omega))) (by simp; omega) (by have := he.size; simp; omega) ?_)))
      intro v' w2 ho2 hg2 _
      go_wp2
      go_step3
      obtain ⟨f', rfl⟩ : ∃ f', f = f' + 1 := ⟨f - 1, by omega⟩
      refine ⟨rfl, ⟨f', m / 128, pre ++ [m % 128 + 128], _, _, _, _, _, _, _, _, _, _, _, _, _, _, _, _, _, _, _, _, _, rfl, (he.alloc _).grown hg2 ho.low, ho2, by omega, ?_, hb.next, ?_⟩, ?_⟩
      · have := Hpl.out
        simp
        omega
      · have e := HD.out
        rw [dg_step _ Hc.out] at e
        rw [Hid, e]
        simp
      · exact mag_lt hb Hc.out
  · intro key
    go_wp2_with fail
    rename_i K hK
    go_step3
    refine hK _ _ (key _ _ ⟨9, n, [], _, _, _, _, _, _, _, _, _, _, _, _, _, _, _, _, _, _, _, _, _, rfl, Ext.refl _, Own.nil _ _ _ _, by omega, rfl, h, rfl⟩)

theorem S_any (n : Int) (w : World) (hl : -9223372036854775808 ≤ n) (hh : n ≤ 9223372036854775807) :
    Calls Try.prog 15 #[.int .i64 n] w (Ret w (fun v' w' => Own w.heap.size w' 5 .u8 v' (dg 2 10 n))) := by
  go_enter Try.func15, Try.ntmps15
  go_wp2_with (go_at_call 36; refine (digits_any n 2 _ (InB.start hl hh (.inl rfl)) hl hh).mono ?_; rintro e w' ⟨v', rfl, ho, he⟩)
  go_ret
  exact Ret.mk ho he

/-- A row of bytes and an error's number. -/
def RowErr (w : World) (l : List Int) (x : Int) (v : Value) (w' : World) : Prop := ∃ b, v = .tuple #[b, .int .i64 x] ∧ Own w.heap.size w' 5 .u8 b l



theorem U_any (n : Int) (w : World) (hl : -9223372036854775808 ≤ n) (hh : n ≤ 9223372036854775807) :
    Calls Try.prog 13 #[.int .i64 n] w (Ret w (RowErr w (uS n).1 (uS n).2)) := by
  by_cases h0 : n < 0
  · have e : uS n = ([], 9) := by unfold uS; rw [if_pos (.inl h0)]
    rw [e]
    clear e
    go_enter Try.func13, Try.ntmps13
    go_wp2
    go_ret2
    exact Ret.mk ⟨_, rfl, Own.nil _ _ _ _⟩ (Ext.refl _)
  · by_cases h1 : 9007199254740991 < n
    · have e : uS n = ([], 9) := by unfold uS; rw [if_pos (.inr h1)]
      rw [e]
      clear e
      go_enter Try.func13, Try.ntmps13
      go_wp2
      go_ret2
      exact Ret.mk ⟨_, rfl, Own.nil _ _ _ _⟩ (Ext.refl _)
    · have e : uS n = (dg 1 10 n, 0) := by unfold uS; rw [if_neg (by omega)]
      rw [e]
      clear e
      go_enter Try.func13, Try.ntmps13
      go_wp2_with (go_at_call 36; refine (digits_any n 1 _ (InB.start hl hh (.inr ⟨rfl, by omega⟩)) hl hh).mono ?_; rintro e w' ⟨v', rfl, ho, he⟩)
      go_ret2
      exact Ret.mk ⟨_, rfl, ho⟩ he

theorem span_any (v : Value) (l : List Int) (most : Nat) (w : World) (h : Row w .u8 v l) (hm : most ≤ 10) :
    Calls Try.prog 44 #[v, .int .i64 most] w fun e w' => e = .returned (.tuple #[.int .i64 (spn most l).1, .int .i64 (spn most l).2]) ∧ w = w' := by
  obtain ⟨A, c, rfl, h2, h3, h4, h5, h6⟩ := h
  unfold maxLen at h3
  go_enter Try.func44, Try.ntmps44
  go_wp2_with fail
  refine wp_scope_again 0 (fun a' w' => ∃ (k : Nat) (u7 u8 u9 u10 u11 u12 u13 u14 u15 u16 u17 u18 u19 u20 u21 u22 : Value), a' = { tmps := #[.slice A l.length c, .int .i64 most, undef, undef, .int .i64 0, .int .i64 0, .int .i64 k, u7, u8, u9, u10, u11, u12, u13, u14, u15, u16, u17, u18, u19, u20, u21, u22], defers := [] } ∧ w = w' ∧ k ≤ most ∧ k ≤ l.length ∧ Hid (∀ j, j < k → 128 ≤ gi l j)) (fun a' _ => 10 - (intOf (a'.tmps.getD 6 undef)).toNat) rfl ?_ ?_
  · rintro a' w' ⟨k, u7, u8, u9, u10, u11, u12, u13, u14, u15, u16, u17, u18, u19, u20, u21, u22, rfl, rfl, hk, hkl, HG⟩
    by_cases hkm : k = most
    · subst hkm
      go_wp2
      simp only [Exit.jump]
      go_ret2
      rw [spn_most hkl HG.out]
      exact ⟨rfl, rfl⟩
    · have hb1 : ((k : Int) == (most : Int)) = false := by simp; omega
      by_cases hkn : k = l.length
      · have hb2 : ((k : Int) == (l.length : Int)) = true := by simp; omega
        have Hkn := Lib.hid hkn
        clear hkn
        go_wp2
        simp only [Exit.jump]
        go_ret2
        rw [spn_end (l := l) (most := most) (by have := Hkn.out; omega) (by rw [← Hkn.out]; exact HG.out)]
        exact ⟨rfl, rfl⟩
      · have hb2 : ((k : Int) == (l.length : Int)) = false := by simp; omega
        obtain ⟨b, o, rfl, hb, hx⟩ := h6 (by omega)
        have hy := hx k (by omega)
        have hfit := h5.u8 (gi_mem (l := l) (j := k) (by omega))
        have hkm' : k < most := by omega
        have hkn' : k < l.length := by omega
        clear hx h6 h4 hkm hkn
        by_cases hc : gi l k < 128
        · go_wp2
          simp only [Exit.jump]
          go_ret2
          rw [spn_ok hkn' hkm' HG.out hc]
          exact ⟨rfl, rfl⟩
        · go_wp2
          go_step3
          refine ⟨rfl, ⟨k + 1, _, _, _, _, _, _, _, _, _, _, _, _, _, _, _, _, by go_num, rfl, by omega, by omega, ?_⟩, ?_⟩
          · intro j hj
            by_cases hjk : j = k
            · subst hjk
              omega
            · exact HG.out j (by omega)
          · simp [intOf]
            omega
  · intro key
    go_wp2_with fail
    rename_i K hK
    go_step3
    exact hK _ _ (key _ _ ⟨0, _, _, _, _, _, _, _, _, _, _, _, _, _, _, _, _, rfl, rfl, by omega, by omega, fun j hj => by omega⟩)

theorem worth_any (v : Value) (l : List Int) (wy : Int) (w : World) (h : Row w .u8 v l) (hl : 0 < l.length) (hw : wy = 1 ∨ wy = 2 ∨ wy = 3 ∨ wy = 4) :
    Calls Try.prog 45 #[v, .int .i64 wy] w fun e w' => e = .returned (.int .i64 (wo wy l)) ∧ w = w' := by
  obtain ⟨A, c, rfl, h2, h3, h4, h5, h6⟩ := h
  unfold maxLen at h3
  obtain ⟨b, o, rfl, hb, hx⟩ := h6 hl
  have hlast := hx (l.length - 1) (by omega)
  have hfl := h5.u8 (gi_mem (l := l) (j := l.length - 1) (by omega))
  have HX := Lib.hid hx
  clear h6 h4 hx
  have hle : 1 ≤ l.length := hl
  have eix : ((l.length : Int) - 1).toNat = l.length - 1 := by omega
  go_enter Try.func45, Try.ntmps45
  go_wp2_with fail
  refine wp_scope_again 0 (fun a' w' => ∃ (k : Nat) (x : Int) (u7 u8 u9 u10 u11 u12 u13 u14 u15 u16 u17 u18 u19 u20 u21 u22 u23 u24 u25 u26 u27 u28 u29 : Value), a' = { tmps := #[.slice (some ⟨b, o, none⟩) l.length c, .int .i64 wy, undef, undef, .int .i64 0, .int .i64 k, .int .i64 x, u7, u8, u9, u10, u11, u12, u13, u14, u15, u16, u17, u18, u19, u20, u21, u22, u23, u24, u25, u26, u27, u28, u29], defers := [] } ∧ w = w' ∧ 0 < k ∧ k ≤ l.length ∧ Hid (x = wof (ab wy (gi l (l.length - 1))) (l.drop k))) (fun a' _ => (intOf (a'.tmps.getD 5 undef)).toNat) rfl ?_ ?_
  · rintro a' w' ⟨k, x, u7, u8, u9, u10, u11, u12, u13, u14, u15, u16, u17, u18, u19, u20, u21, u22, u23, u24, u25, u26, u27, u28, u29, rfl, rfl, hk, hkl, HO⟩
    obtain ⟨j, rfl⟩ : ∃ j, k = j + 1 := ⟨k - 1, by omega⟩
    have hy := HX.out j (by omega)
    have hf := h5.u8 (gi_mem (l := l) (j := j) (by omega))
    have hsh := or_shift x (gi l j % 128) (by omega) (by omega)
    have HN : Hid (wrap64 (x * 128 + gi l j % 128) = wof (ab wy (gi l (l.length - 1))) (l.drop j)) := by
      rw [Hid, wof_drop (l := l) (k := j) _ (by omega), ← HO.out, IntWalk.i64_left]
    rw [IntWalk.i64_left] at hsh
    have hand := and127u8 (gi l j) (by omega) (by omega)
    clear hlast eix
    by_cases hj0 : 0 < j
    · go_wp2
      go_step3
      refine ⟨rfl, ⟨j, _, _, _, _, _, _, _, _, _, _, _, _, _, _, _, _, _, _, _, _, _, _, _, _, rfl, rfl, by omega, by omega, HN⟩, by simp [intOf]⟩
    · have hj1 : j = 0 := by omega
      have hj2 : (0 < (j : Int)) = False := by simp; omega
      have Hj := Lib.hid hj1
      clear hj1
      go_wp2
      simp only [Exit.jump]
      go_ret
      have e := Hj.out
      subst e
      exact ⟨congrArg (fun z : Int => Ending.returned (.int .i64 z)) HN.out, rfl⟩
  · intro key
    go_wp2_with (go_at_call 43; refine (above_any _ _ _ (by omega) (by omega) (by omega)).mono ?_; rintro e w1 ⟨rfl, rfl⟩)
    rename_i K hK
    go_step3
    refine hK _ _ (key _ _ ⟨l.length, _, _, _, _, _, _, _, _, _, _, _, _, _, _, _, _, _, _, _, _, _, _, _, _, rfl, rfl, by omega, by omega, ?_⟩)
    rw [Hid, List.drop_length]
    rfl
end Go.Proofs.Ytdjfdigaokokbaa
