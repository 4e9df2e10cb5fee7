/- Several texts of this proof, one behind the other. -/
import Derived.Test.YtokmeomjdpfknaaGreatDoorZbA
import Derived.Test.YtokmeomjdpfknaaGreatDoorZbB
import Derived.OwnWalk
import Derived.Laws.MakeOwn
namespace Go.Proofs.YtokmeomjdpfknaaGreatDoor
open Go.RowKit
set_option linter.unusedVariables false

theorem bring_any (i n : Int) (w : World) (hl : -9223372036854775808 ≤ i) (hh : i ≤ 9223372036854775807) (hl' : -9223372036854775808 ≤ n) (hh' : n ≤ 9223372036854775807) :
    Calls Tryz.prog 23 #[.int .i64 i, .int .i64 n] w fun e w' => e = .returned (.int .i64 (bring i n)) ∧ w = w' := by
  by_cases hn : n ≤ 0
  · have e : bring i n = 0 := by unfold bring; rw [if_pos hn]
    rw [e]
    clear e
    go_enter Tryz.func23, Tryz.ntmps23
    go_wp2
    go_ret
    exact ⟨rfl, rfl⟩
  · have hn1 : 0 < n := by omega
    rw [bring_pos i hn1]
    by_cases h0 : 0 ≤ i
    · have hm : 0 ≤ i % n := Int.emod_nonneg i (by omega)
      go_enter Tryz.func23, Tryz.ntmps23
      go_wp2
      go_ret
      exact ⟨rfl, rfl⟩
    · obtain ⟨ht, hb1, hb2⟩ := tmod_neg (i := i) (by omega) hn1
      have hm := Int.emod_nonneg i (show n ≠ 0 by omega)
      have hm2 := Int.emod_lt_of_pos i hn1
      by_cases hz : i.tmod n < 0
      · have e : i % n = i.tmod n + n := by omega
        rw [e]
        clear e ht
        go_enter Tryz.func23, Tryz.ntmps23
        go_wp2
        go_ret
        exact ⟨rfl, rfl⟩
      · have e : i % n = i.tmod n := by omega
        rw [e]
        clear e ht
        go_enter Tryz.func23, Tryz.ntmps23
        go_wp2
        go_ret
        exact ⟨rfl, rfl⟩

def RetB (w : World) (b : Bool) (e : Ending) (w' : World) : Prop := e = .returned (.bool b) ∧ Ext w w'
end Go.Proofs.YtokmeomjdpfknaaGreatDoor
namespace Go.Proofs.YtokmeomjdpfknaaGreatDoor
open Go.RowKit
set_option linter.unusedVariables false

theorem cut_zero {w : World} {k : IntKind} {A : Option Addr} {c : Nat} (hA : A = none → c = 0) (hc : c ≤ maxLen) : Row w k (.slice A 0 c) [] :=
  ⟨A, c, rfl, Nat.zero_le _, hc, hA, Fit.nil _, fun h => by simp at h⟩
theorem head_slice {w : World} {v : Value} {b : List Int} (h : Row w .u8 v b) (q : Nat) (hq : q ≤ b.length) :
    ∃ v2, (∀ W, (Instr.sliceAt 29 v none (some (.int .i64 q)) none).run Tryz.prog W = .ok v2 W) ∧ (∀ W, (Instr.slice 29 v none (some (.int .i64 q)) none).run Tryz.prog W = .ok v2 W) ∧ Row w .u8 v2 (b.take q) := by
  have hk := h
  obtain ⟨A, c, rfl, h2, h3, h4, h5, h6⟩ := h
  have k1 : ¬ c < q := by omega
  have k3 : q ≤ c := by omega
  by_cases hb : b.length = 0
  · have hq0 : q = 0 := by omega
    subst hq0
    have e : b = [] := List.eq_nil_of_length_eq_zero hb
    subst e
    by_cases hc : c = 0
    · subst hc
      exact ⟨.slice A 0 0, fun W => by go_simp, fun W => by go_simp, cut_zero (fun _ => rfl) h3⟩
    · obtain ⟨ad, rfl⟩ : ∃ ad, A = some ad := by
        cases A with
        | none => exact absurd (h4 rfl) hc
        | some ad => exact ⟨ad, rfl⟩
      exact ⟨.slice (some (ad.add 0)) 0 c, fun W => by go_simp, fun W => by go_simp, cut_zero (fun h => by cases h) h3⟩
  · obtain ⟨bl, o, rfl, h7, h8⟩ := h6 (by omega)
    have k2 : ¬ c = 0 := by omega
    clear h6 h8
    exact ⟨_, fun W => by go_simp, fun W => by go_simp, Row.head hk q hq⟩
def Typed (T : TypeId) (w : World) (v : Value) (l : List Int) : Prop := 0 < l.length → ∃ b o n c cur, v = .slice (some ⟨b, o, none⟩) n c ∧ w.heap[b]? = some (.cells cur T (0, 0))
theorem Typed.ext {T : TypeId} {w w' : World} {v : Value} {l : List Int} (h : Typed T w v l) (he : Ext w w') : Typed T w' v l := fun hl => by
  obtain ⟨b, o, n, c, cur, h1, h2⟩ := h hl
  exact ⟨b, o, n, c, cur, h1, (he.block b (lt_of_get h2)).trans h2⟩
theorem Own.typed {B : Nat} {w : World} {e : TypeId} {k : IntKind} {v : Value} {l : List Int} (h : Own B w e k v l) : Typed e w v l := fun hl => by
  obtain ⟨⟨h1, h2⟩, hf⟩ := h
  rcases h2 with ⟨_, h0⟩ | ⟨g, cap, cur, rfl, hb, hg, hn, hm, hs, ht⟩
  · omega
  · exact ⟨g, 0, _, cap, cur, rfl, hg⟩
theorem typed_nil (T : TypeId) (w : World) (v : Value) : Typed T w v [] := fun h => by simp at h
theorem tail_sliceT {w : World} {v : Value} {b : List Int} (h : Row w .u8 v b) (q : Nat) (hq : q ≤ b.length) :
    ∃ v2, (∀ W, (Instr.sliceAt 29 v (some (.int .i64 q)) none none).run Tryz.prog W = .ok v2 W) ∧ (∀ W, (Instr.slice 29 v (some (.int .i64 q)) none none).run Tryz.prog W = .ok v2 W) ∧ Row w .u8 v2 (b.drop q) ∧ ∀ T, Typed T w v b → Hid (Typed T w v2 (b.drop q)) := by
  have hk := h
  obtain ⟨A, c, rfl, h2, h3, h4, h5, h6⟩ := h
  have k1 : ¬ b.length < q := by omega
  have k3 : q ≤ c := by omega
  by_cases hc : c = q
  · have e : b.drop q = [] := List.drop_eq_nil_iff.2 (by omega)
    rw [e]
    have hlq : b.length = q := by omega
    have HE := Lib.hid e
    clear e
    subst hc
    rw [hlq] at *
    exact ⟨.slice A 0 0, fun W => by go_simp, fun W => by go_simp, cut_zero (fun _ => rfl) (by simp [maxLen]), fun T _ => typed_nil _ _ _⟩
  · have k4 : ¬ c = q := hc
    by_cases hb : b.length = 0
    · have hq0 : q = 0 := by omega
      subst hq0
      have e : b = [] := List.eq_nil_of_length_eq_zero hb
      subst e
      obtain ⟨ad, rfl⟩ : ∃ ad, A = some ad := by
        cases A with
        | none => exact absurd (h4 rfl) hc
        | some ad => exact ⟨ad, rfl⟩
      exact ⟨.slice (some (ad.add 0)) 0 c, fun W => by go_simp, fun W => by go_simp, cut_zero (fun h => by cases h) h3, fun T _ => typed_nil _ _ _⟩
    · obtain ⟨bl, o, rfl, h7, h8⟩ := h6 (by omega)
      clear h6 h8
      exact ⟨_, fun W => by go_simp, fun W => by go_simp, Row.tail hk q hq, fun T ht => fun _ => by
        obtain ⟨b1, o1, n1, c1, cur, e1, e2⟩ := ht (by omega)
        injection e1 with e1
        injection e1 with e1
        injection e1 with e1 e3
        subst e1
        exact ⟨_, _, _, _, cur, rfl, e2⟩⟩
theorem tail_slice {w : World} {v : Value} {b : List Int} (h : Row w .u8 v b) (q : Nat) (hq : q ≤ b.length) :
    ∃ v2, (∀ W, (Instr.sliceAt 29 v (some (.int .i64 q)) none none).run Tryz.prog W = .ok v2 W) ∧ (∀ W, (Instr.slice 29 v (some (.int .i64 q)) none none).run Tryz.prog W = .ok v2 W) ∧ Row w .u8 v2 (b.drop q) := by
  obtain ⟨v2, h1, h2, h3, _⟩ := tail_sliceT h q hq
  exact ⟨v2, h1, h2, h3⟩
end Go.Proofs.YtokmeomjdpfknaaGreatDoor
namespace Go.Proofs.YtokmeomjdpfknaaGreatDoor
open Go.RowKit

theorem clone_any (v : Value) (l : List Int) (w : World) (h : Row w .u8 v l) (hl : l.length ≤ 140737488355328) :
    Calls Tryz.prog 149 #[v] w (Ret w (fun v' w' => Own w.heap.size w' 5 .u8 v' l)) := by
  obtain ⟨A, c, rfl, h2, h3, h4, h5, h6⟩ := h
  have hq := fun (W : World) (A : Option Addr) (n c : Nat) => Lib.run_eql_slice_nil (P := Tryz.prog) W 29 5 A n c 0 0 Tryz.underlying29
  rcases A with _ | ad
  · have hc := h4 rfl
    have hl : l = [] := List.eq_nil_of_length_eq_zero (by omega)
    subst hl
    subst hc
    clear h6 h5 h4
    go_enter Tryz.func149, Tryz.ntmps149
    go_wp2
    go_ret
    exact Ret.mk (Own.nil _ _ _ _) (Ext.refl _)
  · have h : Row w .u8 (.slice (some ad) l.length c) l := ⟨_, _, rfl, h2, h3, h4, h5, h6⟩
    clear h6 h5 h4
    go_enter Tryz.func149, Tryz.ntmps149
    go_wp2_with (at_builtin; go_loud (refine wpList_app _ rfl _ _ w.heap.size 29 5 _ 1 .u8 rfl Tryz.underlying29 info8 rfl (by omega) _ [] rfl (Own.made _ _ _ _ (Nat.le_refl _)) _ l rfl ?hh (by simp; omega) (by simp) ?_))
    case hh => exact h.ext ((Ext.refl _).alloc _)
    intro v' w' ho hg _
    go_wp2
    go_ret
    exact Ret.mk (by simpa using ho) (((Ext.refl _).alloc _).grown hg (fun g hg => by simp [Value.ownBlock] at hg; omega))

end Go.Proofs.YtokmeomjdpfknaaGreatDoor
namespace Go.Proofs.YtokmeomjdpfknaaGreatDoor
open Go.RowKit
set_option linter.unusedVariables false

theorem above_anyP (d wy : Int) (w : World) (h0 : 0 ≤ d) (h1 : d ≤ 255) (hw : wy = 1 ∨ wy = 2 ∨ wy = 3 ∨ wy = 4) :
    Calls Tryz.prog 195 #[.int .u8 d, .int .i64 wy] w fun e w' => e = .returned (.int .i64 (ab wy d)) ∧ w = w' := by
  rcases hw with rfl | rfl | rfl | rfl
  all_goals
    go_enter Tryz.func195, Tryz.ntmps195
    go_wp2
    go_ret
    refine ⟨congrArg (fun x : Int => Ending.returned (.int .i64 x)) ?_, rfl⟩
    simp [ab]
    try omega

theorem digits_any (n wy : Int) (w : World) (h : InB wy 9 n) (hl : -9223372036854775808 ≤ n) (hh : n ≤ 9223372036854775807) :
    Calls Tryz.prog 163 #[.int .i64 n, .int .i64 wy] w (Ret w (fun v' w' => Own w.heap.size w' 5 .u8 v' (dg wy 10 n))) := by
  go_enter Tryz.func163, Tryz.ntmps163
  go_wp2_with fail
  refine wp_scope_again 0 (fun a' w' => ∃ (f : Nat) (m : Int) (pre : List Int) (v u6 u7 u8 u9 u10 u11 u12 u13 u14 u15 u16 u17 u18 u19 u20 u21 u22 u23 u24 u25 : Value), a' = { tmps := #[.int .i64 m, .int .i64 wy, undef, undef, .slice none 0 0, v, u6, u7, u8, u9, u10, u11, u12, u13, u14, u15, u16, u17, u18, u19, u20, u21, u22, u23, u24, u25], defers := [] } ∧ Ext w w' ∧ Own w.heap.size w' 5 .u8 v pre ∧ f ≤ 9 ∧ pre.length + f = 9 ∧ InB wy f m ∧ Hid (dg wy 10 n = pre ++ dg wy (f + 1) m)) (fun a' _ => mag (a'.tmps.getD 0 undef)) rfl ?_ ?_
  · rintro a' w' ⟨f, m, pre, v, u6, u7, u8, u9, u10, u11, u12, u13, u14, u15, u16, u17, u18, u19, u20, u21, u22, u23, u24, u25, rfl, he, ho, hf, hpl, hb, HD⟩
    go_wp2_with fail
    have hd : 0 ≤ m % 128 ∧ m % 128 ≤ 255 := by omega
    have hwy : wy = 1 ∨ wy = 2 ∨ wy = 3 ∨ wy = 4 := by have := hb.2.2; omega
    have hm := hb.bound hf
    have ha := and127
    have ho128 := or128 (m % 128) (by omega) (by omega)
    have h256 : m % 128 % 256 = m % 128 := by omega
    have Hpl := Lib.hid hpl
    have hpl2 : pre.length ≤ 9 := by omega
    clear hpl
    by_cases hc : m / 128 = ab wy (m % 128)
    · have hcb : (m / 128 == ab wy (m % 128)) = true := by simpa using hc
      have Hc := Lib.hid hc
      clear hc ho128
      go_wp2_with (first
        | (go_at_call 195; refine (above_anyP _ _ _ (by omega) (by omega) (by omega)).mono ?_; rintro e w1 ⟨rfl, rfl⟩)
        | (at_builtin; go_loud (refine wpList_app _ rfl _ _ w.heap.size 29 5 _ 1 .u8 rfl Tryz.underlying29 info8 rfl (by omega) _ pre rfl (ho.ext ((Ext.refl _).alloc _)) _ [m % 128] rfl (Row.built1 _ _ _ _ (wf_u8 (by omega) (by omega))) (by simp; omega) (by have := he.size; simp; omega) ?_)))
      intro v' w2 ho2 hg2 _
      go_wp2
      simp only [Exit.jump]
      go_ret
      refine Ret.mk ?_ ((he.alloc _).grown hg2 ho.low)
      rw [HD.out, dg_last f Hc.out]
      exact ho2
    · have hcb : (m / 128 == ab wy (m % 128)) = false := by simpa using hc
      have Hc := Lib.hid hc
      clear hc
      have hf1 : ¬ f = 0 := by
        intro h0
        subst h0
        exact Hc.out hb.last
      go_wp2_with (first
        | (go_at_call 195; refine (above_anyP _ _ _ (by omega) (by omega) (by omega)).mono ?_; rintro e w1 ⟨rfl, rfl⟩)
        | (at_builtin; go_loud (refine wpList_app _ rfl _ _ w.heap.size 29 5 _ 1 .u8 rfl Tryz.underlying29 info8 rfl (by omega) _ pre rfl (ho.ext ((Ext.refl _).alloc _)) _ [m % 128 + 128] rfl (Row.built1 _ _ _ _ (wf_u8 (by omega) (by omega))) (by simp; omega) (by have := he.size; simp; omega) ?_)))
      intro v' w2 ho2 hg2 _
      go_wp2
      go_step3
      obtain ⟨f', rfl⟩ : ∃ f', f = f' + 1 := ⟨f - 1, by omega⟩
      refine ⟨rfl, ⟨f', m / 128, pre ++ [m % 128 + 128], _, _, _, _, _, _, _, _, _, _, _, _, _, _, _, _, _, _, _, _, _, rfl, (he.alloc _).grown hg2 ho.low, ho2, by omega, ?_, hb.next, ?_⟩, ?_⟩
      · have := Hpl.out
        simp
        omega
      · have e := HD.out
        rw [dg_step _ Hc.out] at e
        rw [Hid, e]
        simp
      · exact mag_lt hb Hc.out
  · intro key
    go_wp2_with fail
    rename_i K hK
    go_step3
    refine hK _ _ (key _ _ ⟨9, n, [], _, _, _, _, _, _, _, _, _, _, _, _, _, _, _, _, _, _, _, _, _, rfl, Ext.refl _, Own.nil _ _ _ _, by omega, rfl, h, rfl⟩)

theorem S_any (n : Int) (w : World) (hl : -9223372036854775808 ≤ n) (hh : n ≤ 9223372036854775807) :
    Calls Tryz.prog 116 #[.int .i64 n] w (Ret w (fun v' w' => Own w.heap.size w' 5 .u8 v' (dg 2 10 n))) := by
  go_enter Tryz.func116, Tryz.ntmps116
  go_wp2_with (go_at_call 163; refine (digits_any n 2 _ (InB.start hl hh (.inl rfl)) hl hh).mono ?_; rintro e w' ⟨v', rfl, ho, he⟩)
  go_ret
  exact Ret.mk ho he

def RowErrP (w : World) (l : List Int) (x : Int) (v : Value) (w' : World) : Prop := ∃ b, v = .tuple #[b, .int .i64 x] ∧ Own w.heap.size w' 5 .u8 b l



theorem U_any (n : Int) (w : World) (hl : -9223372036854775808 ≤ n) (hh : n ≤ 9223372036854775807) :
    Calls Tryz.prog 114 #[.int .i64 n] w (Ret w (RowErrP w (uS n).1 (uS n).2)) := by
  by_cases h0 : n < 0
  · have e : uS n = ([], 9) := by unfold uS; rw [if_pos (.inl h0)]
    rw [e]
    clear e
    go_enter Tryz.func114, Tryz.ntmps114
    go_wp2
    go_ret2
    exact Ret.mk ⟨_, rfl, Own.nil _ _ _ _⟩ (Ext.refl _)
  · by_cases h1 : 9007199254740991 < n
    · have e : uS n = ([], 9) := by unfold uS; rw [if_pos (.inr h1)]
      rw [e]
      clear e
      go_enter Tryz.func114, Tryz.ntmps114
      go_wp2
      go_ret2
      exact Ret.mk ⟨_, rfl, Own.nil _ _ _ _⟩ (Ext.refl _)
    · have e : uS n = (dg 1 10 n, 0) := by unfold uS; rw [if_neg (by omega)]
      rw [e]
      clear e
      go_enter Tryz.func114, Tryz.ntmps114
      go_wp2_with (go_at_call 163; refine (digits_any n 1 _ (InB.start hl hh (.inr ⟨rfl, by omega⟩)) hl hh).mono ?_; rintro e w' ⟨v', rfl, ho, he⟩)
      go_ret2
      exact Ret.mk ⟨_, rfl, ho⟩ he

theorem span_any (v : Value) (l : List Int) (most : Nat) (w : World) (h : Row w .u8 v l) (hm : most ≤ 10) :
    Calls Tryz.prog 248 #[v, .int .i64 most] w fun e w' => e = .returned (.tuple #[.int .i64 (spn most l).1, .int .i64 (spn most l).2]) ∧ w = w' := by
  obtain ⟨A, c, rfl, h2, h3, h4, h5, h6⟩ := h
  unfold maxLen at h3
  go_enter Tryz.func248, Tryz.ntmps248
  go_wp2_with fail
  refine wp_scope_again 0 (fun a' w' => ∃ (k : Nat) (u7 u8 u9 u10 u11 u12 u13 u14 u15 u16 u17 u18 u19 u20 u21 u22 : Value), a' = { tmps := #[.slice A l.length c, .int .i64 most, undef, undef, .int .i64 0, .int .i64 0, .int .i64 k, u7, u8, u9, u10, u11, u12, u13, u14, u15, u16, u17, u18, u19, u20, u21, u22], defers := [] } ∧ w = w' ∧ k ≤ most ∧ k ≤ l.length ∧ Hid (∀ j, j < k → 128 ≤ gi l j)) (fun a' _ => 10 - (intOf (a'.tmps.getD 6 undef)).toNat) rfl ?_ ?_
  · rintro a' w' ⟨k, u7, u8, u9, u10, u11, u12, u13, u14, u15, u16, u17, u18, u19, u20, u21, u22, rfl, rfl, hk, hkl, HG⟩
    by_cases hkm : k = most
    · subst hkm
      go_wp2
      simp only [Exit.jump]
      go_ret2
      rw [spn_most hkl HG.out]
      exact ⟨rfl, rfl⟩
    · have hb1 : ((k : Int) == (most : Int)) = false := by simp; omega
      by_cases hkn : k = l.length
      · have hb2 : ((k : Int) == (l.length : Int)) = true := by simp; omega
        have Hkn := Lib.hid hkn
        clear hkn
        go_wp2
        simp only [Exit.jump]
        go_ret2
        rw [spn_end (l := l) (most := most) (by have := Hkn.out; omega) (by rw [← Hkn.out]; exact HG.out)]
        exact ⟨rfl, rfl⟩
      · have hb2 : ((k : Int) == (l.length : Int)) = false := by simp; omega
        obtain ⟨b, o, rfl, hb, hx⟩ := h6 (by omega)
        have hy := hx k (by omega)
        have hfit := h5.u8 (gi_mem (l := l) (j := k) (by omega))
        have hkm' : k < most := by omega
        have hkn' : k < l.length := by omega
        clear hx h6 h4 hkm hkn
        by_cases hc : gi l k < 128
        · go_wp2
          simp only [Exit.jump]
          go_ret2
          rw [spn_ok hkn' hkm' HG.out hc]
          exact ⟨rfl, rfl⟩
        · go_wp2
          go_step3
          refine ⟨rfl, ⟨k + 1, _, _, _, _, _, _, _, _, _, _, _, _, _, _, _, _, by go_num, rfl, by omega, by omega, ?_⟩, ?_⟩
          · intro j hj
            by_cases hjk : j = k
            · subst hjk
              omega
            · exact HG.out j (by omega)
          · simp [intOf]
            omega
  · intro key
    go_wp2_with fail
    rename_i K hK
    go_step3
    exact hK _ _ (key _ _ ⟨0, _, _, _, _, _, _, _, _, _, _, _, _, _, _, _, _, rfl, rfl, by omega, by omega, fun j hj => by omega⟩)

theorem worth_any (v : Value) (l : List Int) (wy : Int) (w : World) (h : Row w .u8 v l) (hl : 0 < l.length) (hw : wy = 1 ∨ wy = 2 ∨ wy = 3 ∨ wy = 4) :
    Calls Tryz.prog 249 #[v, .int .i64 wy] w fun e w' => e = .returned (.int .i64 (wo wy l)) ∧ w = w' := by
  obtain ⟨A, c, rfl, h2, h3, h4, h5, h6⟩ := h
  unfold maxLen at h3
  obtain ⟨b, o, rfl, hb, hx⟩ := h6 hl
  have hlast := hx (l.length - 1) (by omega)
  have hfl := h5.u8 (gi_mem (l := l) (j := l.length - 1) (by omega))
  have HX := Lib.hid hx
  clear h6 h4 hx
  have hle : 1 ≤ l.length := hl
  have eix : ((l.length : Int) - 1).toNat = l.length - 1 := by omega
  go_enter Tryz.func249, Tryz.ntmps249
  go_wp2_with fail
  refine wp_scope_again 0 (fun a' w' => ∃ (k : Nat) (x : Int) (u7 u8 u9 u10 u11 u12 u13 u14 u15 u16 u17 u18 u19 u20 u21 u22 u23 u24 u25 u26 u27 u28 u29 : Value), a' = { tmps := #[.slice (some ⟨b, o, none⟩) l.length c, .int .i64 wy, undef, undef, .int .i64 0, .int .i64 k, .int .i64 x, u7, u8, u9, u10, u11, u12, u13, u14, u15, u16, u17, u18, u19, u20, u21, u22, u23, u24, u25, u26, u27, u28, u29], defers := [] } ∧ w = w' ∧ 0 < k ∧ k ≤ l.length ∧ Hid (x = wof (ab wy (gi l (l.length - 1))) (l.drop k))) (fun a' _ => (intOf (a'.tmps.getD 5 undef)).toNat) rfl ?_ ?_
  · rintro a' w' ⟨k, x, u7, u8, u9, u10, u11, u12, u13, u14, u15, u16, u17, u18, u19, u20, u21, u22, u23, u24, u25, u26, u27, u28, u29, rfl, rfl, hk, hkl, HO⟩
    obtain ⟨j, rfl⟩ : ∃ j, k = j + 1 := ⟨k - 1, by omega⟩
    have hy := HX.out j (by omega)
    have hf := h5.u8 (gi_mem (l := l) (j := j) (by omega))
    have hsh := or_shift x (gi l j % 128) (by omega) (by omega)
    have HN : Hid (wrap64 (x * 128 + gi l j % 128) = wof (ab wy (gi l (l.length - 1))) (l.drop j)) := by
      rw [Hid, wof_drop (l := l) (k := j) _ (by omega), ← HO.out, IntWalk.i64_left]
    rw [IntWalk.i64_left] at hsh
    have hand := and127u8 (gi l j) (by omega) (by omega)
    clear hlast eix
    by_cases hj0 : 0 < j
    · go_wp2
      go_step3
      refine ⟨rfl, ⟨j, _, _, _, _, _, _, _, _, _, _, _, _, _, _, _, _, _, _, _, _, _, _, _, _, rfl, rfl, by omega, by omega, HN⟩, by simp [intOf]⟩
    · have hj1 : j = 0 := by omega
      have hj2 : (0 < (j : Int)) = False := by simp; omega
      have Hj := Lib.hid hj1
      clear hj1
      go_wp2
      simp only [Exit.jump]
      go_ret
      have e := Hj.out
      subst e
      exact ⟨congrArg (fun z : Int => Ending.returned (.int .i64 z)) HN.out, rfl⟩
  · intro key
    go_wp2_with (go_at_call 195; refine (above_anyP _ _ _ (by omega) (by omega) (by omega)).mono ?_; rintro e w1 ⟨rfl, rfl⟩)
    rename_i K hK
    go_step3
    refine hK _ _ (key _ _ ⟨l.length, _, _, _, _, _, _, _, _, _, _, _, _, _, _, _, _, _, _, _, _, _, _, _, _, rfl, rfl, by omega, by omega, ?_⟩)
    rw [Hid, List.drop_length]
    rfl
end Go.Proofs.YtokmeomjdpfknaaGreatDoor
namespace Go.Proofs.YtokmeomjdpfknaaGreatDoor
open Go.RowKit
set_option linter.unusedVariables false

def RowTakeP (w : World) (r : Int × List Int × Int) (v : Value) (w' : World) : Prop := ∃ b, v = .tuple #[.int .i64 r.1, b, .int .i64 r.2.2] ∧ Own w.heap.size w' 5 .u8 b r.2.1

set_option maxHeartbeats 1000000 in
theorem takeShort_any (v : Value) (l : List Int) (most : Nat) (wy : Int) (w : World) (h : Row w .u8 v l) (hw : wy = 1 ∧ most = 8 ∨ wy = 2 ∧ most = 10) (hr : l.length ≤ 140737488355328) :
    Calls Tryz.prog 223 #[v, .int .i64 most, .int .i64 wy] w (Ret w (RowTakeP w (tS most wy l))) := by
  by_cases hs : (spn most l).2 = 0
  · obtain ⟨hsp, hk1, hk2⟩ := spn_zero hs
    have hrow := h
    obtain ⟨A, c, rfl, h2, h3, h4, h5, h6⟩ := h
    unfold maxLen at h3
    obtain ⟨b, o, rfl, hb, hx⟩ := h6 (by omega)
    have HS := Lib.hid hsp
    obtain ⟨k, hk⟩ : ∃ k, k = fb l := ⟨_, rfl⟩
    rw [← hk] at hk1 hk2 HS
    have Hk := Lib.hid hk
    have hhead := hrow.head (k + 1) (by omega)
    have HT := Lib.hid hs
    have hle : k + 1 ≤ l.length := by omega
    clear hs hsp hx h6 h4 hk
    have hn0 : (k : Int) + 1 ≤ (l.length : Int) := by omega
    have htl : (l.take (k + 1)).length = k + 1 := by simp; omega
    have hwb := wo_bound wy (l.take (k + 1)) (by omega) (h5.take _)
    have hin : InB wy 9 (wo wy (l.take (k + 1))) := by
      refine InB.start hwb.1 hwb.2 ?_
      rcases hw with ⟨rfl, hm⟩ | ⟨rfl, hm⟩
      · exact .inr ⟨rfl, (wo_one _ (by omega)).1⟩
      · exact .inl rfl
    have hwy : wy = 1 ∨ wy = 2 ∨ wy = 3 ∨ wy = 4 := by omega
    have htS : tS most wy l = if l.take (k + 1) = dg wy 10 (wo wy (l.take (k + 1))) then (wo wy (l.take (k + 1)), l.drop (k + 1), 0) else (0, [], 4) := by
      rw [Hk.out]
      unfold tS
      rw [if_pos HT.out]
    by_cases hd : l.take (k + 1) = dg wy 10 (wo wy (l.take (k + 1)))
    · rw [if_pos hd] at htS
      rw [htS]
      have HD := Lib.hid hd
      have HL := Lib.hid htl
      clear hd htS htl HT Hk
      have htail := hrow.tail (k + 1) hle
      by_cases hcc : c = k + 1
      · have hll : l.drop (k + 1) = [] := List.drop_eq_nil_iff.2 (by omega)
        have HLL := Lib.hid hll
        clear hll htail
        have Hcc := Lib.hid hcc
        have hcl : l.length ≤ k + 1 := by omega
        clear hcc
        go_enter Tryz.func223, Tryz.ntmps223
        go_wp2_with (first
          | (go_at_call 248; refine (span_any _ l most _ hrow (by omega)).mono ?_; rintro e w1 ⟨rfl, rfl⟩; rw [HS.out])
          | (go_at_call 249; refine (worth_any _ _ wy _ hhead (by have := HL.out; omega) hwy).mono ?_; rintro e w1 ⟨rfl, rfl⟩)
          | (go_at_call 163; refine (digits_any _ wy _ hin hwb.1 hwb.2).mono ?_; rintro e w1 ⟨v1, rfl, ho1, he1⟩)
          | (go_at_call 87; refine (equal_any _ _ _ _ _ (by exact hhead.ext he1) (by exact ho1.row)).mono ?_; rintro e w2 ⟨rfl, rfl⟩; rw [decide_eq_true HD.out])
          | (go_at_call 149; refine (clone_any _ [] _ (by exact Row.none_ _ _ _) (by simp)).mono ?_; rintro e w2 ⟨v2, rfl, ho2, he2⟩))
        go_ret3
        refine Ret.mk ⟨_, rfl, ?_⟩ (he1.trans he2)
        rw [HLL.out]
        exact ho2.base he1.size
      · have hcc' : ¬ c = k + 1 := hcc
        go_enter Tryz.func223, Tryz.ntmps223
        go_wp2_with (first
          | (go_at_call 248; refine (span_any _ l most _ hrow (by omega)).mono ?_; rintro e w1 ⟨rfl, rfl⟩; rw [HS.out])
          | (go_at_call 249; refine (worth_any _ _ wy _ hhead (by have := HL.out; omega) hwy).mono ?_; rintro e w1 ⟨rfl, rfl⟩)
          | (go_at_call 163; refine (digits_any _ wy _ hin hwb.1 hwb.2).mono ?_; rintro e w1 ⟨v1, rfl, ho1, he1⟩)
          | (go_at_call 87; refine (equal_any _ _ _ _ _ (by exact hhead.ext he1) (by exact ho1.row)).mono ?_; rintro e w2 ⟨rfl, rfl⟩; rw [decide_eq_true HD.out])
          | (go_at_call 149; go_loud (refine (clone_any _ (l.drop (k + 1)) _ (by exact htail.ext he1) (by simp; omega)).mono ?_); rintro e w2 ⟨v2, rfl, ho2, he2⟩))
        go_ret3
        exact Ret.mk ⟨_, rfl, ho2.base he1.size⟩ (he1.trans he2)
    · rw [if_neg hd] at htS
      rw [htS]
      have HD := Lib.hid hd
      have HL := Lib.hid htl
      clear hd htS htl HT Hk
      go_enter Tryz.func223, Tryz.ntmps223
      go_wp2_with (first
        | (go_at_call 248; refine (span_any _ l most _ hrow (by omega)).mono ?_; rintro e w1 ⟨rfl, rfl⟩; rw [HS.out])
        | (go_at_call 249; refine (worth_any _ _ wy _ hhead (by have := HL.out; omega) hwy).mono ?_; rintro e w1 ⟨rfl, rfl⟩)
        | (go_at_call 163; refine (digits_any _ wy _ hin hwb.1 hwb.2).mono ?_; rintro e w1 ⟨v1, rfl, ho1, he1⟩)
        | (go_at_call 87; refine (equal_any _ _ _ _ _ (by exact hhead.ext he1) (by exact ho1.row)).mono ?_; rintro e w2 ⟨rfl, rfl⟩; rw [decide_eq_false HD.out]))
      go_ret3
      exact Ret.mk ⟨_, rfl, Own.nil _ _ _ _⟩ he1
  · rw [tS_bad hs]
    obtain ⟨x, hx⟩ : ∃ x, x = (spn most l).2 := ⟨_, rfl⟩
    have h1 : (spn most l).1 = 0 := by
      unfold spn at *
      split
      · rfl
      · split
        · rfl
        · rename_i h1 h2
          rw [if_neg h1, if_neg h2] at hs
          exact absurd rfl hs
    rw [← hx] at hs ⊢
    have H1 : Hid (spn most l = (0, x)) := by rw [Hid, hx, ← h1]
    have hb : (x != 0) = true := by simp [hs]
    clear hx h1 hs
    go_enter Tryz.func223, Tryz.ntmps223
    go_wp2_with (first
      | (go_at_call 248; refine (span_any _ l most _ h (by omega)).mono ?_; rintro e w1 ⟨rfl, rfl⟩; rw [H1.out]))
    go_ret3
    exact Ret.mk ⟨_, rfl, Own.nil _ _ _ _⟩ (Ext.refl _)

theorem takeShort_at (v : Value) (l : List Int) (m : Int) (most : Nat) (wy : Int) (w : World) (h : Row w .u8 v l) (he : m = (most : Int)) (hw : wy = 1 ∧ most = 8 ∨ wy = 2 ∧ most = 10) (hr : l.length ≤ 140737488355328) :
    Calls Tryz.prog 223 #[v, .int .i64 m, .int .i64 wy] w (Ret w (RowTakeP w (tS most wy l))) := by
  subst he
  exact takeShort_any v l most wy w h hw hr

theorem TakeS_any (v : Value) (l : List Int) (w : World) (h : Row w .u8 v l) (hr : l.length ≤ 140737488355328) :
    Calls Tryz.prog 245 #[v] w (Ret w (RowTakeP w (tS 10 2 l))) := by
  go_enter Tryz.func245, Tryz.ntmps245
  go_wp2_with (first
    | (go_at_call 223; refine (takeShort_at _ l 10 10 2 _ h rfl (by omega) hr).mono ?_; rintro e w1 ⟨v1, rfl, ⟨b1, rfl, ho1⟩, he1⟩))
  go_ret3
  exact Ret.mk ⟨_, rfl, ho1⟩ he1

theorem TakeU_any (v : Value) (l : List Int) (w : World) (h : Row w .u8 v l) (hr : l.length ≤ 140737488355328) :
    Calls Tryz.prog 183 #[v] w (Ret w (RowTakeP w (tU l))) := by
  by_cases hb : 9007199254740991 < (tS 8 1 l).1
  · have e : tU l = (0, [], 4) := by unfold tU; rw [if_pos hb]
    rw [e]
    clear e
    go_enter Tryz.func183, Tryz.ntmps183
    go_wp2_with (first
      | (go_at_call 223; refine (takeShort_at _ l 8 8 1 _ h rfl (by omega) hr).mono ?_; rintro e w1 ⟨v1, rfl, ⟨b1, rfl, ho1⟩, he1⟩))
    go_ret3
    exact Ret.mk ⟨_, rfl, Own.nil _ _ _ _⟩ he1
  · have e : tU l = tS 8 1 l := by unfold tU; rw [if_neg hb]
    rw [e]
    clear e
    go_enter Tryz.func183, Tryz.ntmps183
    go_wp2_with (first
      | (go_at_call 223; refine (takeShort_at _ l 8 8 1 _ h rfl (by omega) hr).mono ?_; rintro e w1 ⟨v1, rfl, ⟨b1, rfl, ho1⟩, he1⟩))
    go_ret3
    exact Ret.mk ⟨_, rfl, ho1⟩ he1
end Go.Proofs.YtokmeomjdpfknaaGreatDoor
namespace Go.Proofs.YtokmeomjdpfknaaGreatDoor

def lst (l : List Int) : Int := gi l (l.length - 1)
theorem lst_one (x : Int) : lst [x] = x := rfl
theorem lst_cons (x : Int) {l : List Int} (h : 0 < l.length) : lst (x :: l) = lst l := by
  unfold lst
  obtain ⟨n, hn⟩ : ∃ n, l.length = n + 1 := ⟨l.length - 1, by omega⟩
  rw [List.length_cons, hn]
  rfl
theorem dg_pos (wy : Int) (f : Nat) (n : Int) : 0 < (dg wy (f + 1) n).length := by
  unfold dg
  split <;> simp
theorem gi_zero (x : Int) (l : List Int) : gi (x :: l) 0 = x := rfl
theorem dg_more (wy : Int) : ∀ (f : Nat) (n : Int), InB wy f n → fb (dg wy (f + 1) n) + 1 = (dg wy (f + 1) n).length := by
  intro f
  induction f with
  | zero =>
    intro n h
    rw [dg_last 0 h.last]
    have : n % 128 < 128 := by omega
    simp [fb, this]
  | succ f ih =>
    intro n h
    by_cases hc : n / 128 = ab wy (n % 128)
    · rw [dg_last _ hc]
      have : n % 128 < 128 := by omega
      simp [fb, this]
    · rw [dg_step _ hc]
      have := ih (n / 128) h.next
      have h1 : ¬ n % 128 + 128 < 128 := by omega
      simp only [fb, if_neg h1, List.length_cons]
      omega
theorem fb_append {l : List Int} (r : List Int) : fb l + 1 ≤ l.length → fb (l ++ r) = fb l := by
  induction l with
  | nil => intro h; simp at h
  | cons x l ih =>
    intro h
    unfold fb at h ⊢
    rw [List.cons_append]
    by_cases hx : x < 128
    · simp [hx]
    · simp only [hx, if_false, List.length_cons] at h ⊢
      rw [ih (by omega)]
theorem wof_dg (wy : Int) : ∀ (f : Nat) (n : Int), f ≤ 9 → InB wy f n → wof (ab wy (lst (dg wy (f + 1) n))) (dg wy (f + 1) n) = n := by
  intro f
  induction f with
  | zero =>
    intro n _ h
    have hb := h.bound (by omega)
    rw [dg_last 0 h.last, lst_one, ← h.last]
    simp only [wof]
    rw [IntKind.wrap_i64]
    omega
  | succ f ih =>
    intro n hf h
    have hb := h.bound hf
    by_cases hc : n / 128 = ab wy (n % 128)
    · rw [dg_last _ hc, lst_one, ← hc]
      simp only [wof]
      rw [IntKind.wrap_i64]
      omega
    · rw [dg_step _ hc, lst_cons _ (dg_pos wy f _)]
      have := ih (n / 128) (by omega) h.next
      simp only [wof]
      rw [this, IntKind.wrap_i64]
      omega
theorem wo_dg {wy n : Int} (h : InB wy 9 n) : wo wy (dg wy 10 n) = n := wof_dg wy 9 n (by omega) h

theorem tS_dg {most : Nat} {wy n : Int} (h : InB wy 9 n) (hm : (dg wy 10 n).length ≤ most) (r : List Int) : tS most wy (dg wy 10 n ++ r) = (n, r, 0) := by
  have h1 : fb (dg wy 10 n) + 1 = (dg wy 10 n).length := dg_more wy 9 n h
  have h2 : fb (dg wy 10 n ++ r) = fb (dg wy 10 n) := fb_append r (by omega)
  have h3 : fb (dg wy 10 n) + 1 = (dg wy 10 n).length := h1
  have hs : spn most (dg wy 10 n ++ r) = ((fb (dg wy 10 n) : Int) + 1, 0) := by
    unfold spn
    rw [h2, if_neg (by omega), if_neg (by simp; omega)]
  have ht : (dg wy 10 n ++ r).take (fb (dg wy 10 n) + 1) = dg wy 10 n := by rw [h3, List.take_left]
  have hd : (dg wy 10 n ++ r).drop (fb (dg wy 10 n) + 1) = r := by rw [h3, List.drop_left]
  unfold tS
  rw [hs, h2, ht, hd, wo_dg h, if_pos rfl, if_pos rfl]
theorem dg_one_len : ∀ (f : Nat) (g : Nat) (n : Int), 0 ≤ n → n < 128 ^ (g + 1) → (dg 1 f n).length ≤ g + 1 := by
  intro f
  induction f with
  | zero => intro g n _ _; simp [dg]
  | succ f ih =>
    intro g n h0 h1
    by_cases hc : n / 128 = ab 1 (n % 128)
    · rw [dg_last _ hc]
      simp
    · rw [dg_step _ hc]
      rw [ab_one] at hc
      match g with
      | 0 => simp at h1; omega
      | g + 1 =>
        rw [Int.pow_succ] at h1
        have := ih g (n / 128) (by omega) (by omega)
        simp
        omega
theorem dg_one_eight {n : Int} (h0 : 0 ≤ n) (h1 : n ≤ 9007199254740991) : (dg 1 10 n).length ≤ 8 := by
  refine dg_one_len 10 7 n h0 ?_
  show n < (72057594037927936 : Int)
  omega

theorem tS_ok {most : Nat} {wy : Int} {l : List Int} (h : (tS most wy l).2.2 = 0) : dg wy 10 (tS most wy l).1 ++ (tS most wy l).2.1 = l := by
  unfold tS at *
  split at h
  · rename_i hs
    rw [if_pos hs]
    split at h
    · rename_i hd
      rw [if_pos hd]
      simp only
      rw [← hd, List.take_append_drop]
    · simp at h
  · rename_i hs
    simp at h
    exact absurd h hs
theorem tS_err {most : Nat} {wy : Int} {l : List Int} (h : ¬ (tS most wy l).2.2 = 0) : (tS most wy l).1 = 0 ∧ (tS most wy l).2.1 = [] ∧ ((tS most wy l).2.2 = 3 ∨ (tS most wy l).2.2 = 4) := by
  have h2 := spn_two most l
  unfold tS at *
  split
  · rename_i hs
    rw [if_pos hs] at h
    split
    · rename_i hd
      rw [if_pos hd] at h
      simp at h
    · simp
  · simp only
    refine ⟨trivial, trivial, ?_⟩
    rename_i hs
    omega
theorem tS_range {wy : Int} {most : Nat} {l : List Int} (hf : Fit .u8 l) : -9223372036854775808 ≤ (tS most wy l).1 ∧ (tS most wy l).1 ≤ 9223372036854775807 := by
  unfold tS
  split
  · rename_i hs
    have := spn_zero hs
    split
    · exact wo_bound wy _ (by simp; omega) (hf.take _)
    · simp
  · simp
theorem tU_ok {l : List Int} (h : (tU l).2.2 = 0) : uS (tU l).1 = (dg 1 10 (tU l).1, 0) ∧ dg 1 10 (tU l).1 ++ (tU l).2.1 = l := by
  unfold tU at *
  split at h
  · simp at h
  · rename_i hb
    rw [if_neg hb]
    refine ⟨?_, tS_ok h⟩
    have h0 : 0 ≤ (tS 8 1 l).1 := by
      unfold tS
      split
      · rename_i hs
        have := spn_zero hs
        split
        · exact (wo_one _ (by simp; omega)).1
        · simp
      · simp
    unfold uS
    rw [if_neg (by omega)]
theorem tU_err {l : List Int} (h : ¬ (tU l).2.2 = 0) : (tU l).1 = 0 ∧ (tU l).2.1 = [] := by
  unfold tU at *
  split
  · exact ⟨rfl, rfl⟩
  · rename_i hb
    rw [if_neg hb] at h
    have := tS_err h
    exact ⟨this.1, this.2.1⟩
theorem tU_dg {n : Int} (h0 : 0 ≤ n) (h1 : n ≤ 9007199254740991) (r : List Int) : tU (dg 1 10 n ++ r) = (n, r, 0) := by
  have hin : InB 1 9 n := InB.start (by omega) (by omega) (.inr ⟨rfl, h0⟩)
  unfold tU
  rw [tS_dg hin (dg_one_eight h0 h1), if_neg (by simp; omega)]
theorem uS_ok {n : Int} (h0 : 0 ≤ n) (h1 : n ≤ 9007199254740991) : uS n = (dg 1 10 n, 0) := by
  unfold uS
  rw [if_neg (by omega)]

end Go.Proofs.YtokmeomjdpfknaaGreatDoor
namespace Go.Proofs.YtokmeomjdpfknaaGreatDoor
open Go.RowKit
set_option linter.unusedVariables false

section
variable {w w' : World} {B : Nat} {e : TypeId} {k : IntKind} {v : Value} {l : List Int}
theorem Own.put {g n c : Nat} (h : Own B w e k (.slice (some ⟨g, 0, none⟩) n c) l) {j : Nat} {x : Int} (hj : j < l.length) (hx : (Lit.int k x).wf = true) :
    Own B (w.setCell ⟨g, j, none⟩ (.int k x)) e k (.slice (some ⟨g, 0, none⟩) n c) (l.set j x) := by
  obtain ⟨⟨h1, h2⟩, hf⟩ := h
  have hfit : Fit k (l.set j x) := fun y hy => by
    rcases List.mem_or_eq_of_mem_set hy with hy | rfl
    · exact hf y hy
    · exact hx
  rcases h2 with ⟨h0, _⟩ | ⟨g', cap, cur, hv, hb, hg, hn, hm, hs, ht⟩
  · cases h0
  · injection hv with e1 e2 e3
    injection e1 with e1
    injection e1 with e1
    subst e1 e2 e3
    refine ⟨⟨by simp, .inr ⟨g, c, cur.setIfInBounds j (.int k x), by simp, hb, ?_, by simpa using hn, hm, by simpa using hs, ?_⟩⟩, hfit⟩
    · exact heap_setCell_same w g j cur e (.int k x) hg
    · rw [Array.toList_setIfInBounds, List.take_set, List.length_set, ht, List.map_set]
end

theorem only_set {a w : World} {g : Nat} (h : a.grownBy w (some g)) (j : Nat) (u : Value) : a.grownBy (w.setCell ⟨g, j, none⟩ u) (some g) := by
  refine ⟨h.os, h.tape, h.output, by simpa [World.setCell] using h.size, fun i hi hne => ?_⟩
  rw [Below.heap_setCell w ⟨g, j, none⟩ u i (fun e => hne (by rw [e]))]
  exact h.block i hi hne
theorem Own.kept {w w' : World} {B : Nat} {e : TypeId} {k : IntKind} {v : Value} {l : List Int} (h : Own B w e k v l) {row : Option Nat} (hg : w.grownBy w' row) (hne : ∀ g, v.ownBlock = some g → row ≠ some g) : Own B w' e k v l := by
  obtain ⟨⟨h1, h2⟩, hf⟩ := h
  refine ⟨⟨h1, ?_⟩, hf⟩
  rcases h2 with h2 | ⟨g, cap, cur, hv, hb, hg', hr⟩
  · exact .inl h2
  · refine .inr ⟨g, cap, cur, hv, hb, (hg.block g (lt_of_get hg') ?_).trans hg', hr⟩
    exact fun e => hne g (by rw [hv]; rfl) e.symm
theorem Row.kept {w w' : World} {k : IntKind} {v : Value} {l : List Int} (h : Row w k v l) {row : Option Nat} (hg : w.grownBy w' row) (hne : ∀ g, v.ownBlock = some g → row ≠ some g) : Row w' k v l := by
  obtain ⟨A, c, h1, h2, h3, h4, h5, h6⟩ := h
  refine ⟨A, c, h1, h2, h3, h4, h5, fun hl => ?_⟩
  obtain ⟨b, o, ha, hb, hc⟩ := h6 hl
  refine ⟨b, o, ha, Nat.lt_of_lt_of_le hb hg.size, fun j hj => ?_⟩
  have e := hg.block b hb (fun e => hne b (by rw [h1, ha]; rfl) e.symm)
  exact (World.cell?_of_block (w := w) (a := ⟨b, o + j, none⟩) e).trans (hc j hj)

end Go.Proofs.YtokmeomjdpfknaaGreatDoor
