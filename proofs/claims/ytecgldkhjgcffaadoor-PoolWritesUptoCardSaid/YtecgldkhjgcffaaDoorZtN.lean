/- Several texts of this proof, one behind the other. -/
import Derived.Test.YtecgldkhjgcffaaDoorZtM
import Derived.Test.YtecgldkhjgcffaaDoorZtH
import Derived.Test.YtecgldkhjgcffaaDoorZtA
/- May a constant be: the document's answer, walked. -/
namespace Go.Proofs.YtecgldkhjgcffaaDoor
open Go.RowKit
set_option linter.unusedVariables false

/-- May a constant be, as far as it tells itself, and by whom it names? -/
def MayC (l : List Cst) (x : Cst) : Prop :=
  (x.k = 1 ∧ x.n = 0 ∧ x.a = 0 ∧ x.b = 0 ∧ x.c = 0 ∧ Lib.validD x.t.data.toList = true) ∨
  (x.k = 2 ∧ x.t.toList = [] ∧ x.a = 0 ∧ x.b = 0 ∧ x.c = 0 ∧ -2147483648 ≤ x.n ∧ x.n < 2147483648) ∨
  (x.k = 3 ∧ x.t.toList = [] ∧ x.a = 0 ∧ x.b = 0 ∧ x.c = 0) ∨
  (x.k = 4 ∧ x.t.toList = [] ∧ x.n = 0 ∧ x.b = 0 ∧ x.c = 0 ∧ isK l x.a 1 = true) ∨
  ((x.k = 5 ∨ x.k = 6) ∧ x.t.toList = [] ∧ x.n = 0 ∧ isK l x.a 4 = true ∧ isK l x.b 1 = true ∧ isK l x.c 1 = true)
instance (l : List Cst) (x : Cst) : Decidable (MayC l x) := by unfold MayC; infer_instance
def mayC (l : List Cst) (x : Cst) : Bool := decide (MayC l x)
theorem ext_two (w : World) (o p : Obj) : Ext w ((w.alloc o).alloc p) := ((Ext.refl w).alloc o).alloc p
theorem ext_new {w : World} {o p : Obj} {q : Addr} {u : Value} (h : w.heap.size ≤ q.block) : Ext w (((w.alloc o).alloc p).setCell q u) := (((Ext.refl w).alloc o).alloc p).set_ h u
theorem ext_new3 {w : World} {o p : Obj} {q q1 q2 : Addr} {u u1 u2 : Value} (h : w.heap.size ≤ q.block) (h1 : w.heap.size ≤ q1.block) (h2 : w.heap.size ≤ q2.block) : Ext w (((((w.alloc o).alloc p).setCell q u).setCell q1 u1).setCell q2 u2) :=
  (((((Ext.refl w).alloc o).alloc p).set_ h u).set_ h1 u1).set_ h2 u2

set_option maxHeartbeats 2000000 in
theorem refMay_2 (v : Value) (l : List Cst) (j : Nat) (w : World) (h : RowC w v l) (hj : j < l.length) (k : Int) (t : ByteArray) (n a b c : Int) (hx : Hid (gc l j = ⟨k, t, n, a, b, c⟩)) (hk : k = 2) :
    Calls Tryd.prog 43 #[v, .int .i64 j] w (RetB w (mayC l ⟨k, t, n, a, b, c⟩)) := by
  have hrow := h
  obtain ⟨A, cp, rfl, h2, h3, h4, h5, h6⟩ := h
  unfold maxLen at h3
  have hok := gc_ok h5 j
  rw [hx.out] at hok
  obtain ⟨-, -, ok_a, ok_b, ok_c⟩ := hok
  simp only at ok_a ok_b ok_c
  obtain ⟨bl, o, rfl, _, hc⟩ := h6 (by omega)
  obtain ⟨a0, a1, a2, a3, a4, a5⟩ := hc j hj
  rw [hx.out] at a0 a1 a2 a3 a4 a5
  simp only at a0 a1 a2 a3 a4 a5
  clear hc h6 h4 h5
  subst hk
  go_enter Tryd.func43, Tryd.ntmps43
  go_wp2
  all_goals
    go_ret
    exact ⟨ret_b (by simp [mayC, MayC, *] <;> omega), ext_two _ _ _⟩

set_option maxHeartbeats 2000000 in
theorem refMay_3 (v : Value) (l : List Cst) (j : Nat) (w : World) (h : RowC w v l) (hj : j < l.length) (k : Int) (t : ByteArray) (n a b c : Int) (hx : Hid (gc l j = ⟨k, t, n, a, b, c⟩)) (hk : k = 3) :
    Calls Tryd.prog 43 #[v, .int .i64 j] w (RetB w (mayC l ⟨k, t, n, a, b, c⟩)) := by
  have hrow := h
  obtain ⟨A, cp, rfl, h2, h3, h4, h5, h6⟩ := h
  unfold maxLen at h3
  have hok := gc_ok h5 j
  rw [hx.out] at hok
  obtain ⟨-, -, ok_a, ok_b, ok_c⟩ := hok
  simp only at ok_a ok_b ok_c
  obtain ⟨bl, o, rfl, _, hc⟩ := h6 (by omega)
  obtain ⟨a0, a1, a2, a3, a4, a5⟩ := hc j hj
  rw [hx.out] at a0 a1 a2 a3 a4 a5
  simp only at a0 a1 a2 a3 a4 a5
  clear hc h6 h4 h5
  subst hk
  go_enter Tryd.func43, Tryd.ntmps43
  go_wp2
  all_goals
    go_ret
    exact ⟨ret_b (by simp [mayC, MayC, *] <;> omega), ext_two _ _ _⟩

set_option maxHeartbeats 2000000 in
theorem refMay_1 (v : Value) (l : List Cst) (j : Nat) (w : World) (h : RowC w v l) (hj : j < l.length) (k : Int) (t : ByteArray) (n a b c : Int) (hx : Hid (gc l j = ⟨k, t, n, a, b, c⟩)) (hk : k = 1) (hT : Tabs w) (hs : t.size ≤ 9223372036854775807) (hz : (encZ t.data.toList).length ≤ 140737488355328) :
    Calls Tryd.prog 43 #[v, .int .i64 j] w (RetB w (mayC l ⟨k, t, n, a, b, c⟩)) := by
  have hrow := h
  obtain ⟨A, cp, rfl, h2, h3, h4, h5, h6⟩ := h
  unfold maxLen at h3
  have hok := gc_ok h5 j
  rw [hx.out] at hok
  obtain ⟨-, -, ok_a, ok_b, ok_c⟩ := hok
  simp only at ok_a ok_b ok_c
  obtain ⟨bl, o, rfl, _, hc⟩ := h6 (by omega)
  obtain ⟨a0, a1, a2, a3, a4, a5⟩ := hc j hj
  rw [hx.out] at a0 a1 a2 a3 a4 a5
  simp only at a0 a1 a2 a3 a4 a5
  clear hc h6 h4 h5
  subst hk
  go_enter Tryd.func43, Tryd.ntmps43
  go_wp2_with fail
  refine (refEncode_any t _ (hT.ext (by exact ext_two _ _ _)) hs hz).mono ?_
  rintro e w1 ⟨v1, rfl, ha, he⟩
  have hx1 : Ext w w1 := (ext_two _ _ _).trans he
  have hc := fun b o hb => he.cell (p := ⟨b, o, none⟩) hb
  clear he
  rcases ha with ⟨hv, v2, rfl, ho⟩ | ⟨hv, rfl⟩
  all_goals
    go_wp2
    all_goals
      go_ret
      exact ⟨ret_b (by simp [mayC, MayC, *]), hx1⟩

set_option maxHeartbeats 2000000 in
theorem refMay_4 (v : Value) (l : List Cst) (j : Nat) (w : World) (h : RowC w v l) (hj : j < l.length) (k : Int) (t : ByteArray) (n a b c : Int) (hx : Hid (gc l j = ⟨k, t, n, a, b, c⟩)) (hk : k = 4) :
    Calls Tryd.prog 43 #[v, .int .i64 j] w (RetB w (mayC l ⟨k, t, n, a, b, c⟩)) := by
  have hrow := h
  obtain ⟨A, cp, rfl, h2, h3, h4, h5, h6⟩ := h
  unfold maxLen at h3
  have hok := gc_ok h5 j
  rw [hx.out] at hok
  obtain ⟨-, -, ok_a, ok_b, ok_c⟩ := hok
  simp only at ok_a ok_b ok_c
  obtain ⟨bl, o, rfl, _, hc⟩ := h6 (by omega)
  obtain ⟨a0, a1, a2, a3, a4, a5⟩ := hc j hj
  rw [hx.out] at a0 a1 a2 a3 a4 a5
  simp only at a0 a1 a2 a3 a4 a5
  clear hc h6 h4 h5
  subst hk
  obtain ⟨e1, he1⟩ : ∃ e1, isK l a 1 = e1 := ⟨_, rfl⟩
  have H1 := Lib.hid he1
  clear he1
  go_enter Tryd.func43, Tryd.ntmps43
  go_wp2_with (go_at_call 68; refine (refKind_any _ l _ _ _ (by exact hrow.ext (ext_two _ _ _)) (by assumption) (by unfold I64; omega)).mono ?_; rw [H1.out]; rintro e w1 ⟨rfl, rfl⟩)
  all_goals
    go_ret
    exact ⟨ret_b (by have := H1.out; simp [mayC, MayC, *]), ext_two _ _ _⟩

set_option maxHeartbeats 2000000 in
theorem refMay_5 (v : Value) (l : List Cst) (j : Nat) (w : World) (h : RowC w v l) (hj : j < l.length) (k : Int) (t : ByteArray) (n a b c : Int) (hx : Hid (gc l j = ⟨k, t, n, a, b, c⟩)) (hk : k = 5 ∨ k = 6) :
    Calls Tryd.prog 43 #[v, .int .i64 j] w (RetB w (mayC l ⟨k, t, n, a, b, c⟩)) := by
  have hrow := h
  obtain ⟨A, cp, rfl, h2, h3, h4, h5, h6⟩ := h
  unfold maxLen at h3
  have hok := gc_ok h5 j
  rw [hx.out] at hok
  obtain ⟨-, -, ok_a, ok_b, ok_c⟩ := hok
  simp only at ok_a ok_b ok_c
  obtain ⟨bl, o, rfl, _, hc⟩ := h6 (by omega)
  obtain ⟨a0, a1, a2, a3, a4, a5⟩ := hc j hj
  rw [hx.out] at a0 a1 a2 a3 a4 a5
  simp only at a0 a1 a2 a3 a4 a5
  clear hc h6 h4 h5
  obtain ⟨e1, he1⟩ : ∃ e1, isK l a 4 = e1 := ⟨_, rfl⟩
  obtain ⟨e2, he2⟩ : ∃ e2, isK l b 1 = e2 := ⟨_, rfl⟩
  obtain ⟨e3, he3⟩ : ∃ e3, isK l c 1 = e3 := ⟨_, rfl⟩
  have H1 := Lib.hid he1
  have H2 := Lib.hid he2
  have H3 := Lib.hid he3
  clear he1 he2 he3
  rcases hk with rfl | rfl
  all_goals
    go_enter Tryd.func43, Tryd.ntmps43
    go_wp2_with (go_at_call 68; refine (refKind_any _ l _ _ _ (by exact hrow.ext (ext_two _ _ _)) (by assumption) (by unfold I64; omega)).mono ?_; (first | rw [H1.out] | rw [H2.out] | rw [H3.out]); rintro e w1 ⟨rfl, rfl⟩)
    all_goals
      go_ret
      exact ⟨ret_b (by have h1 := H1.out; have h2 := H2.out; have h3 := H3.out; simp [mayC, MayC, *]), ext_two _ _ _⟩

set_option maxHeartbeats 2000000 in
theorem refMay_0 (v : Value) (l : List Cst) (j : Nat) (w : World) (h : RowC w v l) (hj : j < l.length) (k : Int) (t : ByteArray) (n a b c : Int) (hx : Hid (gc l j = ⟨k, t, n, a, b, c⟩)) (hk : ¬ k = 1 ∧ ¬ k = 2 ∧ ¬ k = 3 ∧ ¬ k = 4 ∧ ¬ k = 5 ∧ ¬ k = 6) :
    Calls Tryd.prog 43 #[v, .int .i64 j] w (RetB w (mayC l ⟨k, t, n, a, b, c⟩)) := by
  have hrow := h
  obtain ⟨A, cp, rfl, h2, h3, h4, h5, h6⟩ := h
  unfold maxLen at h3
  have hok := gc_ok h5 j
  rw [hx.out] at hok
  obtain ⟨-, -, ok_a, ok_b, ok_c⟩ := hok
  simp only at ok_a ok_b ok_c
  obtain ⟨bl, o, rfl, _, hc⟩ := h6 (by omega)
  obtain ⟨a0, a1, a2, a3, a4, a5⟩ := hc j hj
  rw [hx.out] at a0 a1 a2 a3 a4 a5
  simp only at a0 a1 a2 a3 a4 a5
  clear hc h6 h4 h5
  obtain ⟨k1, k2, k3, k4, k5, k6⟩ := hk
  have n1 : (k == 1) = false := by simpa using k1
  have n2 : (k == 2) = false := by simpa using k2
  have n3 : (k == 3) = false := by simpa using k3
  have n4 : (k == 4) = false := by simpa using k4
  have n5 : (k == 5) = false := by simpa using k5
  have n6 : (k == 6) = false := by simpa using k6
  go_enter Tryd.func43, Tryd.ntmps43
  go_wp2
  all_goals
    go_ret
    exact ⟨ret_b (by simp [mayC, MayC, *]), ext_two _ _ _⟩

end Go.Proofs.YtecgldkhjgcffaaDoor
/- Check: the document's answer, walked. -/
namespace Go.Proofs.YtecgldkhjgcffaaDoor
open Go.RowKit
set_option linter.unusedVariables false

/-- What may be encoded at all: each text's bytes have room. -/
def Room (l : List Cst) : Prop := ∀ x ∈ l, x.t.size ≤ 9223372036854775807 ∧ (encZ x.t.data.toList).length ≤ 140737488355328
theorem Room.at_ {l : List Cst} (h : Room l) {j : Nat} (hj : j < l.length) : (gc l j).t.size ≤ 9223372036854775807 ∧ (encZ (gc l j).t.data.toList).length ≤ 140737488355328 := h _ (gc_mem hj)

theorem refMay_any (v : Value) (l : List Cst) (j : Nat) (w : World) (h : RowC w v l) (hj : j < l.length) (hT : Tabs w) (hR : Room l) :
    Calls Tryd.prog 43 #[v, .int .i64 j] w (RetB w (mayC l (gc l j))) := by
  have hz := hR.at_ hj
  obtain ⟨x, hx⟩ : ∃ x, gc l j = x := ⟨_, rfl⟩
  rw [hx] at hz ⊢
  obtain ⟨k, t, n, a, b, c⟩ := x
  simp only at hz
  by_cases k1 : k = 1
  · exact refMay_1 v l j w h hj k t n a b c hx k1 hT hz.1 hz.2
  · by_cases k2 : k = 2
    · exact refMay_2 v l j w h hj k t n a b c hx k2
    · by_cases k3 : k = 3
      · exact refMay_3 v l j w h hj k t n a b c hx k3
      · by_cases k4 : k = 4
        · exact refMay_4 v l j w h hj k t n a b c hx k4
        · by_cases k5 : k = 5 ∨ k = 6
          · exact refMay_5 v l j w h hj k t n a b c hx k5
          · exact refMay_0 v l j w h hj k t n a b c hx ⟨k1, k2, k3, k4, fun h => k5 (.inl h), fun h => k5 (.inr h)⟩

/-- May constants be? -/
def AllMay (l : List Cst) : Prop := gc l 0 = c0 ∧ ∀ j, 1 ≤ j → j < l.length → mayC l (gc l j) = true
noncomputable def checkC (l : List Cst) : Int := if 4096 < l.length then 5 else if l = [] then 40 else @ite _ (AllMay l) (Classical.propDecidable _) 0 40
theorem checkC_big {l : List Cst} (h : 4096 < l.length) : checkC l = 5 := by unfold checkC; rw [if_pos h]
theorem checkC_nil : checkC [] = 40 := by unfold checkC; rw [if_neg (by simp), if_pos rfl]
theorem checkC_yes {l : List Cst} (h : l.length ≤ 4096) (h0 : 0 < l.length) (ha : AllMay l) : checkC l = 0 := by
  unfold checkC
  rw [if_neg (by omega), if_neg (fun e => by rw [e] at h0; simp at h0), @if_pos _ (Classical.propDecidable _) ha]
theorem checkC_no {l : List Cst} (h : l.length ≤ 4096) (ha : ¬ AllMay l) : checkC l = 40 := by
  unfold checkC
  rw [if_neg (by omega)]
  by_cases he : l = []
  · rw [if_pos he]
  · rw [if_neg he, @if_neg _ (Classical.propDecidable _) ha]
theorem zero_of {x : Cst} (h0 : x.k = 0) (h1 : x.t.toList = []) (h2 : x.n = 0) (h3 : x.a = 0) (h4 : x.b = 0) (h5 : x.c = 0) : x = c0 :=
  Cst.ext_ h0 (toList_inj (by rw [h1, ByteArray.toList_eq]; rfl)) h2 h3 h4 h5
theorem ret_i {a b : Int} (h : a = b) : Ending.returned (.int .i64 a) = .returned (.int .i64 b) := by rw [h]

set_option maxHeartbeats 1000000 in
theorem refCheck_any (v : Value) (l : List Cst) (w : World) (h : RowC w v l) (hT : Tabs w) (hR : Room l) :
    Calls Tryd.prog 20 #[v] w fun e w' => e = .returned (.int .i64 (checkC l)) ∧ Ext w w' := by
  have hrow := h
  obtain ⟨A, cp, rfl, h2, h3, h4, h5, h6⟩ := h
  unfold maxLen at h3
  obtain ⟨n, hn⟩ : ∃ n, n = l.length := ⟨_, rfl⟩
  have HN := Lib.hid hn
  rw [← hn] at hrow h2 h6 ⊢
  by_cases hbig : 4096 < n
  · have HB := Lib.hid (checkC_big (l := l) (by rw [← hn]; exact hbig))
    clear h6 h5 h4 hn
    go_enter Tryd.func20, Tryd.ntmps20
    go_wp2
    go_ret
    exact ⟨ret_i HB.out.symm, Ext.refl _⟩
  · by_cases h0 : n = 0
    · have e : l = [] := List.eq_nil_of_length_eq_zero (by omega)
      subst e
      subst h0
      clear h6 h5 h4 hn HN
      go_enter Tryd.func20, Tryd.ntmps20
      go_wp2
      go_ret
      exact ⟨ret_i checkC_nil.symm, Ext.refl _⟩
    · obtain ⟨bl, o, rfl, _, hc⟩ := h6 (by omega)
      obtain ⟨a0, a1, a2, a3, a4, a5⟩ := hc 0 (by omega)
      simp only [Nat.zero_mul, Nat.add_zero] at a0 a1 a2 a3 a4 a5
      have hnz : ((n : Int) == 0) = false := by simp; omega
      by_cases hg : gc l 0 = c0
      · rw [hg] at a0 a1 a2 a3 a4 a5
        simp only [c0] at a0 a1 a2 a3 a4 a5
        have HG := Lib.hid hg
        clear hg h5 h4 h6 hc hn
        go_enter Tryd.func20, Tryd.ntmps20
        go_wp2
        go_loopw [3] (fun i wr => ∃ k : Nat, i = .int .i64 k ∧ 1 ≤ k ∧ k ≤ n ∧ Ext w wr ∧ Hid (∀ j, 1 ≤ j → j < k → mayC l (gc l j) = true)) (fun i _ => n - (intOf i).toNat)
        case atStart => exact ⟨1, rfl, by omega, by omega, Ext.refl _, fun j h1 h2 => by omega⟩
        case round =>
          obtain ⟨k, rfl, hk1, hkn, hx, HA⟩ := hrel
          by_cases hlt : k < n
          · obtain ⟨eb, heb⟩ : ∃ eb, mayC l (gc l k) = eb := ⟨_, rfl⟩
            have HE := Lib.hid heb
            clear heb
            cases eb
            · have HC : Hid (checkC l = 40) := checkC_no (by rw [← HN.out]; omega) (fun ha => by
                have := ha.2 k hk1 (by rw [← HN.out]; exact hlt)
                rw [HE.out] at this
                cases this)
              go_wp2_with (go_at_call 43; refine (refMay_any _ l k _ (by exact hrow.ext hx) (by rw [← HN.out]; exact hlt) (hT.ext hx) hR).mono ?_; rw [HE.out]; rintro e w2 ⟨rfl, x2⟩)
              go_ret
              exact ⟨ret_i HC.out.symm, hx.trans x2⟩
            · go_wp2_with (go_at_call 43; refine (refMay_any _ l k _ (by exact hrow.ext hx) (by rw [← HN.out]; exact hlt) (hT.ext hx) hR).mono ?_; rw [HE.out]; rintro e w2 ⟨rfl, x2⟩)
              go_roundw
              case rel =>
                refine ⟨k + 1, by go_num, by omega, by omega, hx.trans x2, fun j h1 h2 => ?_⟩
                by_cases hjk : j = k
                · rw [hjk]; exact HE.out
                · exact HA.out j h1 (by omega)
              case measure => simp [intOf]; omega
          · have HC : Hid (checkC l = 0) := checkC_yes (by rw [← HN.out]; omega) (by rw [← HN.out]; omega) ⟨HG.out, fun j h1 h2 => HA.out j h1 (by rw [← HN.out] at h2; omega)⟩
            go_wp2
            go_ret
            exact ⟨ret_i HC.out.symm, hx⟩
      · have HB := Lib.hid (checkC_no (l := l) (by omega) (fun ha => hg ha.1))
        clear h5 h4 hn hc
        go_enter Tryd.func20, Tryd.ntmps20
        go_wp2_with fail
        all_goals first
          | exact (hg (zero_of ‹(gc l 0).k = 0› ‹(gc l 0).t.toList = []› ‹(gc l 0).n = 0› ‹(gc l 0).a = 0› ‹(gc l 0).b = 0› ‹(gc l 0).c = 0›)).elim
          | (go_ret
             exact ⟨ret_i HB.out.symm, Ext.refl _⟩)
end Go.Proofs.YtecgldkhjgcffaaDoor
/- Slice expressions over a slice of which only the list is known. -/
namespace Go.Proofs.YtecgldkhjgcffaaDoor
open Go.RowKit
set_option linter.unusedVariables false

/-- A list's bytes lie in a block of a type. -/
def Typed (T : TypeId) (w : World) (v : Value) (l : List Int) : Prop := 0 < l.length → ∃ b o n c cur, v = .slice (some ⟨b, o, none⟩) n c ∧ w.heap[b]? = some (.cells cur T (0, 0))
theorem Typed.ext {T : TypeId} {w w' : World} {v : Value} {l : List Int} (h : Typed T w v l) (he : Ext w w') : Typed T w' v l := fun hl => by
  obtain ⟨b, o, n, c, cur, h1, h2⟩ := h hl
  exact ⟨b, o, n, c, cur, h1, (he.block b (lt_of_get h2)).trans h2⟩
theorem Own.typed {B : Nat} {w : World} {e : TypeId} {k : IntKind} {v : Value} {l : List Int} (h : Own B w e k v l) : Typed e w v l := fun hl => by
  obtain ⟨⟨h1, h2⟩, hf⟩ := h
  rcases h2 with ⟨_, h0⟩ | ⟨g, cap, cur, rfl, hb, hg, hn, hm, hs, ht⟩
  · omega
  · exact ⟨g, 0, _, cap, cur, rfl, hg⟩
theorem typed_nil (T : TypeId) (w : World) (v : Value) : Typed T w v [] := fun h => by simp at h
theorem tail_sliceT {w : World} {v : Value} {b : List Int} (h : Row w .u8 v b) (q : Nat) (hq : q ≤ b.length) :
    ∃ v2, (∀ W, (Instr.sliceAt 22 v (some (.int .i64 q)) none none).run Tryd.prog W = .ok v2 W) ∧ (∀ W, (Instr.slice 22 v (some (.int .i64 q)) none none).run Tryd.prog W = .ok v2 W) ∧ Row w .u8 v2 (b.drop q) ∧ ∀ T, Typed T w v b → Hid (Typed T w v2 (b.drop q)) := by
  have hk := h
  obtain ⟨A, c, rfl, h2, h3, h4, h5, h6⟩ := h
  have k1 : ¬ b.length < q := by omega
  have k3 : q ≤ c := by omega
  by_cases hc : c = q
  · have e : b.drop q = [] := List.drop_eq_nil_iff.2 (by omega)
    rw [e]
    have hlq : b.length = q := by omega
    have HE := Lib.hid e
    clear e
    subst hc
    rw [hlq] at *
    exact ⟨.slice A 0 0, fun W => by go_simp, fun W => by go_simp, cut_zero (fun _ => rfl) (by simp [maxLen]), fun T _ => typed_nil _ _ _⟩
  · have k4 : ¬ c = q := hc
    by_cases hb : b.length = 0
    · have hq0 : q = 0 := by omega
      subst hq0
      have e : b = [] := List.eq_nil_of_length_eq_zero hb
      subst e
      obtain ⟨ad, rfl⟩ : ∃ ad, A = some ad := by
        cases A with
        | none => exact absurd (h4 rfl) hc
        | some ad => exact ⟨ad, rfl⟩
      exact ⟨.slice (some (ad.add 0)) 0 c, fun W => by go_simp, fun W => by go_simp, cut_zero (fun h => by cases h) h3, fun T _ => typed_nil _ _ _⟩
    · obtain ⟨bl, o, rfl, h7, h8⟩ := h6 (by omega)
      clear h6 h8
      exact ⟨_, fun W => by go_simp, fun W => by go_simp, Row.tail hk q hq, fun T ht => fun _ => by
        obtain ⟨b1, o1, n1, c1, cur, e1, e2⟩ := ht (by omega)
        injection e1 with e1
        injection e1 with e1
        injection e1 with e1 e3
        subst e1
        exact ⟨_, _, _, _, cur, rfl, e2⟩⟩
/-- The first so many numbers of a slice, with no room behind them. -/
theorem head3_slice {w : World} {v : Value} {b : List Int} (h : Row w .u8 v b) (q : Nat) (hq : q ≤ b.length) :
    ∃ v2, (∀ W, (Instr.slice 22 v none (some (.int .i64 q)) (some (.int .i64 q))).run Tryd.prog W = .ok v2 W) ∧ (∀ W, (Instr.sliceAt 22 v none (some (.int .i64 q)) (some (.int .i64 q))).run Tryd.prog W = .ok v2 W) ∧ Row w .u8 v2 (b.take q) := by
  obtain ⟨A, c, rfl, h2, h3, h4, h5, h6⟩ := h
  have k3 : q ≤ c := by omega
  by_cases hq0 : q = 0
  · subst hq0
    exact ⟨.slice A 0 0, fun W => by cases A <;> go_simp, fun W => by cases A <;> go_simp, cut_zero (fun _ => rfl) (by simp [maxLen])⟩
  · obtain ⟨bl, o, rfl, h7, h8⟩ := h6 (by omega)
    clear h6
    have h9 : (b.take q).length = q := by simp; omega
    have k2 : ¬ q = 0 := hq0
    refine ⟨.slice (some ⟨bl, o, none⟩) q q, fun W => by clear h8; go_simp, fun W => by clear h8; go_simp, ⟨_, _, by rw [h9], by omega, by omega, (fun h => by cases h), h5.take q, fun _ => ⟨bl, o, rfl, h7, fun j hj => ?_⟩⟩⟩
    rw [h8 j (by omega)]
    simp [gi, show j < q by omega]
end Go.Proofs.YtecgldkhjgcffaaDoor
