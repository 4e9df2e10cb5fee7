/- Several texts of this proof, one behind the other. -/
import Derived.Test.YtokmeomjdpfknaaGreatDoorZaW
import Derived.Test.YtokmeomjdpfknaaGreatDoorZaF
import Derived.Test.YtokmeomjdpfknaaGreatDoorZaAD
import Derived.Test.YtokmeomjdpfknaaGreatDoorZaC
import Derived.Test.YtokmeomjdpfknaaGreatDoorZaD
import Derived.Test.YtokmeomjdpfknaaGreatDoorZaL
import Derived.BigQuiet
/- The program's slices.Equal over texts, walked. -/
namespace Go.Proofs.YtokmeomjdpfknaaGreatDoor
open Go.RowKit
set_option linter.unusedVariables false

theorem gs_get {l : List ByteArray} {j : Nat} (h : j < l.length) : gs l j = l[j] := by
  unfold gs Shp.el
  rw [List.getD_eq_getElem?_getD, List.getElem?_eq_getElem h]
  rfl
theorem gs_take {l : List ByteArray} {j : Nat} (h : j < l.length) : l.take (j + 1) = l.take j ++ [gs l j] := by
  rw [gs_get h, List.take_append_getElem h]
theorem ret_dd {b c : Bool} (h : b = c) : Ending.returned (.bool b) = .returned (.bool c) := by rw [h]
theorem str_ne {s t : ByteArray} (h : ¬ s = t) : (s.toList == t.toList) = false := by
  rw [beq_eq_false_iff_ne]
  intro e
  have h1 : s.toList = s.data.toList := bs_nil s.data.toList
  have h2 : t.toList = t.data.toList := bs_nil t.data.toList
  rw [h1, h2] at e
  exact h (show bs s.data.toList = bs t.data.toList by rw [e])
set_option maxHeartbeats 4000000 in
theorem equalS_any (v1 v2 : Value) (l1 l2 : List ByteArray) (w : World) (h1 : ShS.Row w v1 l1) (h2 : ShS.Row w v2 l2) :
    Calls Tryz.prog 38 #[v1, v2] w fun e w' => e = .returned (.bool (decide (l1 = l2))) ∧ ∃ m, w' = w.drewN m := by
  have H1 := Lib.hid h1
  have H2 := Lib.hid h2
  obtain ⟨A1, c1, rfl, hc1, hm1, -⟩ := h1.cut
  obtain ⟨A2, c2, rfl, hc2, hm2, -⟩ := h2.cut
  clear h1 h2
  unfold maxLen at hm1 hm2
  by_cases hl : l1.length = l2.length
  · obtain ⟨n, hn⟩ : ∃ n, n = l1.length := ⟨_, rfl⟩
    rw [← hn] at hc1 H1 ⊢
    rw [← hl, ← hn] at hc2 H2 ⊢
    have Hn := Lib.hid hn
    have Hl := Lib.hid hl
    clear hn hl
    go_enter Tryz.func38, Tryz.ntmps38
    go_wp2
    go_loopw [13] (fun i wr => ∃ k m : Nat, k ≤ n ∧ i = .int .i64 k ∧ wr = w.drewN m ∧ Hid (l1.take k = l2.take k)) (fun i _ => n - (intOf i).toNat)
    case atStart => exact ⟨0, 0, by omega, rfl, rfl, Lib.hid rfl⟩
    case round =>
      obtain ⟨k, m, hk, rfl, rfl, Ht⟩ := hrel
      by_cases hlt : k < n
      · obtain ⟨b1, o1, rfl, hx1⟩ := rowS_at H1.out (by have := Hn.out; omega)
        obtain ⟨b2, o2, rfl, hx2⟩ := rowS_at H2.out (by have := Hn.out; have := Hl.out; omega)
        have y0 := hx1 w (Ext.refl w) k (by have := Hn.out; omega)
        have u0 := hx2 w (Ext.refl w) k (by have := Hn.out; have := Hl.out; omega)
        clear hx1 hx2
        obtain ⟨s, hs⟩ : ∃ s, gs l1 k = s := ⟨_, rfl⟩
        obtain ⟨t, ht⟩ : ∃ s, gs l2 k = s := ⟨_, rfl⟩
        rw [hs] at y0
        rw [ht] at u0
        by_cases he : s = t
        · have HE := Lib.hid (show gs l1 k = gs l2 k by rw [hs, ht, he])
          subst he
          clear hs ht
          go_wp2
          go_quiet (fail)
          go_wp2
          refine ⟨⟨k + 1, m + nq, by omega, by go_num, rfl, Lib.hid ?_⟩, by simp [intOf]; omega⟩
          rw [gs_take (by have := Hn.out; omega), gs_take (by have := Hn.out; have := Hl.out; omega), Ht.out, HE.out]
        · have HE := Lib.hid (show decide (l1 = l2) = false by
            rw [decide_eq_false_iff_not]
            intro e
            exact he (by rw [← hs, ← ht, e]))
          have hne := str_ne he
          clear hs ht he
          go_wp2
          go_quiet (fail)
          go_wp2
          go_ret
          exact ⟨ret_dd HE.out.symm, _, World.drewN_drewN _ _ _⟩
      · obtain rfl : k = n := by omega
        go_wp2
        go_ret
        refine ⟨ret_dd ?_, _, rfl⟩
        have := Ht.out
        rw [Hn.out] at this
        rw [List.take_length, Hl.out, List.take_length] at this
        exact (decide_eq_true this).symm
  · have hb : ((l1.length : Int) != (l2.length : Int)) = true := by simp; omega
    have HE := Lib.hid (show decide (l1 = l2) = false by rw [decide_eq_false_iff_not]; exact fun e => hl (by rw [e]))
    rw [HE.out]
    clear hl H1 H2
    go_enter Tryz.func38, Tryz.ntmps38
    go_wp2
    go_ret
    exact ⟨rfl, 0, rfl⟩
end Go.Proofs.YtokmeomjdpfknaaGreatDoor
/- The program's slices.Equal over constants, handlers and fields, walked. (gen_cleq.py) -/
namespace Go.Proofs.YtokmeomjdpfknaaGreatDoor
open Go.RowKit
set_option linter.unusedVariables false

theorem gh_take {l : List Hd} {j : Nat} (h : j < l.length) : l.take (j + 1) = l.take j ++ [gh l j] := by
  rw [gh_get h, List.take_append_getElem h]
theorem gf_take {l : List Fd} {j : Nat} (h : j < l.length) : l.take (j + 1) = l.take j ++ [gf l j] := by
  have e := gf_some h
  rw [List.getElem?_eq_getElem h] at e
  injection e with e
  rw [← e, List.take_append_getElem h]
theorem run_neqCz (x y : Cst) (W : World) : (binOp .neq 49 (.agg x.vals) (.agg y.vals)).run Tryz.prog W = .ok (.bool (!decide (x = y))) W := by
  rw [run_neq6]
  by_cases h : x = y <;> simp [eqC, h]
theorem Hd.ext_ {x y : Hd} (h0 : x.f = y.f) (h1 : x.t = y.t) (h2 : x.a = y.a) (h3 : x.c = y.c) : x = y := by
  cases x; cases y
  simp only at h0 h1 h2 h3
  rw [h0, h1, h2, h3]
theorem Fd.ext_ {x y : Fd} (h0 : x.st = y.st) (h1 : x.nm = y.nm) (h2 : x.ty.k = y.ty.k) (h3 : x.ty.s = y.ty.s) : x = y := by
  obtain ⟨a, b, c, d⟩ := x
  obtain ⟨a', b', c', d'⟩ := y
  simp only at h0 h1 h2 h3
  rw [h0, h1, h2, h3]
theorem run_neqH (x y : Hd) (W : World) : (binOp .neq 58 (.agg x.vals) (.agg y.vals)).run Tryz.prog W = .ok (.bool (!decide (x = y))) W := by
  unfold Hd.vals
  go_simp
  by_cases h : x = y
  · subst h
    simp
  · rw [decide_eq_false h]
    (repeat' split) <;> first | rfl | (exact (h (Hd.ext_ ‹x.f = y.f› ‹x.t = y.t› ‹x.a = y.a› ‹x.c = y.c›)).elim)
theorem run_neqF (x y : Fd) (W : World) : (binOp .neq 63 (.agg x.vals) (.agg y.vals)).run Tryz.prog W = .ok (.bool (!decide (x = y))) W := by
  unfold Fd.vals
  go_simp
  by_cases h : x = y
  · subst h
    simp
  · rw [decide_eq_false h]
    (repeat' split) <;> first | rfl | (exact (h (Fd.ext_ ‹x.st = y.st› (toList_inj ‹x.nm.toList = y.nm.toList›) ‹x.ty.k = y.ty.k› (toList_inj ‹x.ty.s.toList = y.ty.s.toList›))).elim)
set_option maxHeartbeats 4000000 in
theorem equalH_any (v1 v2 : Value) (l1 l2 : List Hd) (w : World) (h1 : ShH.Row w v1 l1) (h2 : ShH.Row w v2 l2) :
    Calls Tryz.prog 88 #[v1, v2] w fun e w' => e = .returned (.bool (decide (l1 = l2))) ∧ ∃ m, w' = w.drewN m := by
  have H1 := Lib.hid h1
  have H2 := Lib.hid h2
  obtain ⟨A1, c1, rfl, hc1, hm1, -⟩ := h1.cut
  obtain ⟨A2, c2, rfl, hc2, hm2, -⟩ := h2.cut
  clear h1 h2
  unfold maxLen at hm1 hm2
  by_cases hl : l1.length = l2.length
  · obtain ⟨n, hn⟩ : ∃ n, n = l1.length := ⟨_, rfl⟩
    rw [← hn] at hc1 H1 ⊢
    rw [← hl, ← hn] at hc2 H2 ⊢
    have Hn := Lib.hid hn
    have Hl := Lib.hid hl
    clear hn hl
    go_enter Tryz.func88, Tryz.ntmps88
    go_wp2
    go_loopw [13] (fun i wr => ∃ k m : Nat, k ≤ n ∧ i = .int .i64 k ∧ wr = w.drewN m ∧ Hid (l1.take k = l2.take k)) (fun i _ => n - (intOf i).toNat)
    case atStart => exact ⟨0, 0, by omega, rfl, rfl, Lib.hid rfl⟩
    case round =>
      obtain ⟨k, m, hk, rfl, rfl, Ht⟩ := hrel
      by_cases hlt : k < n
      · obtain ⟨b1, o1, rfl, hx1⟩ := rowH_at H1.out (by have := Hn.out; omega)
        obtain ⟨b2, o2, rfl, hx2⟩ := rowH_at H2.out (by have := Hn.out; have := Hl.out; omega)
        obtain ⟨y0, y1, y2, y3⟩ := hx1 w (Ext.refl w) k (by have := Hn.out; omega)
        obtain ⟨u0, u1, u2, u3⟩ := hx2 w (Ext.refl w) k (by have := Hn.out; have := Hl.out; omega)
        have hne := fun W => run_neqH (gh l1 k) (gh l2 k) W
        unfold Hd.vals at hne
        clear hx1 hx2
        by_cases he : gh l1 k = gh l2 k
        · rw [decide_eq_true he] at hne
          have HE := Lib.hid he
          clear he
          go_wp2
          go_quiet (fail)
          go_wp2
          refine ⟨⟨k + 1, m + nq, by omega, by go_num, rfl, Lib.hid ?_⟩, by simp [intOf]; omega⟩
          rw [gh_take (by have := Hn.out; omega), gh_take (by have := Hn.out; have := Hl.out; omega), Ht.out, HE.out]
        · rw [decide_eq_false he] at hne
          have HE := Lib.hid (show decide (l1 = l2) = false by
            rw [decide_eq_false_iff_not]
            exact fun e => he (by rw [e]))
          clear he
          go_wp2
          go_quiet (fail)
          go_wp2
          go_ret
          exact ⟨ret_dd HE.out.symm, _, World.drewN_drewN _ _ _⟩
      · obtain rfl : k = n := by omega
        go_wp2
        go_ret
        refine ⟨ret_dd ?_, _, rfl⟩
        have := Ht.out
        rw [Hn.out] at this
        rw [List.take_length, Hl.out, List.take_length] at this
        exact (decide_eq_true this).symm
  · have hb : ((l1.length : Int) != (l2.length : Int)) = true := by simp; omega
    have HE := Lib.hid (show decide (l1 = l2) = false by rw [decide_eq_false_iff_not]; exact fun e => hl (by rw [e]))
    rw [HE.out]
    clear hl H1 H2
    go_enter Tryz.func88, Tryz.ntmps88
    go_wp2
    go_ret
    exact ⟨rfl, 0, rfl⟩
set_option maxHeartbeats 4000000 in
theorem equalF_any (v1 v2 : Value) (l1 l2 : List Fd) (w : World) (h1 : ShF.Row w v1 l1) (h2 : ShF.Row w v2 l2) :
    Calls Tryz.prog 39 #[v1, v2] w fun e w' => e = .returned (.bool (decide (l1 = l2))) ∧ ∃ m, w' = w.drewN m := by
  have H1 := Lib.hid h1
  have H2 := Lib.hid h2
  obtain ⟨A1, c1, rfl, hc1, hm1, -⟩ := h1.cut
  obtain ⟨A2, c2, rfl, hc2, hm2, -⟩ := h2.cut
  clear h1 h2
  unfold maxLen at hm1 hm2
  by_cases hl : l1.length = l2.length
  · obtain ⟨n, hn⟩ : ∃ n, n = l1.length := ⟨_, rfl⟩
    rw [← hn] at hc1 H1 ⊢
    rw [← hl, ← hn] at hc2 H2 ⊢
    have Hn := Lib.hid hn
    have Hl := Lib.hid hl
    clear hn hl
    go_enter Tryz.func39, Tryz.ntmps39
    go_wp2
    go_loopw [13] (fun i wr => ∃ k m : Nat, k ≤ n ∧ i = .int .i64 k ∧ wr = w.drewN m ∧ Hid (l1.take k = l2.take k)) (fun i _ => n - (intOf i).toNat)
    case atStart => exact ⟨0, 0, by omega, rfl, rfl, Lib.hid rfl⟩
    case round =>
      obtain ⟨k, m, hk, rfl, rfl, Ht⟩ := hrel
      by_cases hlt : k < n
      · obtain ⟨b1, o1, rfl, hx1⟩ := rowF_at H1.out (by have := Hn.out; omega)
        obtain ⟨b2, o2, rfl, hx2⟩ := rowF_at H2.out (by have := Hn.out; have := Hl.out; omega)
        obtain ⟨y0, y1, y2, y3⟩ := hx1 w (Ext.refl w) k (by have := Hn.out; omega)
        obtain ⟨u0, u1, u2, u3⟩ := hx2 w (Ext.refl w) k (by have := Hn.out; have := Hl.out; omega)
        have hne := fun W => run_neqF (gf l1 k) (gf l2 k) W
        unfold Fd.vals at hne
        clear hx1 hx2
        by_cases he : gf l1 k = gf l2 k
        · rw [decide_eq_true he] at hne
          have HE := Lib.hid he
          clear he
          go_wp2
          go_quiet (fail)
          go_wp2
          refine ⟨⟨k + 1, m + nq, by omega, by go_num, rfl, Lib.hid ?_⟩, by simp [intOf]; omega⟩
          rw [gf_take (by have := Hn.out; omega), gf_take (by have := Hn.out; have := Hl.out; omega), Ht.out, HE.out]
        · rw [decide_eq_false he] at hne
          have HE := Lib.hid (show decide (l1 = l2) = false by
            rw [decide_eq_false_iff_not]
            exact fun e => he (by rw [e]))
          clear he
          go_wp2
          go_quiet (fail)
          go_wp2
          go_ret
          exact ⟨ret_dd HE.out.symm, _, World.drewN_drewN _ _ _⟩
      · obtain rfl : k = n := by omega
        go_wp2
        go_ret
        refine ⟨ret_dd ?_, _, rfl⟩
        have := Ht.out
        rw [Hn.out] at this
        rw [List.take_length, Hl.out, List.take_length] at this
        exact (decide_eq_true this).symm
  · have hb : ((l1.length : Int) != (l2.length : Int)) = true := by simp; omega
    have HE := Lib.hid (show decide (l1 = l2) = false by rw [decide_eq_false_iff_not]; exact fun e => hl (by rw [e]))
    rw [HE.out]
    clear hl H1 H2
    go_enter Tryz.func39, Tryz.ntmps39
    go_wp2
    go_ret
    exact ⟨rfl, 0, rfl⟩
set_option maxHeartbeats 4000000 in
theorem equalC_any (v1 v2 : Value) (l1 l2 : List Cst) (w : World) (h1 : ShC.Row w v1 l1) (h2 : ShC.Row w v2 l2) :
    Calls Tryz.prog 37 #[v1, v2] w fun e w' => e = .returned (.bool (decide (l1 = l2))) ∧ ∃ m, w' = w.drewN m := by
  have H1 := Lib.hid h1
  have H2 := Lib.hid h2
  obtain ⟨A1, c1, rfl, hc1, hm1, -⟩ := h1.cut
  obtain ⟨A2, c2, rfl, hc2, hm2, -⟩ := h2.cut
  clear h1 h2
  unfold maxLen at hm1 hm2
  by_cases hl : l1.length = l2.length
  · obtain ⟨n, hn⟩ : ∃ n, n = l1.length := ⟨_, rfl⟩
    rw [← hn] at hc1 H1 ⊢
    rw [← hl, ← hn] at hc2 H2 ⊢
    have Hn := Lib.hid hn
    have Hl := Lib.hid hl
    clear hn hl
    go_enter Tryz.func37, Tryz.ntmps37
    go_wp2
    go_loopw [13] (fun i wr => ∃ k m : Nat, k ≤ n ∧ i = .int .i64 k ∧ wr = w.drewN m ∧ Hid (l1.take k = l2.take k)) (fun i _ => n - (intOf i).toNat)
    case atStart => exact ⟨0, 0, by omega, rfl, rfl, Lib.hid rfl⟩
    case round =>
      obtain ⟨k, m, hk, rfl, rfl, Ht⟩ := hrel
      by_cases hlt : k < n
      · obtain ⟨b1, o1, rfl, hx1⟩ := rowC_at H1.out (by have := Hn.out; omega)
        obtain ⟨b2, o2, rfl, hx2⟩ := rowC_at H2.out (by have := Hn.out; have := Hl.out; omega)
        obtain ⟨y0, y1, y2, y3, y4, y5⟩ := hx1 w (Ext.refl w) k (by have := Hn.out; omega)
        obtain ⟨u0, u1, u2, u3, u4, u5⟩ := hx2 w (Ext.refl w) k (by have := Hn.out; have := Hl.out; omega)
        have hne := fun W => run_neqCz (gc l1 k) (gc l2 k) W
        unfold Cst.vals at hne
        clear hx1 hx2
        by_cases he : gc l1 k = gc l2 k
        · rw [decide_eq_true he] at hne
          have HE := Lib.hid he
          clear he
          go_wp2
          go_quiet (fail)
          go_wp2
          refine ⟨⟨k + 1, m + nq, by omega, by go_num, rfl, Lib.hid ?_⟩, by simp [intOf]; omega⟩
          rw [takeC_one (by have := Hn.out; omega), takeC_one (by have := Hn.out; have := Hl.out; omega), Ht.out, HE.out]
        · rw [decide_eq_false he] at hne
          have HE := Lib.hid (show decide (l1 = l2) = false by
            rw [decide_eq_false_iff_not]
            exact fun e => he (by rw [e]))
          clear he
          go_wp2
          go_quiet (fail)
          go_wp2
          go_ret
          exact ⟨ret_dd HE.out.symm, _, World.drewN_drewN _ _ _⟩
      · obtain rfl : k = n := by omega
        go_wp2
        go_ret
        refine ⟨ret_dd ?_, _, rfl⟩
        have := Ht.out
        rw [Hn.out] at this
        rw [List.take_length, Hl.out, List.take_length] at this
        exact (decide_eq_true this).symm
  · have hb : ((l1.length : Int) != (l2.length : Int)) = true := by simp; omega
    have HE := Lib.hid (show decide (l1 = l2) = false by rw [decide_eq_false_iff_not]; exact fun e => hl (by rw [e]))
    rw [HE.out]
    clear hl H1 H2
    go_enter Tryz.func37, Tryz.ntmps37
    go_wp2
    go_ret
    exact ⟨rfl, 0, rfl⟩
end Go.Proofs.YtokmeomjdpfknaaGreatDoor
/- The program's reader of classes, walked: keep, bytes, number, upTo, text. -/
namespace Go.Proofs.YtokmeomjdpfknaaGreatDoor
open Go.RowKit
set_option linter.unusedVariables false

def RK (w0 w : World) (g : Nat) (s : RSt) : Prop :=
  ∃ v, w.heap[g]? = some (.cells #[v, .bool s.2] 82 (0, 0)) ∧ Row w0 .u8 v s.1 ∧ Ext w0 w ∧ w0.heap.size ≤ g
section
variable {w0 w w' : World} {g : Nat} {s : RSt}
theorem RK.lt (h : RK w0 w g s) : g < w.heap.size := by
  obtain ⟨v, hg, _⟩ := h
  exact lt_of_get hg
theorem RK.base (h : RK w0 w g s) : w0.heap.size ≤ g := by
  obtain ⟨v, hg, _, _, h4⟩ := h
  exact h4
theorem RK.ext0 (h : RK w0 w g s) : Ext w0 w := by
  obtain ⟨v, hg, _, h3, h4⟩ := h
  exact h3
theorem RK.fit (h : RK w0 w g s) : Fit .u8 s.1 := by
  obtain ⟨v, hg, h2, h3, h4⟩ := h
  exact h2.fit
theorem RK.ext (h : RK w0 w g s) (he : Ext w w') : RK w0 w' g s := by
  obtain ⟨v, hg, h2, h3, h4⟩ := h
  exact ⟨v, (he.block g (lt_of_get hg)).trans hg, h2, h3.trans he, h4⟩
theorem RK.kept {r : Option Nat} (h : RK w0 w g s) (hw : w.grownBy w' r) (hr : ∀ b, r = some b → b ≠ g ∧ w0.heap.size ≤ b) : RK w0 w' g s := by
  obtain ⟨v, hg, h2, h3, h4⟩ := h
  exact ⟨v, (hw.block g (lt_of_get hg) (fun e => (hr g e.symm).1 rfl)).trans hg, h2, h3.grown hw (fun b hb => (hr b hb).2), h4⟩
theorem RK.typed (h : RK w0 w g s) : ∃ c z, w.heap[g]? = some (.cells c 82 z) := by
  obtain ⟨v, hg, _⟩ := h
  exact ⟨_, _, hg⟩
theorem RK.cells (h : RK w0 w g s) :
    ∃ A c, s.1.length ≤ c ∧ c ≤ maxLen ∧ Row w0 .u8 (.slice A s.1.length c) s.1 ∧ w.cell? ⟨g, 0, none⟩ = some (.slice A s.1.length c) ∧ w.cell? ⟨g, 1, none⟩ = some (.bool s.2) ∧ w.frozen? ⟨g, 0, none⟩ = false ∧ w.frozen? ⟨g, 1, none⟩ = false := by
  obtain ⟨v, hg, hr, h3, h4⟩ := h
  have hr' := hr
  obtain ⟨A, c, rfl, h5, h6, _⟩ := hr'
  exact ⟨A, c, h5, h6, hr, by rw [cell_of_row w g 0 _ _ (0, 0) hg]; rfl, by rw [cell_of_row w g 1 _ _ (0, 0) hg]; rfl, by simp [World.frozen?, hg], by simp [World.frozen?, hg]⟩
theorem RK.setBad (h : RK w0 w g s) (x : Bool) : RK w0 (w.setCell ⟨g, 1, none⟩ (.bool x)) g (s.1, x) := by
  obtain ⟨v, hg, hr, h3, h4⟩ := h
  have h1 := heap_setCell_same w g 1 _ 82 (.bool x) hg
  exact ⟨v, by rw [h1]; rfl, hr, h3.set_ h4 _, h4⟩
theorem RK.setRow (h : RK w0 w g s) {m : List Int} {v : Value} (hv : Row w0 .u8 v m) : RK w0 (w.setCell ⟨g, 0, none⟩ v) g (m, s.2) := by
  obtain ⟨v0, hg, hr, h3, h4⟩ := h
  have h1 := heap_setCell_same w g 0 _ 82 v hg
  exact ⟨v, by rw [h1]; rfl, hv, h3.set_ h4 _, h4⟩
end
def KRet (w0 w : World) (g : Nat) (s : RSt) (v : Value) (x : Ending) (w' : World) : Prop := x = .returned v ∧ RK w0 w' g s ∧ w.grownBy w' (some g)
theorem keep_any (w0 w : World) (g : Nat) (s : RSt) (e : Int) (h : RK w0 w g s) :
    Calls Tryz.prog 145 #[.pointer (some ⟨g, 0, none⟩), .int .i64 e] w (KRet w0 w g (s.1, s.2 || decide (e ≠ 0)) (.tuple #[])) := by
  obtain ⟨A, c, hc1, hc2, hrow, a0, a1, f0, f1⟩ := h.cells
  have HS := Lib.hid (fun x => h.setBad x)
  obtain ⟨l, b⟩ := s
  simp only at a0 a1 HS ⊢
  clear h hrow
  cases b
  · by_cases he : e = 0
    · subst he
      go_enter Tryz.func145, Tryz.ntmps145
      go_wp2
      refine bodyPost_ret (results_tmp0 rfl _ _ _) rfl ?_
      exact ⟨rfl, HS.out false, only_set (World.grownBy.refl w _) 1 _⟩
    · have hb : (e != 0) = true := by simpa using he
      rw [decide_eq_true he]
      clear he
      go_enter Tryz.func145, Tryz.ntmps145
      go_wp2
      refine bodyPost_ret (results_tmp0 rfl _ _ _) rfl ?_
      exact ⟨rfl, HS.out true, only_set (World.grownBy.refl w _) 1 _⟩
  · rw [Bool.true_or]
    go_enter Tryz.func145, Tryz.ntmps145
    go_wp2
    refine bodyPost_ret (results_tmp0 rfl _ _ _) rfl ?_
    exact ⟨rfl, HS.out true, only_set (World.grownBy.refl w _) 1 _⟩
set_option maxHeartbeats 2000000 in
theorem rbytes_any (w0 w : World) (g : Nat) (s : RSt) (n : Int) (h0 : 0 ≤ n) (h : RK w0 w g s) :
    Calls Tryz.prog 90 #[.pointer (some ⟨g, 0, none⟩), .int .i64 n] w fun x w' => ∃ v, KRet w0 w g (gB n s).2 v x w' ∧ Row w0 .u8 v (gB n s).1 := by
  obtain ⟨A, c, hc1, hc2, hrow, a0, a1, f0, f1⟩ := h.cells
  unfold maxLen at hc2
  have HS := Lib.hid (fun x => h.setBad x)
  have hlt := h.lt
  have H := Lib.hid h
  obtain ⟨l, b⟩ := s
  simp only at a0 a1 HS hc1 hrow ⊢
  obtain ⟨N, rfl⟩ := Int.eq_ofNat_of_zero_le h0
  by_cases hn : (l.length : Int) < N
  · have e : gB N (l, b) = ([], l, true) := by unfold gB; rw [if_pos (.inr hn)]
    rw [e]
    clear hrow h
    go_enter Tryz.func90, Tryz.ntmps90
    go_wp2
    go_ret
    exact ⟨_, ⟨rfl, HS.out true, only_set (World.grownBy.refl w _) 1 _⟩, (Own.nil 0 _ 5 _).row⟩
  · cases b
    · have e : gB N (l, false) = (l.take N, l.drop N, false) := by unfold gB; rw [if_neg (by simp; omega)]; simp
      rw [e]
      have hN : N ≤ l.length := by omega
      obtain ⟨v3, s3, s3', hh⟩ := head_slice hrow N hN
      obtain ⟨v4, t4, t4', ht⟩ := tail_slice hrow N hN
      have HT := Lib.hid (h.setRow ht)
      have HH := Lib.hid hh
      obtain ⟨A4, c4, hv4, -⟩ := id ht
      rw [List.length_drop] at hv4
      subst hv4
      obtain ⟨A3, c3, hv3, -⟩ := id hh
      have h3 : (l.take N).length = N := by simp; omega
      rw [h3] at hv3
      subst hv3
      clear ht hh hrow h h3 hN
      go_enter Tryz.func90, Tryz.ntmps90
      go_wp2
      go_ret
      exact ⟨_, ⟨rfl, HT.out, only_set (World.grownBy.refl w _) 0 _⟩, HH.out⟩
    · have e : gB N (l, true) = ([], l, true) := by unfold gB; rw [if_pos (.inl rfl)]
      rw [e]
      clear hrow h
      go_enter Tryz.func90, Tryz.ntmps90
      go_wp2
      go_ret
      exact ⟨_, ⟨rfl, H.out, World.grownBy.refl w _⟩, (Own.nil 0 _ 5 _).row⟩
theorem gU_le (s : RSt) : (gU s).2.1.length ≤ s.1.length := by
  unfold gU
  split
  · exact Nat.le_refl _
  · simp
theorem gB_le (n : Int) (s : RSt) : (gB n s).2.1.length ≤ s.1.length ∧ (gB n s).1.length ≤ s.1.length := by
  unfold gB
  split
  · exact ⟨Nat.le_refl _, Nat.zero_le _⟩
  · simp
    omega
theorem gTx_le (s : RSt) : (gTx s).2.1.length ≤ s.1.length ∧ (gTx s).1.size ≤ s.1.length := by
  have h1 := gU_le s
  have h2 := gB_le (gU s).1 (gU s).2
  unfold gTx
  simp only [str_size]
  exact ⟨Nat.le_trans h2.1 h1, Nat.le_trans h2.2 h1⟩
theorem gUp_len (k : Int) (s : RSt) : (gUp k s).2.1.length ≤ s.1.length := by
  unfold gUp
  split
  · exact gU_le s
  · exact gU_le s
set_option maxHeartbeats 1000000 in
theorem rnumber_any (w0 w : World) (g : Nat) (s : RSt) (h : RK w0 w g s) :
    Calls Tryz.prog 146 #[.pointer (some ⟨g, 0, none⟩)] w (KRet w0 w g (gU s).2 (.int .i64 (gU s).1)) := by
  obtain ⟨A, c, hc1, hc2, hrow, a0, a1, f0, f1⟩ := h.cells
  unfold maxLen at hc2
  have hfit := h.fit
  have hlt := h.lt
  have H := Lib.hid h
  obtain ⟨l, b⟩ := s
  simp only at a0 a1 hc1 hrow hfit ⊢
  obtain ⟨q, hq, hq8, hmin⟩ : ∃ q : Nat, q ≤ l.length ∧ (l.take 8 = l.take q ∧ q ≤ 8) ∧ min (8 : Int) (l.length : Int) = (q : Int) := by
    by_cases h8 : l.length < 8
    · exact ⟨l.length, Nat.le_refl _, ⟨by rw [List.take_of_length_le (by omega), List.take_of_length_le (by omega)], by omega⟩, by omega⟩
    · exact ⟨8, by omega, ⟨rfl, by omega⟩, by omega⟩
  obtain ⟨hq8, hq9⟩ := hq8
  obtain ⟨v3, s3, s3', hh⟩ := head_slice hrow q hq
  have hl3 : (l.take q).length = q := by simp; omega
  have hT := Lib.hid (fun W (e : Ext w0 W) => TakeU_any v3 (l.take q) W (hh.ext e) (by omega))
  have hsuf := tU_suf (l.take q)
  have hrl : (tU (l.take q)).2.1.length ≤ q := by have := hsuf.length_le; omega
  obtain ⟨A3, c3, hv3, -⟩ := id hh
  rw [hl3] at hv3
  subst hv3
  have hG : gU (l, b) = if b = true ∨ (tU (l.take q)).2.2 ≠ 0 then (0, l, true) else ((tU (l.take q)).1, l.drop (q - (tU (l.take q)).2.1.length), false) := by
    unfold gU
    simp only [hq8, hl3]
  obtain ⟨G, hGG⟩ : ∃ G, gU (l, b) = G := ⟨_, rfl⟩
  rw [hGG] at hG ⊢
  obtain ⟨R, hR⟩ : ∃ R, tU (l.take q) = R := ⟨_, rfl⟩
  rw [hR] at hT hG hrl
  obtain ⟨n, rest, er⟩ := R
  simp only at hG hrl
  have HG := Lib.hid hG
  have HRL := Lib.hid hrl
  have HQL := Lib.hid hq
  clear hh hrow h hsuf hG hGG hR hq8 hl3 hq9 hfit hrl
  go_enter Tryz.func146, Tryz.ntmps146
  go_wp2
  go_quiet (fail)
  go_wp2_with fail
  refine (hT.out _ (H.out.ext0.drewN _)).mono ?_
  rintro x w1 ⟨v1, rfl, ⟨b1, rfl, ho⟩, x1⟩
  have H1 := Lib.hid (H.out.ext (((Ext.refl w).drewN nq).trans x1))
  have X1 := Lib.hid (((Ext.refl w).drewN nq).trans x1)
  obtain ⟨A1, n1, c1, rfl⟩ := ho.slice
  obtain ⟨_, _, e1, -⟩ := ho.row
  injection e1 with _ e1 _
  subst e1
  clear ho x1
  go_wp2_with fail
  refine (keep_any w0 w1 g (l, b) er H1.out).mono ?_
  rintro x w2 ⟨rfl, h2, g2⟩
  have H2 := Lib.hid h2
  have G2 := Lib.hid (grown_twoP' (ext_grownP X1.out (some g)) g2)
  obtain ⟨A2, c2, -, -, -, d0, d1, e0, e1⟩ := h2.cells
  simp only at d0 d1
  clear h2 g2 a0 a1 f0 f1
  by_cases hw : b = true ∨ er ≠ 0
  · have hbw : (b || decide (er ≠ 0)) = true := by
      rcases hw with hw | hw
      · rw [hw]; rfl
      · rw [decide_eq_true hw]; simp
    have HE := Lib.hid (HG.out.trans (if_pos hw))
    rw [hbw] at d1 H2
    clear hw hbw
    go_wp2_with fail
    go_wp2
    go_ret
    rw [HE.out]
    exact ⟨rfl, H2.out, G2.out⟩
  · have hbw : (b || decide (er ≠ 0)) = false := by
      cases b
      · have : er = 0 := by simpa using hw
        rw [this]; rfl
      · exact absurd (.inl rfl) hw
    have HE := Lib.hid (HG.out.trans (if_neg hw))
    rw [hbw] at d1 H2
    have hrl := HRL.out
    have hw2 : IntKind.i64.wrap ((q : Int) - (rest.length : Int)) = ((q - rest.length : Nat) : Int) := by rw [IntKind.wrap_i64]; omega
    have eB : gB ((q - rest.length : Nat) : Int) (l, false) = (l.take (q - rest.length), l.drop (q - rest.length), false) := by
      unfold gB
      rw [if_neg (by simp; omega)]
      simp
    have HB := Lib.hid (rbytes_any w0 w2 g (l, false) ((q - rest.length : Nat) : Int) (by omega) H2.out)
    rw [eB] at HB
    clear hw hbw eB hrl
    go_wp2_with fail
    refine HB.out.mono ?_
    rintro x w3 ⟨v3, ⟨rfl, h3, g3⟩, r3⟩
    have H3 := Lib.hid h3
    have G3 := Lib.hid g3
    obtain ⟨_, _, rfl, -⟩ := r3
    clear h3 g3
    go_wp2
    go_ret
    rw [HE.out]
    exact ⟨rfl, H3.out, grown_twoP' G2.out G3.out⟩
set_option maxHeartbeats 2000000 in
theorem rupTo_any (w0 w : World) (g : Nat) (s : RSt) (k : Int) (h : RK w0 w g s) :
    Calls Tryz.prog 92 #[.pointer (some ⟨g, 0, none⟩), .int .i64 k] w (KRet w0 w g (gUp k s).2 (.int .i64 (gUp k s).1)) := by
  have HN := Lib.hid (rnumber_any w0 w g s h)
  have hG : gUp k s = if k < (gU s).1 then (0, (gU s).2.1, true) else gU s := rfl
  obtain ⟨G, hGG⟩ : ∃ G, gUp k s = G := ⟨_, rfl⟩
  rw [hGG] at hG ⊢
  obtain ⟨R, hR⟩ : ∃ R, gU s = R := ⟨_, rfl⟩
  rw [hR] at HN hG
  obtain ⟨n, l, b⟩ := R
  simp only at hG
  have HG := Lib.hid hG
  clear h hG hGG hR
  go_enter Tryz.func92, Tryz.ntmps92
  go_wp2_with fail
  refine HN.out.mono ?_
  rintro x w1 ⟨rfl, h1, g1⟩
  have H1 := Lib.hid h1
  have G1 := Lib.hid g1
  obtain ⟨A1, c1, -, -, -, d0, d1, e0, e1⟩ := h1.cells
  simp only at d0 d1
  clear h1 g1
  by_cases hk : k < n
  · have HE := Lib.hid (HG.out.trans (if_pos hk))
    go_wp2
    go_ret
    rw [HE.out]
    exact ⟨rfl, H1.out.setBad true, only_set G1.out 1 _⟩
  · have HE := Lib.hid (HG.out.trans (if_neg hk))
    go_wp2
    go_ret
    rw [HE.out]
    exact ⟨rfl, H1.out, G1.out⟩
set_option maxHeartbeats 2000000 in
theorem rtext_anyK (w0 w : World) (g : Nat) (s : RSt) (h : RK w0 w g s) :
    Calls Tryz.prog 93 #[.pointer (some ⟨g, 0, none⟩)] w (KRet w0 w g (gTx s).2 (.string (gTx s).1)) := by
  have HN := Lib.hid (rnumber_any w0 w g s h)
  have hn := (gU_nn h.fit).1
  have HB := Lib.hid (fun W (hW : RK w0 W g (gU s).2) => rbytes_any w0 W g (gU s).2 (gU s).1 hn hW)
  unfold gTx
  obtain ⟨X, hX⟩ : ∃ X, gB (gU s).1 (gU s).2 = X := ⟨_, rfl⟩
  rw [hX] at HB ⊢
  obtain ⟨R, hR⟩ : ∃ R, gU s = R := ⟨_, rfl⟩
  rw [hR] at HN HB
  obtain ⟨n, s1⟩ := R
  obtain ⟨xb, s2⟩ := X
  simp only at HN HB ⊢
  clear h hn hX hR
  go_enter Tryz.func93, Tryz.ntmps93
  go_wp2_with fail
  refine HN.out.mono ?_
  rintro x w1 ⟨rfl, h1, g1⟩
  have G1 := Lib.hid g1
  have HB1 := Lib.hid (HB.out w1 h1)
  clear h1 g1
  go_wp2_with fail
  refine HB1.out.mono ?_
  rintro x w2 ⟨v2, ⟨rfl, h2, g2⟩, r2⟩
  have hcv := (r2.ext h2.ext0).conv
  have H2 := Lib.hid h2
  have G2 := Lib.hid (grown_twoP' G1.out g2)
  obtain ⟨_, _, rfl, -⟩ := r2
  clear h2 g2
  go_wp2
  go_ret
  exact ⟨rfl, H2.out, G2.out⟩
end Go.Proofs.YtokmeomjdpfknaaGreatDoor
