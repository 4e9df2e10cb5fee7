/- The function literals of a switch: one place; one key and one place. -/
import Derived.Test.YthobicnhophdlaaOpsQ
namespace Go.Proofs.Ythobicnhophdlaa
open Go.RowKit
set_option linter.unusedVariables false

/-- What a call leaves: a state. -/
def Left (w0 : World) (h r g c0 : Nat) (x : In) (q : List Int × Bool) (e : Ending) (w' : World) : Prop := e = .returned (.tuple #[]) ∧ ∃ v1 v2 v, ST w0 w' h r g c0 x v1 v2 v q
set_option maxRecDepth 100000 in
set_option maxHeartbeats 2000000 in
theorem lit1_any (w0 w : World) (h r g c0 : Nat) (x : In) (v1 v2 v : Value) (q : List Int × Bool) (H : ST w0 w h r g c0 x v1 v2 v q) (ha : 0 ≤ x.a ∧ x.a < 8192) (hl : x.to.length ≤ 100000) :
    Calls Try.prog 42 #[.pointer (some ⟨h, 0, none⟩), .pointer (some ⟨r, 0, none⟩)] w
      (Left w0 h r g c0 { x with to := x.to ++ [x.a + (rdN true 2 true q).1] } (rdN true 2 true q).2) := by
  have hb := rdN_bound (st := true) (en := q.2) (s := 2) (sg := true) (by unfold Siz; simp) (bytes_of H.row)
  have hw := fun W (e : Ext w W) => place_any w0 W g q.1 v x.a q.2 (H.pr.ext e) H.row (H.ext.trans e) H.hg ha
  obtain ⟨z4, z5⟩ := H.xb.cells.2.2.2.2
  have y0 := H.rbcell
  obtain ⟨q1, q2⟩ := q
  simp only at hw hb
  obtain ⟨rr, hrr⟩ : ∃ rr, rdN true 2 true (q1, q2) = rr := ⟨_, rfl⟩
  rw [hrr] at hb ⊢
  simp only [hrr] at hw
  obtain ⟨t, q'⟩ := rr
  simp only at hb hw ⊢
  have HW := Lib.hid hw
  have H0 := Lib.hid H
  have hwf := wf_i64 (x := x.a + t) (by omega) (by omega)
  clear hw hrr H
  go_enter Try.func42, Try.ntmps42
  go_wp2
  go_region_law (first
    | ((refine step_call rfl 40 _ _ rfl #[.pointer (some ⟨g, 0, none⟩)] (by simp [go_sem]) (by simp [go_sem]) ?_); ((with_reducible refine (HW.out _ (Ext.refl w).drew).mono ?_); rintro e w1 hp1); obtain ⟨rfl, u1, hs1⟩ := H0.out.drew.read hp1; refine ⟨_, rfl, ?_⟩; obtain ⟨z41, z51⟩ := hs1.xb.cells.2.2.2.2; have y1 := hs1.rbcell; have z41a := fun o => (hs1.alloc o).xb.cells.2.2.2.2.1)
    | ((refine step_app rfl _ _ w0.heap.size 30 3 _ 8 .i64 rfl Try.underlying30 info64 rfl (by omega) v1 x.to rfl (hs1.alloc _).o1 _ [x.a + t] rfl (Row.built1 _ _ _ _ hwf) (by simp only [List.length_singleton]; omega) (by have := hs1.le; simp; omega) ?_); intro v5 w5 ho5 hgr5 hb5; obtain ⟨hs5, z45, y5, f45⟩ := (hs1.alloc _).app1 ho5 hgr5 hb5; obtain ⟨A5, k5, rfl, -⟩ := ho5.row))
  all_goals
    go_end0
    rw [List.length_append] at hs5
    exact ⟨rfl, _, _, _, hs5⟩
set_option maxRecDepth 100000 in
set_option maxHeartbeats 4000000 in
theorem lit2_any (w0 w : World) (h r g c0 : Nat) (x : In) (v1 v2 v : Value) (q : List Int × Bool) (H : ST w0 w h r g c0 x v1 v2 v q) (ha : 0 ≤ x.a ∧ x.a < 8192) (hl : x.to.length ≤ 100000) (hk : x.ks.length ≤ 100000) :
    Calls Try.prog 43 #[.pointer (some ⟨h, 0, none⟩), .pointer (some ⟨r, 0, none⟩)] w
      (Left w0 h r g c0 { x with ks := x.ks ++ [(rdN true 4 true q).1], to := x.to ++ [x.a + (rdN true 2 true (rdN true 4 true q).2).1] } (rdN true 2 true (rdN true 4 true q).2).2) := by
  have hb := rdN_bound (st := true) (en := q.2) (s := 4) (sg := true) (by unfold Siz; simp) (bytes_of H.row)
  have hw : ∀ W, Ext w W → Calls Try.prog 39 #[.pointer (some ⟨g, 0, none⟩), .int .i64 4] W (PRet w0 W g x.a (rdN true 4 true (q.1, q.2))) := fun W e => signed_any w0 W g q.1 v x.a q.2 4 (H.pr.ext e) H.row (H.ext.trans e) H.hg (by unfold Siz; simp)
  obtain ⟨z4, z5⟩ := H.xb.cells.2.2.2.2
  have y0 := H.rbcell
  obtain ⟨q1, q2⟩ := q
  simp only at hw hb
  obtain ⟨rr, hrr⟩ : ∃ rr, rdN true 4 true (q1, q2) = rr := ⟨_, rfl⟩
  rw [hrr] at hb ⊢
  simp only [hrr] at hw
  obtain ⟨k, q'⟩ := rr
  simp only at hb hw ⊢
  have HW := Lib.hid hw
  have H0 := Lib.hid H
  have hwf := wf_i64 (x := k) (by omega) (by omega)
  clear hw hrr H
  obtain ⟨rr, hrr⟩ : ∃ rr, rdN true 2 true q' = rr := ⟨_, rfl⟩
  rw [hrr]
  have HR := Lib.hid hrr
  clear hrr
  go_enter Try.func43, Try.ntmps43
  go_wp2
  go_region_law (first
    | ((refine step_call rfl 39 _ _ rfl #[.pointer (some ⟨g, 0, none⟩), .int .i64 4] (by simp [go_sem]) (by simp [go_sem]) ?_); ((with_reducible refine (HW.out _ (Ext.refl w).drew).mono ?_); rintro e w1 hp1); obtain ⟨rfl, u1, hs1⟩ := H0.out.drew.read hp1; refine ⟨_, rfl, ?_⟩; obtain ⟨z41, z51⟩ := hs1.xb.cells.2.2.2.2; have y1 := hs1.rbcell; have z51a := fun o => (hs1.alloc o).xb.cells.2.2.2.2.2)
    | ((refine step_app rfl _ _ w0.heap.size 30 3 _ 8 .i64 rfl Try.underlying30 info64 rfl (by omega) v2 x.ks rfl (hs1.alloc _).o2 _ [k] rfl (Row.built1 _ _ _ _ hwf) (by simp only [List.length_singleton]; omega) (by have := hs1.le; simp; omega) ?_); intro v5 w5 ho5 hgr5 hb5; obtain ⟨hs5, z45, y5, f45⟩ := (hs1.alloc _).app2 ho5 hgr5 hb5; obtain ⟨A5, k5, rfl, -⟩ := ho5.row))
  all_goals
    rw [List.length_append] at hs5
    simp only at hs5
    clear hp1 hb5 ho5 hgr5 z41 z51 y1 z51a z45 y5 f45 z4 z5 y0
    obtain ⟨W, hW⟩ : ∃ W, W = w5.setCell ⟨h, 5, none⟩ (.slice A5 (x.ks.length + 1) k5) := ⟨_, rfl⟩
    have hs5' : ST w0 W h r g c0 { x with ks := x.ks ++ [k] } v1 (.slice A5 (x.ks.length + 1) k5) u1 q' := by rw [hW]; exact hs5
    rw [← hW]
    have hb2 := rdN_bound (st := true) (en := q'.2) (s := 2) (sg := true) (by unfold Siz; simp) (bytes_of hs5'.row)
    have hw2 := fun W' (e : Ext W W') => place_any w0 W' g q'.1 u1 x.a q'.2 (hs5'.pr.ext e) hs5'.row (hs5'.ext.trans e) hs5'.hg ha
    rw [show (q'.1, q'.2) = q' from rfl, HR.out] at hb2
    simp only [show (q'.1, q'.2) = q' from rfl, HR.out] at hw2
    obtain ⟨t, q''⟩ := rr
    simp only at hb2 hw2 ⊢
    have HW2 := Lib.hid hw2
    have H2 := Lib.hid hs5'
    have hwf2 := wf_i64 (x := x.a + t) (by omega) (by omega)
    obtain ⟨z4, z5⟩ := hs5'.xb.cells.2.2.2.2
    have y0 := hs5'.rbcell
    clear hw2 hs5 hs5' hs1 hW
    go_wp2
    go_region_law (first
      | ((refine step_call rfl 40 _ _ rfl #[.pointer (some ⟨g, 0, none⟩)] (by simp [go_sem]) (by simp [go_sem]) ?_); ((with_reducible refine (HW2.out _ (Ext.refl W).drew).mono ?_); rintro e w6 hp6); obtain ⟨rfl, u6, hs6⟩ := H2.out.drew.read hp6; refine ⟨_, rfl, ?_⟩; obtain ⟨z46, z56⟩ := hs6.xb.cells.2.2.2.2; have y6 := hs6.rbcell; have z46a := fun o => (hs6.alloc o).xb.cells.2.2.2.2.1)
      | ((refine step_app rfl _ _ w0.heap.size 30 3 _ 8 .i64 rfl Try.underlying30 info64 rfl (by omega) v1 x.to rfl (hs6.alloc _).o1 _ [x.a + t] rfl (Row.built1 _ _ _ _ hwf2) (by simp only [List.length_singleton]; omega) (by have := hs6.le; simp; omega) ?_); intro v7 w7 ho7 hgr7 hb7; obtain ⟨hs7, z47, y7, f47⟩ := (hs6.alloc _).app1 ho7 hgr7 hb7; obtain ⟨A7, k7, rfl, -⟩ := ho7.row))
    all_goals
      go_end0
      rw [List.length_append] at hs7
      exact ⟨rfl, _, _, _, hs7⟩
end Go.Proofs.Ythobicnhophdlaa
