/- Several texts of this proof, one behind the other. -/
import Derived.Test.YtokmeomjdpfknaaGreatDoorZaW
import Derived.Test.YtokmeomjdpfknaaGreatDoorZaQ
import Derived.Test.YtokmeomjdpfknaaGreatDoorZaP
import Derived.Test.YtokmeomjdpfknaaGreatDoorZaM
import Derived.Laws.EntriesVeiled
import Derived.Test.YtokmeomjdpfknaaGreatDoorZaE
import Derived.LoopN
/- The program's Bytes, walked: a constant written behind a row; all of them. -/
namespace Go.Proofs.YtokmeomjdpfknaaGreatDoor
open Go.RowKit
set_option linter.unusedVariables false

theorem uBs_one {n : Int} (h0 : 0 ≤ n) (h1 : n ≤ 9007199254740991) : uBs [n] = dg 1 10 n := by
  simp [uBs, uS_ok h0 h1]
theorem uBs_three {a b c : Int} (a0 : 0 ≤ a) (a1 : a ≤ 4096) (b0 : 0 ≤ b) (b1 : b ≤ 4096) (c0 : 0 ≤ c) (c1 : c ≤ 4096) : uBs [a, b, c] = dg 1 10 a ++ dg 1 10 b ++ dg 1 10 c := by
  have e1 := uS_ok (n := a) (by omega) (by omega)
  have e2 := uS_ok (n := b) (by omega) (by omega)
  have e3 := uS_ok (n := c) (by omega) (by omega)
  simp [uBs, e1, e2, e3]
theorem wf_i64P {x : Int} (h0 : 0 ≤ x) (h1 : x ≤ 9223372036854775807) : (Lit.int .i64 x).wf = true := by
  simp [Lit.wf, IntKind.min, IntKind.max, IntKind.signed, IntKind.bits]
  omega
theorem Row.oneI (w : World) (T : TypeId) (g : Nat) (x : Int) (h0 : 0 ≤ x) (h1 : x ≤ 9007199254740991) (hg : g = w.heap.size) : Row (w.alloc (.cells #[.int .i64 x] T)) .i64 (.slice (some ⟨g, 0, none⟩) 1 1) [x] := by
  subst hg
  exact Row.built1 w .i64 T x (wf_i64P h0 (by omega))
theorem Row.threeI (w : World) (T : TypeId) (g : Nat) (a b c : Int) (a0 : 0 ≤ a) (a1 : a ≤ 4096) (b0 : 0 ≤ b) (b1 : b ≤ 4096) (c0 : 0 ≤ c) (c1 : c ≤ 4096) (hg : g = w.heap.size) : Row (w.alloc (.cells #[.int .i64 a, .int .i64 b, .int .i64 c] T)) .i64 (.slice (some ⟨g, 0, none⟩) 3 3) [a, b, c] := by
  subst hg
  exact Row.built w .i64 T [a, b, c] (fun y hy => by
    have : y = a ∨ y = b ∨ y = c := by simpa using hy
    rcases this with rfl | rfl | rfl
    · exact wf_i64P a0 (by omega)
    · exact wf_i64P b0 (by omega)
    · exact wf_i64P c0 (by omega)) (by simp)
theorem own_new_ne {B : Nat} {w w' : World} {e : TypeId} {k : IntKind} {v : Value} {l : List Int} (h : Own B w e k v l) (hs : w.heap.size ≤ w'.heap.size) : ∀ g, g = w'.heap.size → v.ownBlock ≠ some g := fun g hg e2 => by
  have := h.high g e2
  omega

set_option maxRecDepth 100000 in
set_option maxHeartbeats 4000000 in
theorem putc_1 (w0 w : World) (v : Value) (p : List Int) (t : ByteArray) (hx : Ext w0 w) (ho : Own w0.heap.size w 5 .u8 v p) (hT : Tabs w0) (hv : Lib.validD t.data.toList = true) (hs : t.size ≤ 140737488351232) (hz : (encZ t.data.toList).length ≤ 9007199254740991) (hb : p.length + (encC ⟨1, t, 0, 0, 0, 0⟩).length ≤ 140737488355328) :
    Calls Tryz.prog 61 #[v, .agg (Cst.vals ⟨1, t, 0, 0, 0, 0⟩)] w fun e w' => ∃ v', e = .returned v' ∧ Own w0.heap.size w' 5 .u8 v' (p ++ encC ⟨1, t, 0, 0, 0, 0⟩) ∧ Ext w0 w' := by
  have HO := Lib.hid ho
  clear ho
  rw [encC_t] at hb ⊢
  simp only [List.length_cons, List.length_append] at hb
  unfold Cst.vals
  go_enter Tryz.func61, Tryz.ntmps61
  go_wp2_with (at_builtin; go_loud (refine wpList_app _ rfl _ _ w0.heap.size 29 5 _ 1 .u8 rfl Tryz.underlying29 info8 rfl (by omega) _ p rfl (HO.out.ext (((Ext.refl _).alloc _).alloc _)) _ [1] rfl (Row.one _ _ _ 1 (wf_u8 (by omega) (by omega)) (by simp)) (by simp only [List.length_singleton]; omega) (by have := hx.size; simp; omega) ?_); intro v3 w3 ho3 hg3 _; obtain ⟨at0, hg0, x3⟩ := kept_copy (y := ⟨1, t, 0, 0, 0, 0⟩) HO.out hx (Nat.le_refl _) hg3; obtain ⟨z0, z1, z2, z3, z4, z5⟩ := at0; simp only at z0 z1 z2 z3 z4 z5; have HO3 := Lib.hid ho3; clear hg3 ho3)
  go_wp2_with fail
  refine (Encode_anyP t _ (hT.ext x3) (by omega) (by omega)).mono ?_
  rintro e w4 ⟨v4, rfl, ha, x4⟩
  rcases ha with ⟨-, v5, rfl, ho5⟩ | ⟨hv2, _⟩
  rotate_left
  · rw [hv] at hv2; cases hv2
  obtain ⟨q, hq⟩ : ∃ q, (encZ t.data.toList).length = q := ⟨_, rfl⟩
  have HQ := Lib.hid hq
  obtain ⟨A5, c5, hv5, _⟩ := ho5.row
  rw [hq] at hv5 hb hz
  subst hv5
  have HO5 := Lib.hid ho5
  clear ho5 hq
  go_wp2_with fail
  refine (putU_any w0.heap.size v3 _ _ [(q : Int)] _ (by exact HO3.out.ext (x4.alloc _)) (by exact Row.oneI _ _ _ _ (by omega) (by omega) (by simp)) (fun g hg => own_new_ne HO3.out x4.size g (by injection hg with hg; exact hg.symm)) (by rw [uBs_one (by omega) (by omega)]; simp only [List.length_append, List.length_singleton]; omega) (by have := (x3.trans x4).size; simp; omega)).mono ?_
  rintro e w7 ⟨v7, rfl, ho7, hg7, ht7⟩
  rw [uBs_one (by omega) (by omega)] at ho7
  have hs7 := hg7.size
  simp at hs7
  have x7 : Ext w0 w7 := ((x3.trans x4).alloc _).grown hg7 HO3.out.low
  have hr5 : Row w7 .u8 (.slice A5 q c5) (encZ t.data.toList) := (HO5.out.row.ext ((Ext.refl _).alloc _)).kept hg7 (fun g hgb => fun e => by have := HO5.out.low _ hgb; have := HO3.out.high _ e; omega)
  have HR5 := Lib.hid hr5
  have HO7 := Lib.hid ho7
  have hsz := x7.size
  clear ho7 hg7 hr5
  go_wp2_with (at_builtin; go_loud (refine wpList_app _ rfl _ _ w0.heap.size 29 5 _ 1 .u8 rfl Tryz.underlying29 info8 rfl (by omega) v7 _ rfl HO7.out (.slice A5 q c5) (encZ t.data.toList) rfl HR5.out (by simp only [List.length_append, List.length_singleton]; rw [HQ.out]; omega) (by omega) ?_); intro v8 w8 ho8 hg8 _; have HO8 := Lib.hid ho8; have x8 := x7.grown hg8 HO7.out.low; clear ho8 hg8)
  go_ret
  refine ⟨_, rfl, ?_, x8⟩
  have h8 := HO8.out
  rw [← HQ.out] at h8
  simpa using h8

set_option maxRecDepth 100000 in
set_option maxHeartbeats 4000000 in
theorem putc_2 (w0 w : World) (v : Value) (p : List Int) (n : Int) (hx : Ext w0 w) (ho : Own w0.heap.size w 5 .u8 v p) (hT : Tabs w0) (hn0 : -9223372036854775808 ≤ n) (hn1 : n ≤ 9223372036854775807) (hb : p.length + (encC ⟨2, .empty, n, 0, 0, 0⟩).length ≤ 140737488355328) :
    Calls Tryz.prog 61 #[v, .agg (Cst.vals ⟨2, .empty, n, 0, 0, 0⟩)] w fun e w' => ∃ v', e = .returned v' ∧ Own w0.heap.size w' 5 .u8 v' (p ++ encC ⟨2, .empty, n, 0, 0, 0⟩) ∧ Ext w0 w' := by
  have HO := Lib.hid ho
  clear ho
  rw [encC_s (by simp)] at hb ⊢
  simp only [List.length_cons] at hb
  unfold Cst.vals
  go_enter Tryz.func61, Tryz.ntmps61
  go_wp2_with (at_builtin; go_loud (refine wpList_app _ rfl _ _ w0.heap.size 29 5 _ 1 .u8 rfl Tryz.underlying29 info8 rfl (by omega) _ p rfl (HO.out.ext (((Ext.refl _).alloc _).alloc _)) _ [2] rfl (Row.one _ _ _ 2 (wf_u8 (by omega) (by omega)) (by simp)) (by simp only [List.length_singleton]; omega) (by have := hx.size; simp; omega) ?_); intro v3 w3 ho3 hg3 _; obtain ⟨at0, hg0, x3⟩ := kept_copy (y := ⟨2, .empty, n, 0, 0, 0⟩) HO.out hx (Nat.le_refl _) hg3; obtain ⟨z0, z1, z2, z3, z4, z5⟩ := at0; simp only at z0 z1 z2 z3 z4 z5; have HO3 := Lib.hid ho3; clear hg3 ho3)
  go_wp2_with fail
  refine (S_any n _ hn0 hn1).mono ?_
  rintro e w4 ⟨v4, rfl, ho4, x4⟩
  have HO4 := Lib.hid ho4
  have hsz := (x3.trans x4).size
  clear ho4
  go_wp2_with (at_builtin; go_loud (refine wpList_app _ rfl _ _ w0.heap.size 29 5 _ 1 .u8 rfl Tryz.underlying29 info8 rfl (by omega) v3 _ rfl (HO3.out.ext x4) v4 (dg 2 10 n) rfl HO4.out.row (by simp only [List.length_append, List.length_singleton]; omega) (by omega) ?_); intro v8 w8 ho8 hg8 _; have HO8 := Lib.hid ho8; have x8 := (x3.trans x4).grown hg8 HO3.out.low; clear ho8 hg8)
  go_ret
  refine ⟨_, rfl, ?_, x8⟩
  simpa using HO8.out

set_option maxRecDepth 100000 in
set_option maxHeartbeats 4000000 in
theorem putc_3 (w0 w : World) (v : Value) (p : List Int) (n : Int) (hx : Ext w0 w) (ho : Own w0.heap.size w 5 .u8 v p) (hT : Tabs w0) (hn0 : -9223372036854775808 ≤ n) (hn1 : n ≤ 9223372036854775807) (hb : p.length + (encC ⟨3, .empty, n, 0, 0, 0⟩).length ≤ 140737488355328) :
    Calls Tryz.prog 61 #[v, .agg (Cst.vals ⟨3, .empty, n, 0, 0, 0⟩)] w fun e w' => ∃ v', e = .returned v' ∧ Own w0.heap.size w' 5 .u8 v' (p ++ encC ⟨3, .empty, n, 0, 0, 0⟩) ∧ Ext w0 w' := by
  have HO := Lib.hid ho
  clear ho
  rw [encC_s (by simp)] at hb ⊢
  simp only [List.length_cons] at hb
  unfold Cst.vals
  go_enter Tryz.func61, Tryz.ntmps61
  go_wp2_with (at_builtin; go_loud (refine wpList_app _ rfl _ _ w0.heap.size 29 5 _ 1 .u8 rfl Tryz.underlying29 info8 rfl (by omega) _ p rfl (HO.out.ext (((Ext.refl _).alloc _).alloc _)) _ [3] rfl (Row.one _ _ _ 3 (wf_u8 (by omega) (by omega)) (by simp)) (by simp only [List.length_singleton]; omega) (by have := hx.size; simp; omega) ?_); intro v3 w3 ho3 hg3 _; obtain ⟨at0, hg0, x3⟩ := kept_copy (y := ⟨3, .empty, n, 0, 0, 0⟩) HO.out hx (Nat.le_refl _) hg3; obtain ⟨z0, z1, z2, z3, z4, z5⟩ := at0; simp only at z0 z1 z2 z3 z4 z5; have HO3 := Lib.hid ho3; clear hg3 ho3)
  go_wp2_with fail
  refine (S_any n _ hn0 hn1).mono ?_
  rintro e w4 ⟨v4, rfl, ho4, x4⟩
  have HO4 := Lib.hid ho4
  have hsz := (x3.trans x4).size
  clear ho4
  go_wp2_with (at_builtin; go_loud (refine wpList_app _ rfl _ _ w0.heap.size 29 5 _ 1 .u8 rfl Tryz.underlying29 info8 rfl (by omega) v3 _ rfl (HO3.out.ext x4) v4 (dg 2 10 n) rfl HO4.out.row (by simp only [List.length_append, List.length_singleton]; omega) (by omega) ?_); intro v8 w8 ho8 hg8 _; have HO8 := Lib.hid ho8; have x8 := (x3.trans x4).grown hg8 HO3.out.low; clear ho8 hg8)
  go_ret
  refine ⟨_, rfl, ?_, x8⟩
  simpa using HO8.out

set_option maxRecDepth 100000 in
set_option maxHeartbeats 4000000 in
theorem putc_4 (w0 w : World) (v : Value) (p : List Int) (a : Int) (hx : Ext w0 w) (ho : Own w0.heap.size w 5 .u8 v p) (hT : Tabs w0) (a0 : 0 ≤ a) (a1 : a ≤ 4096) (hb : p.length + (encC ⟨4, .empty, 0, a, 0, 0⟩).length ≤ 140737488355328) :
    Calls Tryz.prog 61 #[v, .agg (Cst.vals ⟨4, .empty, 0, a, 0, 0⟩)] w fun e w' => ∃ v', e = .returned v' ∧ Own w0.heap.size w' 5 .u8 v' (p ++ encC ⟨4, .empty, 0, a, 0, 0⟩) ∧ Ext w0 w' := by
  have HO := Lib.hid ho
  clear ho
  rw [encC_c] at hb ⊢
  simp only [List.length_cons] at hb
  unfold Cst.vals
  go_enter Tryz.func61, Tryz.ntmps61
  go_wp2_with (at_builtin; go_loud (refine wpList_app _ rfl _ _ w0.heap.size 29 5 _ 1 .u8 rfl Tryz.underlying29 info8 rfl (by omega) _ p rfl (HO.out.ext (((Ext.refl _).alloc _).alloc _)) _ [4] rfl (Row.one _ _ _ 4 (wf_u8 (by omega) (by omega)) (by simp)) (by simp only [List.length_singleton]; omega) (by have := hx.size; simp; omega) ?_); intro v3 w3 ho3 hg3 _; obtain ⟨at0, hg0, x3⟩ := kept_copy (y := ⟨4, .empty, 0, a, 0, 0⟩) HO.out hx (Nat.le_refl _) hg3; obtain ⟨z0, z1, z2, z3, z4, z5⟩ := at0; simp only at z0 z1 z2 z3 z4 z5; have HO3 := Lib.hid ho3; clear hg3 ho3)
  go_wp2_with fail
  refine (putU_any w0.heap.size v3 _ _ [a] _ (by exact HO3.out.ext ((Ext.refl _).alloc _)) (by exact Row.oneI _ _ _ _ (by omega) (by omega) (by simp)) (fun g hg => own_new_ne HO3.out (Nat.le_refl _) g (by injection hg with hg; exact hg.symm)) (by rw [uBs_one (by omega) (by omega)]; simp only [List.length_append, List.length_singleton]; omega) (by have := x3.size; simp; omega)).mono ?_
  rintro e w7 ⟨v7, rfl, ho7, hg7, ht7⟩
  rw [uBs_one (by omega) (by omega)] at ho7
  have x7 : Ext w0 w7 := (x3.alloc _).grown hg7 HO3.out.low
  have HO7 := Lib.hid ho7
  clear ho7 hg7
  go_wp2
  go_ret
  refine ⟨_, rfl, ?_, x7⟩
  simpa using HO7.out

set_option maxRecDepth 100000 in
set_option maxHeartbeats 4000000 in
theorem putc_5 (w0 w : World) (v : Value) (p : List Int) (a b c : Int) (hx : Ext w0 w) (ho : Own w0.heap.size w 5 .u8 v p) (hT : Tabs w0) (a0 : 0 ≤ a) (a1 : a ≤ 4096) (b0 : 0 ≤ b) (b1 : b ≤ 4096) (c0 : 0 ≤ c) (c1 : c ≤ 4096) (hb : p.length + (encC ⟨5, .empty, 0, a, b, c⟩).length ≤ 140737488355328) :
    Calls Tryz.prog 61 #[v, .agg (Cst.vals ⟨5, .empty, 0, a, b, c⟩)] w fun e w' => ∃ v', e = .returned v' ∧ Own w0.heap.size w' 5 .u8 v' (p ++ encC ⟨5, .empty, 0, a, b, c⟩) ∧ Ext w0 w' := by
  have HO := Lib.hid ho
  clear ho
  rw [encC_m (by simp)] at hb ⊢
  simp only [List.length_cons, List.length_append] at hb
  unfold Cst.vals
  go_enter Tryz.func61, Tryz.ntmps61
  go_wp2_with (at_builtin; go_loud (refine wpList_app _ rfl _ _ w0.heap.size 29 5 _ 1 .u8 rfl Tryz.underlying29 info8 rfl (by omega) _ p rfl (HO.out.ext (((Ext.refl _).alloc _).alloc _)) _ [5] rfl (Row.one _ _ _ 5 (wf_u8 (by omega) (by omega)) (by simp)) (by simp only [List.length_singleton]; omega) (by have := hx.size; simp; omega) ?_); intro v3 w3 ho3 hg3 _; obtain ⟨at0, hg0, x3⟩ := kept_copy (y := ⟨5, .empty, 0, a, b, c⟩) HO.out hx (Nat.le_refl _) hg3; obtain ⟨z0, z1, z2, z3, z4, z5⟩ := at0; simp only at z0 z1 z2 z3 z4 z5; have HO3 := Lib.hid ho3; clear hg3 ho3)
  go_wp2_with fail
  refine (putU_any w0.heap.size v3 _ _ [a, b, c] _ (by exact HO3.out.ext ((Ext.refl _).alloc _)) (by exact Row.threeI _ _ _ a b c a0 a1 b0 b1 c0 c1 (by simp)) (fun g hg => own_new_ne HO3.out (Nat.le_refl _) g (by injection hg with hg; exact hg.symm)) (by rw [uBs_three a0 a1 b0 b1 c0 c1]; simp only [List.length_append, List.length_singleton]; omega) (by have := x3.size; simp; omega)).mono ?_
  rintro e w7 ⟨v7, rfl, ho7, hg7, ht7⟩
  rw [uBs_three a0 a1 b0 b1 c0 c1] at ho7
  have x7 : Ext w0 w7 := (x3.alloc _).grown hg7 HO3.out.low
  have HO7 := Lib.hid ho7
  clear ho7 hg7
  go_wp2
  go_ret
  refine ⟨_, rfl, ?_, x7⟩
  simpa using HO7.out

set_option maxRecDepth 100000 in
set_option maxHeartbeats 4000000 in
theorem putc_6 (w0 w : World) (v : Value) (p : List Int) (a b c : Int) (hx : Ext w0 w) (ho : Own w0.heap.size w 5 .u8 v p) (hT : Tabs w0) (a0 : 0 ≤ a) (a1 : a ≤ 4096) (b0 : 0 ≤ b) (b1 : b ≤ 4096) (c0 : 0 ≤ c) (c1 : c ≤ 4096) (hb : p.length + (encC ⟨6, .empty, 0, a, b, c⟩).length ≤ 140737488355328) :
    Calls Tryz.prog 61 #[v, .agg (Cst.vals ⟨6, .empty, 0, a, b, c⟩)] w fun e w' => ∃ v', e = .returned v' ∧ Own w0.heap.size w' 5 .u8 v' (p ++ encC ⟨6, .empty, 0, a, b, c⟩) ∧ Ext w0 w' := by
  have HO := Lib.hid ho
  clear ho
  rw [encC_m (by simp)] at hb ⊢
  simp only [List.length_cons, List.length_append] at hb
  unfold Cst.vals
  go_enter Tryz.func61, Tryz.ntmps61
  go_wp2_with (at_builtin; go_loud (refine wpList_app _ rfl _ _ w0.heap.size 29 5 _ 1 .u8 rfl Tryz.underlying29 info8 rfl (by omega) _ p rfl (HO.out.ext (((Ext.refl _).alloc _).alloc _)) _ [6] rfl (Row.one _ _ _ 6 (wf_u8 (by omega) (by omega)) (by simp)) (by simp only [List.length_singleton]; omega) (by have := hx.size; simp; omega) ?_); intro v3 w3 ho3 hg3 _; obtain ⟨at0, hg0, x3⟩ := kept_copy (y := ⟨6, .empty, 0, a, b, c⟩) HO.out hx (Nat.le_refl _) hg3; obtain ⟨z0, z1, z2, z3, z4, z5⟩ := at0; simp only at z0 z1 z2 z3 z4 z5; have HO3 := Lib.hid ho3; clear hg3 ho3)
  go_wp2_with fail
  refine (putU_any w0.heap.size v3 _ _ [a, b, c] _ (by exact HO3.out.ext ((Ext.refl _).alloc _)) (by exact Row.threeI _ _ _ a b c a0 a1 b0 b1 c0 c1 (by simp)) (fun g hg => own_new_ne HO3.out (Nat.le_refl _) g (by injection hg with hg; exact hg.symm)) (by rw [uBs_three a0 a1 b0 b1 c0 c1]; simp only [List.length_append, List.length_singleton]; omega) (by have := x3.size; simp; omega)).mono ?_
  rintro e w7 ⟨v7, rfl, ho7, hg7, ht7⟩
  rw [uBs_three a0 a1 b0 b1 c0 c1] at ho7
  have x7 : Ext w0 w7 := (x3.alloc _).grown hg7 HO3.out.low
  have HO7 := Lib.hid ho7
  clear ho7 hg7
  go_wp2
  go_ret
  refine ⟨_, rfl, ?_, x7⟩
  simpa using HO7.out

theorem put_all (w0 w : World) (v : Value) (p : List Int) (l : List Cst) (x : Cst) (hx : Ext w0 w) (ho : Own w0.heap.size w 5 .u8 v p) (hT : Tabs w0) (hm : mayC l x = true) (hl : l.length ≤ 4096) (hok : x.ok) (hs : x.t.size ≤ 140737488351232) (hb : p.length + (encC x).length ≤ 140737488355328) :
    Calls Tryz.prog 61 #[v, .agg x.vals] w fun e w' => ∃ v', e = .returned v' ∧ Own w0.heap.size w' 5 .u8 v' (p ++ encC x) ∧ Ext w0 w' := by
  rcases may_cases hm hl with ⟨t, rfl, hv⟩ | ⟨k, n, rfl, rfl | rfl⟩ | ⟨a, rfl, ha⟩ | ⟨k, a, b, c, rfl, rfl | rfl, ha, hb', hc⟩
  · exact putc_1 w0 w v p t hx ho hT hv hs (by have h1 := enc_len t.data.toList; have h2 : t.data.toList.length = t.size := (Lib.size_eq _).symm; have : t.size ≤ 140737488351232 := hs; omega) hb
  · exact putc_2 w0 w v p n hx ho hT hok.2.1.1 hok.2.1.2 hb
  · exact putc_3 w0 w v p n hx ho hT hok.2.1.1 hok.2.1.2 hb
  · exact putc_4 w0 w v p a hx ho hT ha.1 ha.2 hb
  · exact putc_5 w0 w v p a b c hx ho hT ha.1 ha.2 hb'.1 hb'.2 hc.1 hc.2 hb
  · exact putc_6 w0 w v p a b c hx ho hT ha.1 ha.2 hb'.1 hb'.2 hc.1 hc.2 hb

set_option maxRecDepth 100000 in
set_option maxHeartbeats 4000000 in
theorem Bytes_any (v : Value) (l : List Cst) (w : World) (h : RowC w v l) (hT : Tabs w) (hR : Texts l) (hZ : checkC l = 0 → (bytesZ l).length ≤ 140737488355328) :
    Calls Tryz.prog 28 #[v] w (Ret w (BytesAns w l)) := by
  have hrow := h
  obtain ⟨A, cp, rfl, h2, h3, h4, h5, h6⟩ := id h
  unfold maxLen at h3
  by_cases hC : checkC l = 0
  · obtain ⟨hl, hl0, hall⟩ := check_all hC
    have hz := hZ hC
    have HC := Lib.hid hC
    obtain ⟨A2, c2, t4, t4', t5, t6, ht⟩ := tailC h hl0
    unfold maxLen at t6
    obtain ⟨n, hn⟩ : ∃ n, n = l.length := ⟨_, rfl⟩
    have HN := Lib.hid hn
    rw [← hn] at hrow h hl hl0 t4 t4' t5 ht
    rw [← hn]
    obtain ⟨m, hm⟩ : ∃ m, n - 1 = m := ⟨_, rfl⟩
    rw [hm] at t4 t4' t5
    clear hn h2 h4 h6 hC
    go_enter Tryz.func28, Tryz.ntmps28
    go_wp2_with fail
    refine (Check_anyP _ l _ (by exact hrow) hT hR).mono ?_
    rw [HC.out]
    rintro e w1 ⟨rfl, x1⟩
    go_wp2_with fail
    refine (putU_any w.heap.size (.slice none 0 0) [] _ [(n : Int)] _ (by exact Own.nil _ _ _ _) (by exact Row.oneI _ _ _ _ (by omega) (by omega) (by simp)) (fun g hg => by simp [Value.ownBlock]) (by rw [uBs_one (by omega) (by omega), List.length_nil]; have h1 := encTo_le (l := l) (k := 1) (m := l.length) (Nat.le_refl _) (by rw [← HN.out]; omega); rw [encTo_one, ← HN.out] at h1; have h2 : (encTo l l.length).length ≤ 140737488355328 := hz; rw [← HN.out] at h2; omega) (by have := x1.size; simp; omega)).mono ?_
    rintro e w2 ⟨v2, rfl, ho2, hg2, -⟩
    have ho : Own w.heap.size w2 5 .u8 v2 (encTo l 1) := by
      rw [encTo_one, ← HN.out]
      rw [uBs_one (by omega) (by omega)] at ho2
      simpa using ho2
    have x : Ext w w2 := (x1.alloc _).grown hg2 (fun g hg => by simp [Value.ownBlock] at hg)
    clear ho2 x1 hg2
    go_wp2
    go_loopw [5, 20] (fun v i wr => ∃ k : Nat, i = .int .i64 k ∧ k ≤ m ∧ Own w.heap.size wr 5 .u8 v (encTo l (k + 1)) ∧ Ext w wr) (fun _ i _ => m - (intOf i).toNat)
    case atStart => exact ⟨0, rfl, by omega, ho, x⟩
    case round =>
      clear ho x t4 t4'
      obtain ⟨k, rfl, hkm, ho, hx⟩ := hrel
      have HO := Lib.hid ho
      clear ho
      by_cases hlt : k < m
      · obtain ⟨b2, o2, rfl, hb2, hat⟩ := ht k (by omega)
        obtain ⟨a0, a1, a2, a3, a4, a5⟩ := hat.ext hx hb2
        have hkl : k + 1 < l.length := by rw [← HN.out]; omega
        have hmay := hall.2 (k + 1) (by omega) hkl
        have hok := gc_ok h5 (k + 1)
        have hsz := hR.at_ (k + 1)
        have hE := encTo_next (l := l) (k := k + 1) (by omega) hkl
        have hL := encTo_le (l := l) (k := k + 1 + 1) (m := l.length) (by omega) (by omega)
        have hz2 : (encTo l l.length).length ≤ 140737488355328 := hz
        rw [hE, List.length_append] at hL
        have hc1 := fun W v hW hoW => put_all w W v (encTo l (k + 1)) l (gc l (k + 1)) hW hoW hT hmay (by rw [← HN.out]; exact hl) hok hsz (by omega)
        rw [← hE] at hc1
        obtain ⟨y, hy⟩ : ∃ y, gc l (k + 1) = y := ⟨_, rfl⟩
        rw [hy] at a0 a1 a2 a3 a4 a5 hc1
        obtain ⟨kk, t, nn, a, b, c⟩ := y
        simp only at a0 a1 a2 a3 a4 a5
        have C1 := Lib.hid hc1
        clear hc1 hE hL hy hmay hok hsz hat
        go_wp2_with fail
        refine (C1.out _ _ (by exact hx.alloc _) (by exact HO.out.ext ((Ext.refl _).alloc _))).mono ?_
        rintro e w3 ⟨v3, rfl, ho3, x3⟩
        go_wp2
        go_roundw
        case rel => exact ⟨k + 1, by go_num, by omega, ho3, x3⟩
        case measure => simp [intOf]; omega
      · have hkk : k = m := by omega
        go_wp2
        go_ret2
        refine Ret.mk (.inl ⟨HC.out, _, rfl, ?_⟩) hx
        unfold bytesZ
        rw [← HN.out, show n = k + 1 by omega]
        exact HO.out
  · have HC := Lib.hid hC
    have hb : (checkC l != 0) = true := by simpa using hC
    clear h2 h4 h6 h5 hC
    go_enter Tryz.func28, Tryz.ntmps28
    go_wp2_with fail
    refine (Check_anyP _ l _ (by exact hrow) hT hR).mono ?_
    rintro e w1 ⟨rfl, x1⟩
    go_wp2
    go_ret2
    exact Ret.mk (.inr ⟨HC.out, rfl⟩) x1
end Go.Proofs.YtokmeomjdpfknaaGreatDoor
/- The program's reader of bytes, walked: texts, what is left, the ways by their kinds. -/
namespace Go.Proofs.YtokmeomjdpfknaaGreatDoor
open Go.RowKit
set_option linter.unusedVariables false

theorem pU_pos (l : List Int) (e : Int) : 0 ≤ (pU l e).1 ∧ (pU l e).1 ≤ 9007199254740991 := by
  unfold pU numP
  by_cases he : e = 0
  · rw [if_pos he]
    by_cases h2 : (tU (l.take 16)).2.2 = 0
    · rw [if_pos h2]
      exact tU_pos h2
    · rw [if_neg h2]
      simp
  · rw [if_neg he]
    simp
def tP (l : List Int) (e : Int) : ByteArray × List Int × Int :=
  ((decT (tkP (pU l e).2.1 (pU l e).2.2 (pU l e).1.toNat).1).1, (tkP (pU l e).2.1 (pU l e).2.2 (pU l e).1.toNat).2.1, errP (tkP (pU l e).2.1 (pU l e).2.2 (pU l e).1.toNat).2.2 (decT (tkP (pU l e).2.1 (pU l e).2.2 (pU l e).1.toNat).1).2)
theorem tkP_le (l : List Int) (e : Int) (n : Nat) : (tkP l e n).1.length ≤ l.length := by
  unfold tkP
  split
  · split
    · simp
    · simp only [List.length_take]; omega
  · simp
theorem pU_le (l : List Int) (e : Int) : (pU l e).2.1.length ≤ l.length := by
  unfold pU numP
  split
  · split
    · simp only [List.length_drop]; omega
    · exact Nat.le_refl _
  · exact Nat.le_refl _
set_option maxRecDepth 100000 in
set_option maxHeartbeats 2000000 in
theorem rtext_any (w0 w : World) (g : Nat) (l : List Int) (e : Int) (h : PRP w0 w g l e) (hl : l.length + 4 ≤ 140737488355328) :
    Calls Tryz.prog 216 #[.pointer (some ⟨g, 0, none⟩)] w (PRetP w0 w g (.agg (Cst.vals ⟨0, (tP l e).1, 0, 0, 0, 0⟩)) (tP l e).2.1 (tP l e).2.2) := by
  have hlt := h.lt
  have hbs := h.base
  have h1 := h.ext ((Ext.refl w).alloc (.cells c0.vals 49))
  have hw := h.ext0.size
  have c1 := numberU_any w0 _ g l e h1
  have hp := pU_pos l e
  have hle := pU_le l e
  unfold tP
  obtain ⟨⟨n, r, e1⟩, ht⟩ : ∃ t, t = pU l e := ⟨_, rfl⟩
  rw [← ht] at c1 hp hle ⊢
  simp only at c1 hp hle ⊢
  obtain ⟨hp0, hp1⟩ := hp
  have c2 := fun W hW => rtake_anyI w0 W g r e1 n hp0 (by omega) hW
  have hle2 := tkP_le r e1 n.toNat
  obtain ⟨⟨s, r2, e2⟩, ht2⟩ : ∃ t, t = tkP r e1 n.toNat := ⟨_, rfl⟩
  rw [← ht2] at c2 hle2 ⊢
  simp only at c2 hle2 ⊢
  have C1 := Lib.hid c1
  have C2 := Lib.hid c2
  obtain ⟨d, hd⟩ : ∃ d, d = decT s := ⟨_, rfl⟩
  rw [← hd]
  have HD := Lib.hid hd
  clear h1 h ht ht2 c1 c2 hd
  obtain ⟨dt, de⟩ := d
  simp only
  go_enter Tryz.func216, Tryz.ntmps216
  go_wp2_with fail
  refine C1.out.mono ?_
  rintro x w2 ⟨rfl, h2, g2⟩
  have H2 := Lib.hid h2
  clear h2
  go_wp2_with fail
  refine (C2.out _ (by exact H2.out)).mono ?_
  rintro x w3 ⟨v3, ⟨rfl, h3, g3⟩, hr3⟩
  have H3 := Lib.hid h3
  clear h3
  go_wp2_with fail
  refine (Decode_anyP v3 s _ (by exact hr3.ext H3.out.ext0) (by omega)).mono ?_
  rintro x w4 ⟨u4, rfl, ha, x4⟩
  have H4 := Lib.hid (H3.out.ext x4)
  have G4 := Lib.hid (grown_thenP' (grown_twoP' g2 g3) x4)
  clear x4 g2 g3 hr3
  have hu : ∃ at4, u4 = .tuple #[.string dt, .int .i64 at4, .int .i64 de] := by
    have hd := HD.out
    unfold decT at hd
    rcases ha with ⟨hs, rfl⟩ | ⟨hs, rfl⟩
    · rw [if_pos hs] at hd
      injection hd with hd1 hd2
      exact ⟨0, by rw [hd1, hd2]⟩
    · rw [if_neg (by omega)] at hd
      injection hd with hd1 hd2
      exact ⟨_, by rw [hd1, hd2]; rfl⟩
  obtain ⟨at4, rfl⟩ := hu
  clear ha
  go_wp2_with fail
  refine (fail_any w0 _ g r2 e2 de (by exact H4.out)).mono ?_
  rintro x w5 ⟨rfl, h5, g5⟩
  obtain ⟨k1, g6⟩ := res_block hlt (grown_twoP' G4.out g5)
  clear g5
  obtain ⟨y0, y1, y2, y3, y4, y5⟩ := At0.of (y := c0) k1
  have fz1 : ∀ j, w5.frozen? ⟨w.heap.size, j, none⟩ = false := fun j => by simp [World.frozen?, k1]
  have HR := Lib.hid h5
  have GR := Lib.hid g6
  simp only [c0] at y0 y1 y2 y3 y4 y5
  clear k1 h5
  go_wp2
  exact bodyPost_ret (v := .agg (Cst.vals ⟨0, dt, 0, 0, 0, 0⟩)) (by unfold Cst.vals; simp [results, Tryz.results216, go_sem, y0, y1, y2, y3, y4, y5]; try rfl) rfl ⟨rfl, HR.out.six (by omega) (by omega) 0 _ _ _ _ _ _, grown_six GR.out (Nat.le_refl _) 0 _ _ _ _ _ _⟩

theorem copied_any (w0 w : World) (g : Nat) (l : List Int) (e : Int) (h : PRP w0 w g l e) (hl : l.length ≤ 140737488355328) :
    Calls Tryz.prog 182 #[.pointer (some ⟨g, 0, none⟩)] w (Ret w (fun v' w' => Own w.heap.size w' 5 .u8 v' l)) := by
  obtain ⟨A, c, hc1, hc2, hrow, a0, a1, f0, f1⟩ := h.cells
  have HR := Lib.hid (hrow.ext h.ext0)
  clear hrow h
  go_enter Tryz.func182, Tryz.ntmps182
  go_wp2_with fail
  refine (clone_any _ l _ (by exact HR.out) hl).mono ?_
  rintro x w1 ⟨v1, rfl, ho1, x1⟩
  go_wp2
  go_ret
  exact Ret.mk ho1 x1

def ways : Array Value := #[.func (.func 215) #[] #[], .func (.func 216) #[] #[], .func (.func 217) #[] #[], .func (.func 217) #[] #[], .func (.func 218) #[] #[], .func (.func 219) #[] #[], .func (.func 219) #[] #[]]
theorem byKind_any (w : World) : Calls Tryz.prog 179 #[] w fun e w' => e = .returned (.agg ways) ∧ Ext w w' := by
  go_enter Tryz.func179, Tryz.ntmps179
  go_wp2
  exact bodyPost_ret (v := .agg ways) (by unfold ways; simp [results, Tryz.results179, go_sem]) rfl ⟨rfl, (Ext.refl w).alloc _⟩
end Go.Proofs.YtokmeomjdpfknaaGreatDoor
/- Reading constants, the program's way against the document's: plain mathematics. -/
namespace Go.Proofs.YtokmeomjdpfknaaGreatDoor
open Go.RowKit
set_option linter.unusedVariables false

theorem fb_min : ∀ (l : List Int) (k : Nat), fb (l.take k) = min (fb l) k
  | [], k => by simp [fb]
  | x :: l, 0 => by simp [fb]
  | x :: l, k + 1 => by
    rw [List.take_succ_cons, fb, fb, fb_min l k]
    split <;> omega
theorem spn_short {most : Nat} (h : most ≤ 16) (l : List Int) : spn most (l.take 16) = spn most l := by
  unfold spn
  rw [fb_min, List.length_take]
  have := fb_le l
  by_cases h1 : most ≤ fb l
  · rw [if_pos h1, if_pos (by omega)]
  · rw [if_neg h1, if_neg (by omega)]
    have e : min (fb l) 16 = fb l := by omega
    rw [e]
    by_cases h2 : fb l = l.length
    · rw [if_pos h2, if_pos (by omega)]
    · rw [if_neg h2, if_neg (by omega)]
theorem tS_16 {most : Nat} (hm : most ≤ 16) (wy : Int) (l : List Int) :
    (tS most wy (l.take 16)).1 = (tS most wy l).1 ∧ (tS most wy (l.take 16)).2.2 = (tS most wy l).2.2 ∧
    ((tS most wy l).2.2 = 0 → l.drop ((l.take 16).length - (tS most wy (l.take 16)).2.1.length) = (tS most wy l).2.1) := by
  unfold tS
  rw [spn_short hm]
  by_cases h : (spn most l).2 = 0
  · obtain ⟨_, h1, h2⟩ := spn_zero h
    have e1 : fb (l.take 16) = fb l := by rw [fb_min]; omega
    have e2 : (l.take 16).take (fb l + 1) = l.take (fb l + 1) := by rw [List.take_take]; congr 1; omega
    rw [if_pos h, if_pos h, e1, e2]
    by_cases h3 : l.take (fb l + 1) = dg wy 10 (wo wy (l.take (fb l + 1)))
    · rw [if_pos h3, if_pos h3]
      refine ⟨rfl, rfl, fun _ => ?_⟩
      simp only [List.length_drop, List.length_take]
      congr 1
      omega
    · rw [if_neg h3, if_neg h3]
      exact ⟨rfl, rfl, fun h => absurd h (by simp)⟩
  · rw [if_neg h, if_neg h]
    exact ⟨rfl, rfl, fun h2 => absurd h2 h⟩
theorem tU_16 (l : List Int) :
    (tU (l.take 16)).1 = (tU l).1 ∧ (tU (l.take 16)).2.2 = (tU l).2.2 ∧ ((tU l).2.2 = 0 → l.drop ((l.take 16).length - (tU (l.take 16)).2.1.length) = (tU l).2.1) := by
  obtain ⟨h1, h2, h3⟩ := tS_16 (most := 8) (by omega) 1 l
  unfold tU
  rw [h1]
  by_cases h : 9007199254740991 < (tS 8 1 l).1
  · rw [if_pos h, if_pos h]
    exact ⟨rfl, rfl, fun h => absurd h (by simp)⟩
  · rw [if_neg h, if_neg h]
    exact ⟨h1, h2, h3⟩
def Same3 {α : Type} (x y : α × List Int × Int) : Prop := x.2.2 = y.2.2 ∧ (y.2.2 = 0 → x = y)
theorem pU_rd (l : List Int) (e : Int) : (pU l e).1 = (rdU l e).1 ∧ Same3 (pU l e) (rdU l e) := by
  unfold pU numP rdU Same3
  obtain ⟨h1, h2, h3⟩ := tU_16 l
  by_cases he : e = 0
  · rw [if_pos he, if_pos he, h2]
    by_cases h : (tU l).2.2 = 0
    · rw [if_pos h]
      refine ⟨h1, h.symm, fun _ => ?_⟩
      rw [h1, h3 h, ← h]
    · rw [if_neg h]
      exact ⟨(tU_err h).1.symm, rfl, fun h4 => absurd h4 h⟩
  · rw [if_neg he, if_neg he]
    exact ⟨rfl, rfl, fun _ => rfl⟩
theorem pS_rd (l : List Int) (e : Int) : (pS l e).1 = (rdS l e).1 ∧ Same3 (pS l e) (rdS l e) := by
  unfold pS numP rdS Same3
  obtain ⟨h1, h2, h3⟩ := tS_16 (most := 10) (by omega) 2 l
  by_cases he : e = 0
  · rw [if_pos he, if_pos he, h2]
    by_cases h : (tS 10 2 l).2.2 = 0
    · rw [if_pos h]
      refine ⟨h1, h.symm, fun _ => ?_⟩
      rw [h1, h3 h, ← h]
    · rw [if_neg h]
      exact ⟨(tS_err h).1.symm, rfl, fun h4 => absurd h4 h⟩
  · rw [if_neg he, if_neg he]
    exact ⟨rfl, rfl, fun _ => rfl⟩
theorem stop_nil : stop [] = 0 := by unfold stop; rw [chs_nil]; rfl
theorem decT_nil : (decT []).2 = 0 := by
  unfold decT
  rw [if_pos (by rw [stop_nil]; rfl)]
theorem tP_rd (l : List Int) (e : Int) : Same3 (tP l e) (rdTP l e) := by
  unfold tP rdTP Same3
  obtain ⟨h1, h2, h3⟩ := pU_rd l e
  by_cases h : (rdU l e).2.2 = 0
  · rw [h3 h, if_neg (by simpa using h), h]
    by_cases hb : ((rdU l e).2.1.length : Int) < (rdU l e).1
    · rw [if_pos hb]
      have et : tkP (rdU l e).2.1 0 (rdU l e).1.toNat = ([], (rdU l e).2.1, 3) := by
        unfold tkP
        rw [if_pos rfl, if_pos (by omega)]
      rw [et]
      simp only [decT_nil]
      exact ⟨rfl, fun h => absurd h (by simp)⟩
    · rw [if_neg hb]
      have et : tkP (rdU l e).2.1 0 (rdU l e).1.toNat = ((rdU l e).2.1.take (rdU l e).1.toNat, (rdU l e).2.1.drop (rdU l e).1.toNat, 0) := by
        unfold tkP
        rw [if_pos rfl, if_neg (by omega)]
      rw [et]
      exact ⟨rfl, fun _ => rfl⟩
  · rw [if_pos h]
    have et : tkP (pU l e).2.1 (pU l e).2.2 (pU l e).1.toNat = ([], (pU l e).2.1, (rdU l e).2.2) := by
      unfold tkP
      rw [h2, if_neg h]
    rw [et]
    simp only [decT_nil]
    exact ⟨if_neg h, fun h4 => absurd h4 h⟩
theorem pU_kept (l : List Int) {e : Int} (h : ¬ e = 0) : pU l e = (0, l, e) := by
  unfold pU numP
  rw [if_neg h]
theorem rdU_kept (l : List Int) {e : Int} (h : ¬ e = 0) : rdU l e = (0, l, e) := by
  unfold rdU
  rw [if_neg h]
def wayP (k : Int) (l : List Int) (e : Int) : Cst × List Int × Int :=
  if k = 1 then (⟨0, (tP l e).1, 0, 0, 0, 0⟩, (tP l e).2) else if k = 2 ∨ k = 3 then (⟨0, .empty, (pS l e).1, 0, 0, 0⟩, (pS l e).2)
  else if k = 4 then (⟨0, .empty, 0, (pU l e).1, 0, 0⟩, (pU l e).2) else if k = 5 ∨ k = 6 then memP l e else (c0, l, errP e 4)
def oneP (l : List Int) : Cst × List Int × Int :=
  ({ (wayP (kndP l).1 (kndP l).2.1 (kndP l).2.2).1 with k := (kndP l).1 }, (wayP (kndP l).1 (kndP l).2.1 (kndP l).2.2).2)
theorem oneP_rd {l : List Int} (hf : Fit .u8 l) : Same3 (oneP l) (rdOne l) := by
  unfold oneP rdOne
  by_cases hl : l = []
  · subst hl
    rw [if_pos rfl, show kndP [] = (0, [], 3) from rfl]
    exact ⟨rfl, fun h => absurd h (by simp)⟩
  · rw [if_neg hl]
    have hg := hf.gi 0
    have hk : kndP l = if 7 ≤ gi l 0 then (0, l.drop 1, 0) else (gi l 0, l.drop 1, 0) := by unfold kndP; rw [if_neg hl]
    obtain ⟨y, hy⟩ : ∃ y, gi l 0 = y := ⟨_, rfl⟩
    obtain ⟨m, hm⟩ : ∃ m, l.drop 1 = m := ⟨_, rfl⟩
    rw [hy] at hg hk ⊢
    rw [hm] at hk ⊢
    by_cases h7 : 7 ≤ y
    · rw [if_pos h7] at hk
      rw [hk, if_neg (by omega), if_neg (by omega), if_neg (by omega), if_neg (by omega)]
      exact ⟨rfl, fun h => absurd h (by simp)⟩
    · rw [if_neg h7] at hk
      rw [hk]
      unfold wayP
      simp only
      by_cases y1 : y = 1
      · rw [if_pos y1, if_pos y1, y1]
        obtain ⟨h1, h2⟩ := tP_rd m 0
        exact ⟨h1, fun h => by simp only at h ⊢; rw [h2 h]⟩
      · rw [if_neg y1, if_neg y1]
        by_cases y2 : y = 2 ∨ y = 3
        · rw [if_pos y2, if_pos y2]
          obtain ⟨h0, h1, h2⟩ := pS_rd m 0
          exact ⟨h1, fun h => by simp only at h ⊢; rw [h2 h]⟩
        · rw [if_neg y2, if_neg y2]
          by_cases y4 : y = 4
          · rw [if_pos y4, if_pos y4, y4]
            obtain ⟨h0, h1, h2⟩ := pU_rd m 0
            exact ⟨h1, fun h => by simp only at h ⊢; rw [h2 h]⟩
          · rw [if_neg y4, if_neg y4]
            by_cases y5 : y = 5 ∨ y = 6
            · rw [if_pos y5, if_pos y5]
              unfold memP
              obtain ⟨h0, h1, h2⟩ := pU_rd m 0
              by_cases g1 : (rdU m 0).2.2 = 0
              · rw [h2 g1]
                obtain ⟨i0, i1, i2⟩ := pU_rd (rdU m 0).2.1 (rdU m 0).2.2
                by_cases g2 : (rdU (rdU m 0).2.1 (rdU m 0).2.2).2.2 = 0
                · rw [i2 g2]
                  obtain ⟨j0, j1, j2⟩ := pU_rd (rdU (rdU m 0).2.1 (rdU m 0).2.2).2.1 (rdU (rdU m 0).2.1 (rdU m 0).2.2).2.2
                  exact ⟨j1, fun h => by simp only at h ⊢; rw [j2 h]⟩
                · have e3 : ∀ q, (pU q (pU (rdU m 0).2.1 (rdU m 0).2.2).2.2).2.2 = (rdU (rdU m 0).2.1 (rdU m 0).2.2).2.2 := fun q => by
                    rw [i1, pU_kept _ g2]
                  have e4 : ∀ q, (rdU q (rdU (rdU m 0).2.1 (rdU m 0).2.2).2.2).2.2 = (rdU (rdU m 0).2.1 (rdU m 0).2.2).2.2 := fun q => by
                    rw [rdU_kept _ g2]
                  refine ⟨?_, fun h => ?_⟩
                  · simp only
                    rw [e3, e4]
                  · simp only at h
                    rw [e4] at h
                    exact absurd h g2
              · refine ⟨?_, fun h => ?_⟩
                · simp only
                  rw [h1, pU_kept _ g1, rdU_kept _ g1]
                  simp only
                  rw [pU_kept _ g1, rdU_kept _ g1]
                · simp only at h
                  rw [rdU_kept _ g1] at h
                  simp only at h
                  rw [rdU_kept _ g1] at h
                  exact absurd h g1
            · rw [if_neg y5, if_neg y5]
              exact ⟨rfl, fun h => absurd h (by simp)⟩
theorem cnt_rd (b : List Int) : (cntP b).2.2 = cntZ b ∧ (cntZ b = 0 → cntP b = ((tU b).1, (tU b).2.1, 0) ∧ (tU b).1 ≤ 4096) ∧ (¬ cntZ b = 0 → (cntP b).1 = 0) := by
  obtain ⟨h0, h1, h2⟩ := pU_rd b 0
  have e1 : rdU b 0 = tU b := by unfold rdU; rw [if_pos rfl]
  rw [e1] at h0 h1 h2
  unfold cntP cntZ
  by_cases h : (tU b).2.2 = 0
  · rw [h2 h]
    by_cases h4 : 4096 < (tU b).1
    · rw [if_pos ⟨h, h4⟩, if_pos ⟨h, h4⟩]
      exact ⟨rfl, fun h => absurd h (by simp), fun _ => rfl⟩
    · rw [if_neg (fun h => h4 h.2), if_neg (fun h => h4 h.2)]
      refine ⟨rfl, fun _ => ⟨?_, by omega⟩, fun h3 => absurd h h3⟩
      rw [← h]
  · rw [if_neg (fun h3 => h (h1.symm.trans h3.1)), if_neg (fun h3 => h h3.1)]
    exact ⟨h1, fun h3 => absurd h3 h, fun _ => by rw [h0]; exact (tU_err h).1⟩
end Go.Proofs.YtokmeomjdpfknaaGreatDoor
/- Reading constants: the document's answer, walked. -/
namespace Go.Proofs.YtokmeomjdpfknaaGreatDoor
open Go.RowKit
set_option linter.unusedVariables false

theorem infoC : (Tryz.prog.info? 49).map (fun i => (i.zero, i.size, i.bytes)) = some (some (.agg c0.vals), 6, 56) := by kernel_rfl
def ParseAns (B : Nat) (b : List Int) (v' : Value) (w' : World) : Prop :=
  (errZ b = 0 ∧ ∃ x y, v' = .tuple #[x, y, .int .i64 0] ∧ OwnC B w' 49 x (manyZ b).1 ∧ Own B w' 5 .u8 y (manyZ b).2.1) ∨
  (¬ errZ b = 0 ∧ v' = .tuple #[.slice none 0 0, .slice none 0 0, .int .i64 (errZ b)])
theorem OwnC.base {B B' : Nat} {w : World} {T : TypeId} {v : Value} {l : List Cst} (h : OwnC B w T v l) (hB : B' ≤ B) : OwnC B' w T v l := by
  obtain ⟨⟨h1, h2⟩, hf⟩ := h
  refine ⟨⟨h1, ?_⟩, hf⟩
  rcases h2 with h2 | ⟨g, cap, cur, hv, hb, hr⟩
  · exact .inl h2
  · exact .inr ⟨g, cap, cur, hv, by omega, hr⟩
theorem parse_err {b : List Int} {e : Int} (h : errZ b = e) (h0 : ¬ e = 0) (B : Nat) (w' : World) : ParseAns B b (.tuple #[.slice none 0 0, .slice none 0 0, .int .i64 e]) w' := .inr ⟨by rw [h]; exact h0, by rw [h]⟩

end Go.Proofs.YtokmeomjdpfknaaGreatDoor
