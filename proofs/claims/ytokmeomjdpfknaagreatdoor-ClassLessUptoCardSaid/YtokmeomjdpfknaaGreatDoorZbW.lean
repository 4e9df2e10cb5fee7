/- Several texts of this proof, one behind the other. -/
import Derived.Test.YtokmeomjdpfknaaGreatDoorZbV
import Derived.Test.YtokmeomjdpfknaaGreatDoorZbP
import Derived.Test.YtokmeomjdpfknaaGreatDoorZbC
import Derived.Test.YtokmeomjdpfknaaGreatDoorZbQ
import Derived.Test.YtokmeomjdpfknaaGreatDoorZbM
import Derived.Laws.EntriesVeiled
namespace Go.Proofs.YtokmeomjdpfknaaGreatDoor
open Go.RowKit
set_option linter.unusedVariables false

def uBs (ns : List Int) : List Int := ns.flatMap fun n => (uS n).1
theorem uBs_next {ns : List Int} {k : Nat} (h : k < ns.length) : uBs (ns.take (k + 1)) = uBs (ns.take k) ++ (uS (gi ns k)).1 := by
  unfold uBs
  rw [List.take_succ_eq_append_getElem h, List.flatMap_append]
  simp [gi, h]
theorem uBs_le (ns : List Int) (k : Nat) : (uBs (ns.take k)).length ≤ (uBs ns).length := by
  unfold uBs
  conv => rhs; rw [← List.take_append_drop k ns]
  rw [List.flatMap_append, List.length_append]
  omega
theorem grown_more {w w1 w2 : World} {r r2 : Option Nat} (h : w.grownBy w1 r) (e : w1.grownBy w2 r2) (hr : ∀ g, r2 = some g → r = some g ∨ w.heap.size ≤ g) : w.grownBy w2 r :=
  ⟨e.os.trans h.os, e.tape.trans h.tape, e.output.trans h.output, Nat.le_trans h.size e.size, fun i hi hne => (e.block i (Nat.lt_of_lt_of_le hi h.size) (fun e2 => by
    rcases hr i e2.symm with h3 | h3
    · exact hne h3.symm
    · omega)).trans (h.block i hi hne)⟩
theorem grown_then2 {w w1 w2 : World} {r : Option Nat} (h : w.grownBy w1 r) (e : Ext w1 w2) : w.grownBy w2 r :=
  ⟨e.os.trans h.os, e.tape.trans h.tape, e.output.trans h.output, Nat.le_trans h.size e.size, fun i hi hne => (e.block i (Nat.lt_of_lt_of_le hi h.size)).trans (h.block i hi hne)⟩
def Went (w : World) (v v' : Value) : Prop := ∀ g, v'.ownBlock = some g → v.ownBlock = some g ∨ w.heap.size ≤ g
theorem Went.refl (w : World) (v : Value) : Went w v v := fun g h => .inl h

set_option maxRecDepth 100000 in
set_option maxHeartbeats 2000000 in
theorem putU_any (B : Nat) (v : Value) (l : List Int) (vn : Value) (ns : List Int) (w : World) (ho : Own B w 5 .u8 v l) (hn : Row w .i64 vn ns) (hne : ∀ g, vn.ownBlock = some g → v.ownBlock ≠ some g)
    (hb : l.length + (uBs ns).length ≤ 140737488355328) (hB : B ≤ w.heap.size) :
    Calls Tryz.prog 60 #[v, vn] w fun e w' => ∃ v', e = .returned v' ∧ Own B w' 5 .u8 v' (l ++ uBs ns) ∧ w.grownBy w' v.ownBlock ∧ Went w v v' := by
  have hn' := hn
  obtain ⟨A, c, rfl, h2, h3, h4, h5, h6⟩ := hn'
  unfold maxLen at h3
  obtain ⟨n, hnn⟩ : ∃ n, n = ns.length := ⟨_, rfl⟩
  have HN := Lib.hid hnn
  rw [← hnn] at hn h2 h6 hne ⊢
  have HO := Lib.hid ho
  have HR := Lib.hid hn
  have HNE := Lib.hid hne
  clear hnn ho hn hne h4
  go_enter Tryz.func60, Tryz.ntmps60
  go_wp2
  go_loopw [0, 11] (fun u i wr => ∃ k : Nat, i = .int .i64 k ∧ k ≤ n ∧ Own B wr 5 .u8 u (l ++ uBs (ns.take k)) ∧ w.grownBy wr v.ownBlock ∧ Went w v u) (fun _ i _ => n - (intOf i).toNat)
  case atStart => exact ⟨0, rfl, by omega, by simpa [uBs] using HO.out, World.grownBy.refl _ _, Went.refl _ _⟩
  case round =>
    obtain ⟨k, rfl, hk, hou, hg, hwt⟩ := hrel
    have HOU := Lib.hid hou
    have HG := Lib.hid hg
    have HW := Lib.hid hwt
    by_cases hlt : k < n
    · obtain ⟨b, o, rfl, hbl, hc⟩ := h6 (by omega)
      have y0 : wr.cell? ⟨b, o + k, none⟩ = some (.int .i64 (gi ns k)) := (World.cell?_of_block (w := w) (a := ⟨b, o + k, none⟩) (hg.block b hbl (fun e => HNE.out b rfl e.symm))).trans (hc k hlt)
      have hlit := h5 (gi ns k) (gi_mem (by rw [← HN.out]; exact hlt))
      have hr : -9223372036854775808 ≤ gi ns k ∧ gi ns k ≤ 9223372036854775807 := by
        simp [Lit.wf, IntKind.min, IntKind.max, IntKind.signed, IntKind.bits] at hlit
        omega
      have hE := Lib.hid (uBs_next (ns := ns) (k := k) (by rw [← HN.out]; exact hlt))
      have hL := uBs_le ns (k + 1)
      rw [hE.out, List.length_append] at hL
      obtain ⟨y, hy⟩ : ∃ y, gi ns k = y := ⟨_, rfl⟩
      rw [hy] at y0 hr hE hL
      obtain ⟨hr0, hr1⟩ := hr
      clear hc h6 hlit hou hg hwt hy
      go_wp2_with fail
      refine (U_any y _ hr0 hr1).mono ?_
      rintro e w2 ⟨u2, rfl, ⟨b2, rfl, ho2⟩, x2⟩
      go_wp2_with (at_builtin; refine wpList_app _ rfl _ _ B 29 5 _ 1 .u8 rfl Tryz.underlying29 info8 rfl (by omega) _ _ rfl (HOU.out.ext x2) b2 (uS y).1 rfl ho2.row (by rw [List.length_append]; omega) (by have := HG.out.size; have := x2.size; omega) ?_; intro v3 w3 ho3 hg3 hb3)
      have hlow := HOU.out.low
      have hhigh := HOU.out.high
      go_roundw
      case rel =>
        refine ⟨k + 1, by go_num, by omega, ?_, ?_, ?_⟩
        · rw [hE.out, ← List.append_assoc]
          exact ho3
        · exact grown_more (grown_then2 HG.out x2) hg3 HW.out
        · intro g hgb
          rcases hb3 with hb3 | hb3
          · rw [hb3] at hgb
            exact HW.out g hgb
          · rw [hb3] at hgb
            injection hgb with hgb
            have := HG.out.size
            have := x2.size
            exact .inr (by omega)
      case measure => simp [intOf]; omega
    · have hkn : k = n := by omega
      go_wp2
      go_ret
      refine ⟨_, rfl, ?_, HG.out, HW.out⟩
      have := HOU.out
      rw [hkn, HN.out, List.take_length] at this
      exact this
end Go.Proofs.YtokmeomjdpfknaaGreatDoor
namespace Go.Proofs.YtokmeomjdpfknaaGreatDoor
open Go.RowKit
set_option linter.unusedVariables false

theorem uBs_one {n : Int} (h0 : 0 ≤ n) (h1 : n ≤ 9007199254740991) : uBs [n] = dg 1 10 n := by
  simp [uBs, uS_ok h0 h1]
theorem uBs_three {a b c : Int} (a0 : 0 ≤ a) (a1 : a ≤ 4096) (b0 : 0 ≤ b) (b1 : b ≤ 4096) (c0 : 0 ≤ c) (c1 : c ≤ 4096) : uBs [a, b, c] = dg 1 10 a ++ dg 1 10 b ++ dg 1 10 c := by
  have e1 := uS_ok (n := a) (by omega) (by omega)
  have e2 := uS_ok (n := b) (by omega) (by omega)
  have e3 := uS_ok (n := c) (by omega) (by omega)
  simp [uBs, e1, e2, e3]
theorem wf_i64P {x : Int} (h0 : 0 ≤ x) (h1 : x ≤ 9223372036854775807) : (Lit.int .i64 x).wf = true := by
  simp [Lit.wf, IntKind.min, IntKind.max, IntKind.signed, IntKind.bits]
  omega
theorem Row.oneI (w : World) (T : TypeId) (g : Nat) (x : Int) (h0 : 0 ≤ x) (h1 : x ≤ 9007199254740991) (hg : g = w.heap.size) : Row (w.alloc (.cells #[.int .i64 x] T)) .i64 (.slice (some ⟨g, 0, none⟩) 1 1) [x] := by
  subst hg
  exact Row.built1 w .i64 T x (wf_i64P h0 (by omega))
theorem Row.threeI (w : World) (T : TypeId) (g : Nat) (a b c : Int) (a0 : 0 ≤ a) (a1 : a ≤ 4096) (b0 : 0 ≤ b) (b1 : b ≤ 4096) (c0 : 0 ≤ c) (c1 : c ≤ 4096) (hg : g = w.heap.size) : Row (w.alloc (.cells #[.int .i64 a, .int .i64 b, .int .i64 c] T)) .i64 (.slice (some ⟨g, 0, none⟩) 3 3) [a, b, c] := by
  subst hg
  exact Row.built w .i64 T [a, b, c] (fun y hy => by
    have : y = a ∨ y = b ∨ y = c := by simpa using hy
    rcases this with rfl | rfl | rfl
    · exact wf_i64P a0 (by omega)
    · exact wf_i64P b0 (by omega)
    · exact wf_i64P c0 (by omega)) (by simp)
theorem own_new_ne {B : Nat} {w w' : World} {e : TypeId} {k : IntKind} {v : Value} {l : List Int} (h : Own B w e k v l) (hs : w.heap.size ≤ w'.heap.size) : ∀ g, g = w'.heap.size → v.ownBlock ≠ some g := fun g hg e2 => by
  have := h.high g e2
  omega

set_option maxRecDepth 100000 in
set_option maxHeartbeats 4000000 in
theorem putc_1 (w0 w : World) (v : Value) (p : List Int) (t : ByteArray) (hx : Ext w0 w) (ho : Own w0.heap.size w 5 .u8 v p) (hT : Tabs w0) (hv : Lib.validD t.data.toList = true) (hs : t.size ≤ 140737488351232) (hz : (encZ t.data.toList).length ≤ 9007199254740991) (hb : p.length + (encC ⟨1, t, 0, 0, 0, 0⟩).length ≤ 140737488355328) :
    Calls Tryz.prog 61 #[v, .agg (Cst.vals ⟨1, t, 0, 0, 0, 0⟩)] w fun e w' => ∃ v', e = .returned v' ∧ Own w0.heap.size w' 5 .u8 v' (p ++ encC ⟨1, t, 0, 0, 0, 0⟩) ∧ Ext w0 w' := by
  have HO := Lib.hid ho
  clear ho
  rw [encC_t] at hb ⊢
  simp only [List.length_cons, List.length_append] at hb
  unfold Cst.vals
  go_enter Tryz.func61, Tryz.ntmps61
  go_wp2_with (at_builtin; go_loud (refine wpList_app _ rfl _ _ w0.heap.size 29 5 _ 1 .u8 rfl Tryz.underlying29 info8 rfl (by omega) _ p rfl (HO.out.ext (((Ext.refl _).alloc _).alloc _)) _ [1] rfl (Row.one _ _ _ 1 (wf_u8 (by omega) (by omega)) (by simp)) (by simp only [List.length_singleton]; omega) (by have := hx.size; simp; omega) ?_); intro v3 w3 ho3 hg3 _; obtain ⟨at0, hg0, x3⟩ := kept_copy (y := ⟨1, t, 0, 0, 0, 0⟩) HO.out hx (Nat.le_refl _) hg3; obtain ⟨z0, z1, z2, z3, z4, z5⟩ := at0; simp only at z0 z1 z2 z3 z4 z5; have HO3 := Lib.hid ho3; clear hg3 ho3)
  go_wp2_with fail
  refine (Encode_anyP t _ (hT.ext x3) (by omega) (by omega)).mono ?_
  rintro e w4 ⟨v4, rfl, ha, x4⟩
  rcases ha with ⟨-, v5, rfl, ho5⟩ | ⟨hv2, _⟩
  rotate_left
  · rw [hv] at hv2; cases hv2
  obtain ⟨q, hq⟩ : ∃ q, (encZ t.data.toList).length = q := ⟨_, rfl⟩
  have HQ := Lib.hid hq
  obtain ⟨A5, c5, hv5, _⟩ := ho5.row
  rw [hq] at hv5 hb hz
  subst hv5
  have HO5 := Lib.hid ho5
  clear ho5 hq
  go_wp2_with fail
  refine (putU_any w0.heap.size v3 _ _ [(q : Int)] _ (by exact HO3.out.ext (x4.alloc _)) (by exact Row.oneI _ _ _ _ (by omega) (by omega) (by simp)) (fun g hg => own_new_ne HO3.out x4.size g (by injection hg with hg; exact hg.symm)) (by rw [uBs_one (by omega) (by omega)]; simp only [List.length_append, List.length_singleton]; omega) (by have := (x3.trans x4).size; simp; omega)).mono ?_
  rintro e w7 ⟨v7, rfl, ho7, hg7, ht7⟩
  rw [uBs_one (by omega) (by omega)] at ho7
  have hs7 := hg7.size
  simp at hs7
  have x7 : Ext w0 w7 := ((x3.trans x4).alloc _).grown hg7 HO3.out.low
  have hr5 : Row w7 .u8 (.slice A5 q c5) (encZ t.data.toList) := (HO5.out.row.ext ((Ext.refl _).alloc _)).kept hg7 (fun g hgb => fun e => by have := HO5.out.low _ hgb; have := HO3.out.high _ e; omega)
  have HR5 := Lib.hid hr5
  have HO7 := Lib.hid ho7
  have hsz := x7.size
  clear ho7 hg7 hr5
  go_wp2_with (at_builtin; go_loud (refine wpList_app _ rfl _ _ w0.heap.size 29 5 _ 1 .u8 rfl Tryz.underlying29 info8 rfl (by omega) v7 _ rfl HO7.out (.slice A5 q c5) (encZ t.data.toList) rfl HR5.out (by simp only [List.length_append, List.length_singleton]; rw [HQ.out]; omega) (by omega) ?_); intro v8 w8 ho8 hg8 _; have HO8 := Lib.hid ho8; have x8 := x7.grown hg8 HO7.out.low; clear ho8 hg8)
  go_ret
  refine ⟨_, rfl, ?_, x8⟩
  have h8 := HO8.out
  rw [← HQ.out] at h8
  simpa using h8

set_option maxRecDepth 100000 in
set_option maxHeartbeats 4000000 in
theorem putc_2 (w0 w : World) (v : Value) (p : List Int) (n : Int) (hx : Ext w0 w) (ho : Own w0.heap.size w 5 .u8 v p) (hT : Tabs w0) (hn0 : -9223372036854775808 ≤ n) (hn1 : n ≤ 9223372036854775807) (hb : p.length + (encC ⟨2, .empty, n, 0, 0, 0⟩).length ≤ 140737488355328) :
    Calls Tryz.prog 61 #[v, .agg (Cst.vals ⟨2, .empty, n, 0, 0, 0⟩)] w fun e w' => ∃ v', e = .returned v' ∧ Own w0.heap.size w' 5 .u8 v' (p ++ encC ⟨2, .empty, n, 0, 0, 0⟩) ∧ Ext w0 w' := by
  have HO := Lib.hid ho
  clear ho
  rw [encC_s (by simp)] at hb ⊢
  simp only [List.length_cons] at hb
  unfold Cst.vals
  go_enter Tryz.func61, Tryz.ntmps61
  go_wp2_with (at_builtin; go_loud (refine wpList_app _ rfl _ _ w0.heap.size 29 5 _ 1 .u8 rfl Tryz.underlying29 info8 rfl (by omega) _ p rfl (HO.out.ext (((Ext.refl _).alloc _).alloc _)) _ [2] rfl (Row.one _ _ _ 2 (wf_u8 (by omega) (by omega)) (by simp)) (by simp only [List.length_singleton]; omega) (by have := hx.size; simp; omega) ?_); intro v3 w3 ho3 hg3 _; obtain ⟨at0, hg0, x3⟩ := kept_copy (y := ⟨2, .empty, n, 0, 0, 0⟩) HO.out hx (Nat.le_refl _) hg3; obtain ⟨z0, z1, z2, z3, z4, z5⟩ := at0; simp only at z0 z1 z2 z3 z4 z5; have HO3 := Lib.hid ho3; clear hg3 ho3)
  go_wp2_with fail
  refine (S_any n _ hn0 hn1).mono ?_
  rintro e w4 ⟨v4, rfl, ho4, x4⟩
  have HO4 := Lib.hid ho4
  have hsz := (x3.trans x4).size
  clear ho4
  go_wp2_with (at_builtin; go_loud (refine wpList_app _ rfl _ _ w0.heap.size 29 5 _ 1 .u8 rfl Tryz.underlying29 info8 rfl (by omega) v3 _ rfl (HO3.out.ext x4) v4 (dg 2 10 n) rfl HO4.out.row (by simp only [List.length_append, List.length_singleton]; omega) (by omega) ?_); intro v8 w8 ho8 hg8 _; have HO8 := Lib.hid ho8; have x8 := (x3.trans x4).grown hg8 HO3.out.low; clear ho8 hg8)
  go_ret
  refine ⟨_, rfl, ?_, x8⟩
  simpa using HO8.out

set_option maxRecDepth 100000 in
set_option maxHeartbeats 4000000 in
theorem putc_3 (w0 w : World) (v : Value) (p : List Int) (n : Int) (hx : Ext w0 w) (ho : Own w0.heap.size w 5 .u8 v p) (hT : Tabs w0) (hn0 : -9223372036854775808 ≤ n) (hn1 : n ≤ 9223372036854775807) (hb : p.length + (encC ⟨3, .empty, n, 0, 0, 0⟩).length ≤ 140737488355328) :
    Calls Tryz.prog 61 #[v, .agg (Cst.vals ⟨3, .empty, n, 0, 0, 0⟩)] w fun e w' => ∃ v', e = .returned v' ∧ Own w0.heap.size w' 5 .u8 v' (p ++ encC ⟨3, .empty, n, 0, 0, 0⟩) ∧ Ext w0 w' := by
  have HO := Lib.hid ho
  clear ho
  rw [encC_s (by simp)] at hb ⊢
  simp only [List.length_cons] at hb
  unfold Cst.vals
  go_enter Tryz.func61, Tryz.ntmps61
  go_wp2_with (at_builtin; go_loud (refine wpList_app _ rfl _ _ w0.heap.size 29 5 _ 1 .u8 rfl Tryz.underlying29 info8 rfl (by omega) _ p rfl (HO.out.ext (((Ext.refl _).alloc _).alloc _)) _ [3] rfl (Row.one _ _ _ 3 (wf_u8 (by omega) (by omega)) (by simp)) (by simp only [List.length_singleton]; omega) (by have := hx.size; simp; omega) ?_); intro v3 w3 ho3 hg3 _; obtain ⟨at0, hg0, x3⟩ := kept_copy (y := ⟨3, .empty, n, 0, 0, 0⟩) HO.out hx (Nat.le_refl _) hg3; obtain ⟨z0, z1, z2, z3, z4, z5⟩ := at0; simp only at z0 z1 z2 z3 z4 z5; have HO3 := Lib.hid ho3; clear hg3 ho3)
  go_wp2_with fail
  refine (S_any n _ hn0 hn1).mono ?_
  rintro e w4 ⟨v4, rfl, ho4, x4⟩
  have HO4 := Lib.hid ho4
  have hsz := (x3.trans x4).size
  clear ho4
  go_wp2_with (at_builtin; go_loud (refine wpList_app _ rfl _ _ w0.heap.size 29 5 _ 1 .u8 rfl Tryz.underlying29 info8 rfl (by omega) v3 _ rfl (HO3.out.ext x4) v4 (dg 2 10 n) rfl HO4.out.row (by simp only [List.length_append, List.length_singleton]; omega) (by omega) ?_); intro v8 w8 ho8 hg8 _; have HO8 := Lib.hid ho8; have x8 := (x3.trans x4).grown hg8 HO3.out.low; clear ho8 hg8)
  go_ret
  refine ⟨_, rfl, ?_, x8⟩
  simpa using HO8.out

set_option maxRecDepth 100000 in
set_option maxHeartbeats 4000000 in
theorem putc_4 (w0 w : World) (v : Value) (p : List Int) (a : Int) (hx : Ext w0 w) (ho : Own w0.heap.size w 5 .u8 v p) (hT : Tabs w0) (a0 : 0 ≤ a) (a1 : a ≤ 4096) (hb : p.length + (encC ⟨4, .empty, 0, a, 0, 0⟩).length ≤ 140737488355328) :
    Calls Tryz.prog 61 #[v, .agg (Cst.vals ⟨4, .empty, 0, a, 0, 0⟩)] w fun e w' => ∃ v', e = .returned v' ∧ Own w0.heap.size w' 5 .u8 v' (p ++ encC ⟨4, .empty, 0, a, 0, 0⟩) ∧ Ext w0 w' := by
  have HO := Lib.hid ho
  clear ho
  rw [encC_c] at hb ⊢
  simp only [List.length_cons] at hb
  unfold Cst.vals
  go_enter Tryz.func61, Tryz.ntmps61
  go_wp2_with (at_builtin; go_loud (refine wpList_app _ rfl _ _ w0.heap.size 29 5 _ 1 .u8 rfl Tryz.underlying29 info8 rfl (by omega) _ p rfl (HO.out.ext (((Ext.refl _).alloc _).alloc _)) _ [4] rfl (Row.one _ _ _ 4 (wf_u8 (by omega) (by omega)) (by simp)) (by simp only [List.length_singleton]; omega) (by have := hx.size; simp; omega) ?_); intro v3 w3 ho3 hg3 _; obtain ⟨at0, hg0, x3⟩ := kept_copy (y := ⟨4, .empty, 0, a, 0, 0⟩) HO.out hx (Nat.le_refl _) hg3; obtain ⟨z0, z1, z2, z3, z4, z5⟩ := at0; simp only at z0 z1 z2 z3 z4 z5; have HO3 := Lib.hid ho3; clear hg3 ho3)
  go_wp2_with fail
  refine (putU_any w0.heap.size v3 _ _ [a] _ (by exact HO3.out.ext ((Ext.refl _).alloc _)) (by exact Row.oneI _ _ _ _ (by omega) (by omega) (by simp)) (fun g hg => own_new_ne HO3.out (Nat.le_refl _) g (by injection hg with hg; exact hg.symm)) (by rw [uBs_one (by omega) (by omega)]; simp only [List.length_append, List.length_singleton]; omega) (by have := x3.size; simp; omega)).mono ?_
  rintro e w7 ⟨v7, rfl, ho7, hg7, ht7⟩
  rw [uBs_one (by omega) (by omega)] at ho7
  have x7 : Ext w0 w7 := (x3.alloc _).grown hg7 HO3.out.low
  have HO7 := Lib.hid ho7
  clear ho7 hg7
  go_wp2
  go_ret
  refine ⟨_, rfl, ?_, x7⟩
  simpa using HO7.out

set_option maxRecDepth 100000 in
set_option maxHeartbeats 4000000 in
theorem putc_5 (w0 w : World) (v : Value) (p : List Int) (a b c : Int) (hx : Ext w0 w) (ho : Own w0.heap.size w 5 .u8 v p) (hT : Tabs w0) (a0 : 0 ≤ a) (a1 : a ≤ 4096) (b0 : 0 ≤ b) (b1 : b ≤ 4096) (c0 : 0 ≤ c) (c1 : c ≤ 4096) (hb : p.length + (encC ⟨5, .empty, 0, a, b, c⟩).length ≤ 140737488355328) :
    Calls Tryz.prog 61 #[v, .agg (Cst.vals ⟨5, .empty, 0, a, b, c⟩)] w fun e w' => ∃ v', e = .returned v' ∧ Own w0.heap.size w' 5 .u8 v' (p ++ encC ⟨5, .empty, 0, a, b, c⟩) ∧ Ext w0 w' := by
  have HO := Lib.hid ho
  clear ho
  rw [encC_m (by simp)] at hb ⊢
  simp only [List.length_cons, List.length_append] at hb
  unfold Cst.vals
  go_enter Tryz.func61, Tryz.ntmps61
  go_wp2_with (at_builtin; go_loud (refine wpList_app _ rfl _ _ w0.heap.size 29 5 _ 1 .u8 rfl Tryz.underlying29 info8 rfl (by omega) _ p rfl (HO.out.ext (((Ext.refl _).alloc _).alloc _)) _ [5] rfl (Row.one _ _ _ 5 (wf_u8 (by omega) (by omega)) (by simp)) (by simp only [List.length_singleton]; omega) (by have := hx.size; simp; omega) ?_); intro v3 w3 ho3 hg3 _; obtain ⟨at0, hg0, x3⟩ := kept_copy (y := ⟨5, .empty, 0, a, b, c⟩) HO.out hx (Nat.le_refl _) hg3; obtain ⟨z0, z1, z2, z3, z4, z5⟩ := at0; simp only at z0 z1 z2 z3 z4 z5; have HO3 := Lib.hid ho3; clear hg3 ho3)
  go_wp2_with fail
  refine (putU_any w0.heap.size v3 _ _ [a, b, c] _ (by exact HO3.out.ext ((Ext.refl _).alloc _)) (by exact Row.threeI _ _ _ a b c a0 a1 b0 b1 c0 c1 (by simp)) (fun g hg => own_new_ne HO3.out (Nat.le_refl _) g (by injection hg with hg; exact hg.symm)) (by rw [uBs_three a0 a1 b0 b1 c0 c1]; simp only [List.length_append, List.length_singleton]; omega) (by have := x3.size; simp; omega)).mono ?_
  rintro e w7 ⟨v7, rfl, ho7, hg7, ht7⟩
  rw [uBs_three a0 a1 b0 b1 c0 c1] at ho7
  have x7 : Ext w0 w7 := (x3.alloc _).grown hg7 HO3.out.low
  have HO7 := Lib.hid ho7
  clear ho7 hg7
  go_wp2
  go_ret
  refine ⟨_, rfl, ?_, x7⟩
  simpa using HO7.out

set_option maxRecDepth 100000 in
set_option maxHeartbeats 4000000 in
theorem putc_6 (w0 w : World) (v : Value) (p : List Int) (a b c : Int) (hx : Ext w0 w) (ho : Own w0.heap.size w 5 .u8 v p) (hT : Tabs w0) (a0 : 0 ≤ a) (a1 : a ≤ 4096) (b0 : 0 ≤ b) (b1 : b ≤ 4096) (c0 : 0 ≤ c) (c1 : c ≤ 4096) (hb : p.length + (encC ⟨6, .empty, 0, a, b, c⟩).length ≤ 140737488355328) :
    Calls Tryz.prog 61 #[v, .agg (Cst.vals ⟨6, .empty, 0, a, b, c⟩)] w fun e w' => ∃ v', e = .returned v' ∧ Own w0.heap.size w' 5 .u8 v' (p ++ encC ⟨6, .empty, 0, a, b, c⟩) ∧ Ext w0 w' := by
  have HO := Lib.hid ho
  clear ho
  rw [encC_m (by simp)] at hb ⊢
  simp only [List.length_cons, List.length_append] at hb
  unfold Cst.vals
  go_enter Tryz.func61, Tryz.ntmps61
  go_wp2_with (at_builtin; go_loud (refine wpList_app _ rfl _ _ w0.heap.size 29 5 _ 1 .u8 rfl Tryz.underlying29 info8 rfl (by omega) _ p rfl (HO.out.ext (((Ext.refl _).alloc _).alloc _)) _ [6] rfl (Row.one _ _ _ 6 (wf_u8 (by omega) (by omega)) (by simp)) (by simp only [List.length_singleton]; omega) (by have := hx.size; simp; omega) ?_); intro v3 w3 ho3 hg3 _; obtain ⟨at0, hg0, x3⟩ := kept_copy (y := ⟨6, .empty, 0, a, b, c⟩) HO.out hx (Nat.le_refl _) hg3; obtain ⟨z0, z1, z2, z3, z4, z5⟩ := at0; simp only at z0 z1 z2 z3 z4 z5; have HO3 := Lib.hid ho3; clear hg3 ho3)
  go_wp2_with fail
  refine (putU_any w0.heap.size v3 _ _ [a, b, c] _ (by exact HO3.out.ext ((Ext.refl _).alloc _)) (by exact Row.threeI _ _ _ a b c a0 a1 b0 b1 c0 c1 (by simp)) (fun g hg => own_new_ne HO3.out (Nat.le_refl _) g (by injection hg with hg; exact hg.symm)) (by rw [uBs_three a0 a1 b0 b1 c0 c1]; simp only [List.length_append, List.length_singleton]; omega) (by have := x3.size; simp; omega)).mono ?_
  rintro e w7 ⟨v7, rfl, ho7, hg7, ht7⟩
  rw [uBs_three a0 a1 b0 b1 c0 c1] at ho7
  have x7 : Ext w0 w7 := (x3.alloc _).grown hg7 HO3.out.low
  have HO7 := Lib.hid ho7
  clear ho7 hg7
  go_wp2
  go_ret
  refine ⟨_, rfl, ?_, x7⟩
  simpa using HO7.out

theorem put_all (w0 w : World) (v : Value) (p : List Int) (l : List Cst) (x : Cst) (hx : Ext w0 w) (ho : Own w0.heap.size w 5 .u8 v p) (hT : Tabs w0) (hm : mayC l x = true) (hl : l.length ≤ 4096) (hok : x.ok) (hs : x.t.size ≤ 140737488351232) (hb : p.length + (encC x).length ≤ 140737488355328) :
    Calls Tryz.prog 61 #[v, .agg x.vals] w fun e w' => ∃ v', e = .returned v' ∧ Own w0.heap.size w' 5 .u8 v' (p ++ encC x) ∧ Ext w0 w' := by
  rcases may_cases hm hl with ⟨t, rfl, hv⟩ | ⟨k, n, rfl, rfl | rfl⟩ | ⟨a, rfl, ha⟩ | ⟨k, a, b, c, rfl, rfl | rfl, ha, hb', hc⟩
  · exact putc_1 w0 w v p t hx ho hT hv hs (by have h1 := enc_len t.data.toList; have h2 : t.data.toList.length = t.size := (Lib.size_eq _).symm; have : t.size ≤ 140737488351232 := hs; omega) hb
  · exact putc_2 w0 w v p n hx ho hT hok.2.1.1 hok.2.1.2 hb
  · exact putc_3 w0 w v p n hx ho hT hok.2.1.1 hok.2.1.2 hb
  · exact putc_4 w0 w v p a hx ho hT ha.1 ha.2 hb
  · exact putc_5 w0 w v p a b c hx ho hT ha.1 ha.2 hb'.1 hb'.2 hc.1 hc.2 hb
  · exact putc_6 w0 w v p a b c hx ho hT ha.1 ha.2 hb'.1 hb'.2 hc.1 hc.2 hb

set_option maxRecDepth 100000 in
set_option maxHeartbeats 4000000 in
theorem Bytes_any (v : Value) (l : List Cst) (w : World) (h : RowC w v l) (hT : Tabs w) (hR : Texts l) (hZ : checkC l = 0 → (bytesZ l).length ≤ 140737488355328) :
    Calls Tryz.prog 28 #[v] w (Ret w (BytesAns w l)) := by
  have hrow := h
  obtain ⟨A, cp, rfl, h2, h3, h4, h5, h6⟩ := id h
  unfold maxLen at h3
  by_cases hC : checkC l = 0
  · obtain ⟨hl, hl0, hall⟩ := check_all hC
    have hz := hZ hC
    have HC := Lib.hid hC
    obtain ⟨A2, c2, t4, t4', t5, t6, ht⟩ := tailC h hl0
    unfold maxLen at t6
    obtain ⟨n, hn⟩ : ∃ n, n = l.length := ⟨_, rfl⟩
    have HN := Lib.hid hn
    rw [← hn] at hrow h hl hl0 t4 t4' t5 ht
    rw [← hn]
    obtain ⟨m, hm⟩ : ∃ m, n - 1 = m := ⟨_, rfl⟩
    rw [hm] at t4 t4' t5
    clear hn h2 h4 h6 hC
    go_enter Tryz.func28, Tryz.ntmps28
    go_wp2_with fail
    refine (Check_anyP _ l _ (by exact hrow) hT hR).mono ?_
    rw [HC.out]
    rintro e w1 ⟨rfl, x1⟩
    go_wp2_with fail
    refine (putU_any w.heap.size (.slice none 0 0) [] _ [(n : Int)] _ (by exact Own.nil _ _ _ _) (by exact Row.oneI _ _ _ _ (by omega) (by omega) (by simp)) (fun g hg => by simp [Value.ownBlock]) (by rw [uBs_one (by omega) (by omega), List.length_nil]; have h1 := encTo_le (l := l) (k := 1) (m := l.length) (Nat.le_refl _) (by rw [← HN.out]; omega); rw [encTo_one, ← HN.out] at h1; have h2 : (encTo l l.length).length ≤ 140737488355328 := hz; rw [← HN.out] at h2; omega) (by have := x1.size; simp; omega)).mono ?_
    rintro e w2 ⟨v2, rfl, ho2, hg2, -⟩
    have ho : Own w.heap.size w2 5 .u8 v2 (encTo l 1) := by
      rw [encTo_one, ← HN.out]
      rw [uBs_one (by omega) (by omega)] at ho2
      simpa using ho2
    have x : Ext w w2 := (x1.alloc _).grown hg2 (fun g hg => by simp [Value.ownBlock] at hg)
    clear ho2 x1 hg2
    go_wp2
    go_loopw [5, 20] (fun v i wr => ∃ k : Nat, i = .int .i64 k ∧ k ≤ m ∧ Own w.heap.size wr 5 .u8 v (encTo l (k + 1)) ∧ Ext w wr) (fun _ i _ => m - (intOf i).toNat)
    case atStart => exact ⟨0, rfl, by omega, ho, x⟩
    case round =>
      clear ho x t4 t4'
      obtain ⟨k, rfl, hkm, ho, hx⟩ := hrel
      have HO := Lib.hid ho
      clear ho
      by_cases hlt : k < m
      · obtain ⟨b2, o2, rfl, hb2, hat⟩ := ht k (by omega)
        obtain ⟨a0, a1, a2, a3, a4, a5⟩ := hat.ext hx hb2
        have hkl : k + 1 < l.length := by rw [← HN.out]; omega
        have hmay := hall.2 (k + 1) (by omega) hkl
        have hok := gc_ok h5 (k + 1)
        have hsz := hR.at_ (k + 1)
        have hE := encTo_next (l := l) (k := k + 1) (by omega) hkl
        have hL := encTo_le (l := l) (k := k + 1 + 1) (m := l.length) (by omega) (by omega)
        have hz2 : (encTo l l.length).length ≤ 140737488355328 := hz
        rw [hE, List.length_append] at hL
        have hc1 := fun W v hW hoW => put_all w W v (encTo l (k + 1)) l (gc l (k + 1)) hW hoW hT hmay (by rw [← HN.out]; exact hl) hok hsz (by omega)
        rw [← hE] at hc1
        obtain ⟨y, hy⟩ : ∃ y, gc l (k + 1) = y := ⟨_, rfl⟩
        rw [hy] at a0 a1 a2 a3 a4 a5 hc1
        obtain ⟨kk, t, nn, a, b, c⟩ := y
        simp only at a0 a1 a2 a3 a4 a5
        have C1 := Lib.hid hc1
        clear hc1 hE hL hy hmay hok hsz hat
        go_wp2_with fail
        refine (C1.out _ _ (by exact hx.alloc _) (by exact HO.out.ext ((Ext.refl _).alloc _))).mono ?_
        rintro e w3 ⟨v3, rfl, ho3, x3⟩
        go_wp2
        go_roundw
        case rel => exact ⟨k + 1, by go_num, by omega, ho3, x3⟩
        case measure => simp [intOf]; omega
      · have hkk : k = m := by omega
        go_wp2
        go_ret2
        refine Ret.mk (.inl ⟨HC.out, _, rfl, ?_⟩) hx
        unfold bytesZ
        rw [← HN.out, show n = k + 1 by omega]
        exact HO.out
  · have HC := Lib.hid hC
    have hb : (checkC l != 0) = true := by simpa using hC
    clear h2 h4 h6 h5 hC
    go_enter Tryz.func28, Tryz.ntmps28
    go_wp2_with fail
    refine (Check_anyP _ l _ (by exact hrow) hT hR).mono ?_
    rintro e w1 ⟨rfl, x1⟩
    go_wp2
    go_ret2
    exact Ret.mk (.inr ⟨HC.out, rfl⟩) x1
end Go.Proofs.YtokmeomjdpfknaaGreatDoor
namespace Go.Proofs.YtokmeomjdpfknaaGreatDoor
open Go.RowKit
set_option linter.unusedVariables false

theorem pU_pos (l : List Int) (e : Int) : 0 ≤ (pU l e).1 ∧ (pU l e).1 ≤ 9007199254740991 := by
  unfold pU numP
  by_cases he : e = 0
  · rw [if_pos he]
    by_cases h2 : (tU (l.take 16)).2.2 = 0
    · rw [if_pos h2]
      exact tU_pos h2
    · rw [if_neg h2]
      simp
  · rw [if_neg he]
    simp
def tP (l : List Int) (e : Int) : ByteArray × List Int × Int :=
  ((decT (tkP (pU l e).2.1 (pU l e).2.2 (pU l e).1.toNat).1).1, (tkP (pU l e).2.1 (pU l e).2.2 (pU l e).1.toNat).2.1, errP (tkP (pU l e).2.1 (pU l e).2.2 (pU l e).1.toNat).2.2 (decT (tkP (pU l e).2.1 (pU l e).2.2 (pU l e).1.toNat).1).2)
theorem tkP_le (l : List Int) (e : Int) (n : Nat) : (tkP l e n).1.length ≤ l.length := by
  unfold tkP
  split
  · split
    · simp
    · simp only [List.length_take]; omega
  · simp
theorem pU_le (l : List Int) (e : Int) : (pU l e).2.1.length ≤ l.length := by
  unfold pU numP
  split
  · split
    · simp only [List.length_drop]; omega
    · exact Nat.le_refl _
  · exact Nat.le_refl _
set_option maxRecDepth 100000 in
set_option maxHeartbeats 2000000 in
theorem rtext_any (w0 w : World) (g : Nat) (l : List Int) (e : Int) (h : PRP w0 w g l e) (hl : l.length + 4 ≤ 140737488355328) :
    Calls Tryz.prog 216 #[.pointer (some ⟨g, 0, none⟩)] w (PRetP w0 w g (.agg (Cst.vals ⟨0, (tP l e).1, 0, 0, 0, 0⟩)) (tP l e).2.1 (tP l e).2.2) := by
  have hlt := h.lt
  have hbs := h.base
  have h1 := h.ext ((Ext.refl w).alloc (.cells c0.vals 49))
  have hw := h.ext0.size
  have c1 := numberU_any w0 _ g l e h1
  have hp := pU_pos l e
  have hle := pU_le l e
  unfold tP
  obtain ⟨⟨n, r, e1⟩, ht⟩ : ∃ t, t = pU l e := ⟨_, rfl⟩
  rw [← ht] at c1 hp hle ⊢
  simp only at c1 hp hle ⊢
  obtain ⟨hp0, hp1⟩ := hp
  have c2 := fun W hW => rtake_anyI w0 W g r e1 n hp0 (by omega) hW
  have hle2 := tkP_le r e1 n.toNat
  obtain ⟨⟨s, r2, e2⟩, ht2⟩ : ∃ t, t = tkP r e1 n.toNat := ⟨_, rfl⟩
  rw [← ht2] at c2 hle2 ⊢
  simp only at c2 hle2 ⊢
  have C1 := Lib.hid c1
  have C2 := Lib.hid c2
  obtain ⟨d, hd⟩ : ∃ d, d = decT s := ⟨_, rfl⟩
  rw [← hd]
  have HD := Lib.hid hd
  clear h1 h ht ht2 c1 c2 hd
  obtain ⟨dt, de⟩ := d
  simp only
  go_enter Tryz.func216, Tryz.ntmps216
  go_wp2_with fail
  refine C1.out.mono ?_
  rintro x w2 ⟨rfl, h2, g2⟩
  have H2 := Lib.hid h2
  clear h2
  go_wp2_with fail
  refine (C2.out _ (by exact H2.out)).mono ?_
  rintro x w3 ⟨v3, ⟨rfl, h3, g3⟩, hr3⟩
  have H3 := Lib.hid h3
  clear h3
  go_wp2_with fail
  refine (Decode_anyP v3 s _ (by exact hr3.ext H3.out.ext0) (by omega)).mono ?_
  rintro x w4 ⟨u4, rfl, ha, x4⟩
  have H4 := Lib.hid (H3.out.ext x4)
  have G4 := Lib.hid (grown_thenP' (grown_twoP' g2 g3) x4)
  clear x4 g2 g3 hr3
  have hu : ∃ at4, u4 = .tuple #[.string dt, .int .i64 at4, .int .i64 de] := by
    have hd := HD.out
    unfold decT at hd
    rcases ha with ⟨hs, rfl⟩ | ⟨hs, rfl⟩
    · rw [if_pos hs] at hd
      injection hd with hd1 hd2
      exact ⟨0, by rw [hd1, hd2]⟩
    · rw [if_neg (by omega)] at hd
      injection hd with hd1 hd2
      exact ⟨_, by rw [hd1, hd2]; rfl⟩
  obtain ⟨at4, rfl⟩ := hu
  clear ha
  go_wp2_with fail
  refine (fail_any w0 _ g r2 e2 de (by exact H4.out)).mono ?_
  rintro x w5 ⟨rfl, h5, g5⟩
  obtain ⟨k1, g6⟩ := res_block hlt (grown_twoP' G4.out g5)
  clear g5
  obtain ⟨y0, y1, y2, y3, y4, y5⟩ := At0.of (y := c0) k1
  have fz1 : ∀ j, w5.frozen? ⟨w.heap.size, j, none⟩ = false := fun j => by simp [World.frozen?, k1]
  have HR := Lib.hid h5
  have GR := Lib.hid g6
  simp only [c0] at y0 y1 y2 y3 y4 y5
  clear k1 h5
  go_wp2
  exact bodyPost_ret (v := .agg (Cst.vals ⟨0, dt, 0, 0, 0, 0⟩)) (by unfold Cst.vals; simp [results, Tryz.results216, go_sem, y0, y1, y2, y3, y4, y5]; try rfl) rfl ⟨rfl, HR.out.six (by omega) (by omega) 0 _ _ _ _ _ _, grown_six GR.out (Nat.le_refl _) 0 _ _ _ _ _ _⟩

theorem copied_any (w0 w : World) (g : Nat) (l : List Int) (e : Int) (h : PRP w0 w g l e) (hl : l.length ≤ 140737488355328) :
    Calls Tryz.prog 182 #[.pointer (some ⟨g, 0, none⟩)] w (Ret w (fun v' w' => Own w.heap.size w' 5 .u8 v' l)) := by
  obtain ⟨A, c, hc1, hc2, hrow, a0, a1, f0, f1⟩ := h.cells
  have HR := Lib.hid (hrow.ext h.ext0)
  clear hrow h
  go_enter Tryz.func182, Tryz.ntmps182
  go_wp2_with fail
  refine (clone_any _ l _ (by exact HR.out) hl).mono ?_
  rintro x w1 ⟨v1, rfl, ho1, x1⟩
  go_wp2
  go_ret
  exact Ret.mk ho1 x1

def ways : Array Value := #[.func (.func 215) #[] #[], .func (.func 216) #[] #[], .func (.func 217) #[] #[], .func (.func 217) #[] #[], .func (.func 218) #[] #[], .func (.func 219) #[] #[], .func (.func 219) #[] #[]]
theorem byKind_any (w : World) : Calls Tryz.prog 179 #[] w fun e w' => e = .returned (.agg ways) ∧ Ext w w' := by
  go_enter Tryz.func179, Tryz.ntmps179
  go_wp2
  exact bodyPost_ret (v := .agg ways) (by unfold ways; simp [results, Tryz.results179, go_sem]) rfl ⟨rfl, (Ext.refl w).alloc _⟩
end Go.Proofs.YtokmeomjdpfknaaGreatDoor
