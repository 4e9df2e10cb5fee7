/- Several texts of this proof, one behind the other. -/
import Derived.Test.YtecgldkhjgcffaaDoorZtN
import Derived.Test.YtecgldkhjgcffaaDoorZtA
import Derived.Test.YtecgldkhjgcffaaDoorZtC
import Derived.RegionCalls
import Derived.Deep.RegionWith
import Derived.Deep.RegionHeld3
/- Constants as bytes: the document's answer, walked. -/
namespace Go.Proofs.YtecgldkhjgcffaaDoor
open Go.RowKit
set_option linter.unusedVariables false

/-- A constant's bytes. -/
def encC (x : Cst) : List Int :=
  x.k :: (if x.k = 1 then dg 1 10 (encZ x.t.data.toList).length ++ encZ x.t.data.toList else if x.k = 2 ∨ x.k = 3 then dg 2 10 x.n else if x.k = 4 then dg 1 10 x.a else dg 1 10 x.a ++ dg 1 10 x.b ++ dg 1 10 x.c)
/-- Constants' bytes, up to a place. -/
def encTo (l : List Cst) (k : Nat) : List Int := dg 1 10 l.length ++ ((l.take k).drop 1).flatMap encC
def bytesZ (l : List Cst) : List Int := encTo l l.length
theorem encTo_one (l : List Cst) : encTo l 1 = dg 1 10 l.length := by
  unfold encTo
  rw [List.drop_eq_nil_iff.2 (by rw [List.length_take]; omega)]
  simp
theorem encTo_next {l : List Cst} {k : Nat} (h1 : 1 ≤ k) (h : k < l.length) : encTo l (k + 1) = encTo l k ++ encC (gc l k) := by
  unfold encTo
  rw [takeC_one h, List.drop_append_of_le_length (by rw [List.length_take]; omega), List.flatMap_append, List.append_assoc]
  simp
theorem encTo_le {l : List Cst} {k m : Nat} (h1 : 1 ≤ k) (h : k ≤ m) : (encTo l k).length ≤ (encTo l m).length := by
  induction m with
  | zero => omega
  | succ m ih =>
    by_cases hk : k = m + 1
    · rw [hk]; exact Nat.le_refl _
    · have h2 := ih (by omega)
      by_cases hm : m < l.length
      · rw [encTo_next (by omega) hm, List.length_append]
        omega
      · have e : encTo l (m + 1) = encTo l m := by
          unfold encTo
          rw [List.take_of_length_le (by omega), List.take_of_length_le (by omega)]
        rw [e]
        exact h2
theorem refU4_any (n : Int) (w : World) (h0 : 0 ≤ n) (h1 : n ≤ 9007199254740991) :
    Calls Tryd.prog 38 #[.int .i64 n] w (Ret w (fun v w' => Own w.heap.size w' 5 .u8 v (dg 1 10 n))) := by
  have HU := Lib.hid (uS_ok h0 h1)
  go_enter Tryd.func38, Tryd.ntmps38
  go_wp2_with fail
  refine (refU_any n _ (by omega) (by omega)).mono ?_
  rw [HU.out]
  rintro e w1 ⟨v1, rfl, ⟨b1, rfl, ho1⟩, he1⟩
  go_wp2
  go_ret
  exact Ret.mk ho1 he1

/-- What Bytes answers. -/
def BytesAns (w : World) (l : List Cst) (v : Value) (w' : World) : Prop :=
  (checkC l = 0 ∧ ∃ b, v = .tuple #[b, .int .i64 0] ∧ Own w.heap.size w' 5 .u8 b (bytesZ l)) ∨ (¬ checkC l = 0 ∧ v = .tuple #[.slice none 0 0, .int .i64 (checkC l)])
theorem check_all {l : List Cst} (h : checkC l = 0) : l.length ≤ 4096 ∧ 0 < l.length ∧ AllMay l := by
  by_cases h1 : 4096 < l.length
  · rw [checkC_big h1] at h; cases h
  · by_cases h2 : l = []
    · rw [h2, checkC_nil] at h; cases h
    · refine ⟨by omega, List.length_pos_iff.2 h2, ?_⟩
      by_cases h3 : AllMay l
      · exact h3
      · rw [checkC_no (by omega) h3] at h; cases h

theorem Row.one (w : World) (T : TypeId) (g : Nat) (x : Int) (hx : (Lit.int .u8 x).wf = true) (hg : g = w.heap.size) : Row (w.alloc (.cells #[.int .u8 x] T)) .u8 (.slice (some ⟨g, 0, none⟩) 1 1) [x] := by
  subst hg
  exact Row.built1 w .u8 T x hx
/-- The copy of a constant that a round keeps stays as its row grows. -/
theorem kept_copy {w wr w3 : World} {B : Nat} {e T : TypeId} {k : IntKind} {v : Value} {p : List Int} {y : Cst} {o : Obj} (ho : Own B wr e k v p) (hx : Ext w wr) (hB : w.heap.size ≤ B) (hg : ((wr.alloc (.cells y.vals T)).alloc o).grownBy w3 v.ownBlock) :
    At0 w3 wr.heap.size y ∧ wr.heap.size < w3.heap.size ∧ Ext w w3 := by
  have hs := hg.size
  simp at hs
  refine ⟨At0.of (T := T) ?_, by omega, ((hx.alloc _).alloc _).grown hg (fun g hgb => Nat.le_trans hB (ho.low g hgb))⟩
  rw [hg.block wr.heap.size (by simp; omega) (fun e => by have := ho.high _ e.symm; omega)]
  rw [heap_alloc_old _ _ (by simp), heap_alloc_new]
theorem ne_step {v v' : Value} {g : Nat} {w : World} (h : v.ownBlock ≠ some g) (hb : v'.ownBlock = v.ownBlock ∨ v'.ownBlock = some w.heap.size) (hlt : g < w.heap.size) : v'.ownBlock ≠ some g := by
  rcases hb with hb | hb
  · rw [hb]; exact h
  · rw [hb]; intro e; injection e with e; omega
theorem ne_first {B : Nat} {w w0 : World} {e : TypeId} {k : IntKind} {v v' : Value} {p : List Int} (ho : Own B w e k v p) (hb : v'.ownBlock = v.ownBlock ∨ v'.ownBlock = some w0.heap.size) (hlt : w.heap.size < w0.heap.size) : v'.ownBlock ≠ some w.heap.size :=
  ne_step (fun e => by have := ho.high _ e; omega) hb hlt
/-- append of a list onto a row of the call's own, as one step of a region that draws. -/
theorem step_app {P : Program} {ops : Array Oper} {o : Oper} {a : Act} {w : World} {K : Act → World → Prop} {Q : Exit → Act → World → Prop} {E : Prop} (hgd : o.guard = none) (s y : Operand) (B : Nat) (t e : TypeId) (z : Value) (bytes : Nat) (k : IntKind)
    (hop : o.op = .call { callee := .builtin .append, args := #[s, y], argTypes := #[t, t] }) (ht : P.underlying t = some (.slice e))
    (hi : (P.info? e).map (fun i => (i.zero, i.size, i.bytes)) = some (some z, 1, bytes)) (hz : z.cells.size = 1) (hb1 : 1 ≤ bytes)
    (v : Value) (l : List Int) (hs : a.eval s = v) (ho : Own B w e k v l) (x : Value) (m : List Int) (hx : a.eval y = x) (hr : Row w k x m)
    (hb : (l.length + m.length) * bytes ≤ 140737488355328) (hB : B ≤ w.heap.size)
    (h : ∀ v' w', Own B w' e k v' (l ++ m) → w.grownBy w' v.ownBlock → (v'.ownBlock = v.ownBlock ∨ v'.ownBlock = some w.heap.size) → K (a.put o.dst v') w') :
    if Region.wanted o (yielded ops a.tmps) = true then Oper.wp P o a w K Q else E := by
  have hw : Region.wanted o (yielded ops a.tmps) = true := by simp [Region.wanted, hgd]
  rw [if_pos hw]
  obtain ⟨v', w', hrun, h2, h3, h4⟩ := run_app (P := P) w B t o.type e z bytes k ht hi hz v l ho x m hr hb hb1 hB
  unfold Oper.wp execOp
  simp only [hop, resolve, invoke, builtin, Sem.run_bind, Sem.run_pure, Result.andThen_ok, List.map_toArray, List.map_cons, List.map_nil, hs, hx, hrun]
  exact h v' w' h2 h3 h4

set_option maxRecDepth 100000 in
set_option maxHeartbeats 8000000 in
theorem refBytes_any (v : Value) (l : List Cst) (w : World) (h : RowC w v l) (hT : Tabs w) (hR : Room l) (hZ : checkC l = 0 → (bytesZ l).length ≤ 140737488355328) :
    Calls Tryd.prog 18 #[v] w (Ret w (BytesAns w l)) := by
  have hrow := h
  obtain ⟨A, cp, rfl, h2, h3, h4, h5, h6⟩ := h
  unfold maxLen at h3
  by_cases hC : checkC l = 0
  · obtain ⟨hl, hl0, hall⟩ := check_all hC
    have hz := hZ hC
    have HC := Lib.hid hC
    obtain ⟨bl, o, rfl, hbl, hc⟩ := h6 (by omega)
    obtain ⟨n, hn⟩ : ∃ n, n = l.length := ⟨_, rfl⟩
    have HN := Lib.hid hn
    rw [← hn] at hrow hl hl0 hc
    rw [← hn]
    clear hn h2 h4 h6 hC
    go_enter Tryd.func18, Tryd.ntmps18
    go_wp2_with fail
    refine (refCheck_any _ l _ (by exact hrow) hT hR).mono ?_
    rw [HC.out]
    rintro e w1 ⟨rfl, x1⟩
    go_wp2_with fail
    refine (refU4_any n _ (by omega) (by omega)).mono ?_
    rintro e w2 ⟨v2, rfl, ho2, x2⟩
    have ho : Own w.heap.size w2 5 .u8 v2 (encTo l 1) := by
      rw [encTo_one, ← HN.out]
      exact ho2.base x1.size
    have x : Ext w w2 := x1.trans x2
    clear ho2 x1 x2
    go_wp2
    go_loopw [5, 6] (fun v i wr => ∃ k : Nat, i = .int .i64 k ∧ 1 ≤ k ∧ k ≤ n ∧ Own w.heap.size wr 5 .u8 v (encTo l k) ∧ Ext w wr) (fun _ i _ => n - (intOf i).toNat)
    case atStart => exact ⟨1, rfl, by omega, by omega, ho, x⟩
    case round =>
      clear ho x
      obtain ⟨k, rfl, hk1, hkn, ho, hx⟩ := hrel
      by_cases hlt : k < n
      · have hmay := hall.2 k hk1 (by rw [← HN.out]; exact hlt)
        have hok := gc_ok h5 k
        have hE := Lib.hid (encTo_next hk1 (show k < l.length by rw [← HN.out]; exact hlt))
        have hL := encTo_le (l := l) (k := k + 1) (m := l.length) (by omega) (by rw [← HN.out]; omega)
        have hrm := hR.at_ (j := k) (by rw [← HN.out]; exact hlt)
        obtain ⟨y, hy⟩ : ∃ y, gc l k = y := ⟨_, rfl⟩
        have at6 := (hc k hlt).ext hx hbl
        rw [hy] at hmay hok hE hrm at6
        have HY := Lib.hid hy
        obtain ⟨kk, t, n1, a, b, c⟩ := y
        obtain ⟨a0, a1, a2, a3, a4, a5⟩ := at6
        simp only at a0 a1 a2 a3 a4 a5 hrm
        obtain ⟨-, ok_n, ok_a, ok_b, ok_c⟩ := hok
        simp only at ok_n ok_a ok_b ok_c
        have hm := of_decide_eq_true hmay
        unfold MayC at hm
        simp only at hm
        clear hy hmay hc
        rcases hm with ⟨rfl, hm⟩ | ⟨rfl, hm⟩ | ⟨rfl, hm⟩ | ⟨rfl, hm⟩ | ⟨hk56, hm⟩

        · obtain ⟨rfl, rfl, rfl, rfl, hvv⟩ := hm
          have hbd : (encTo l k).length + (encC ⟨1, t, 0, 0, 0, 0⟩).length ≤ 140737488355328 := by
            have h1 := hE.out
            have h2 : (encTo l l.length).length ≤ 140737488355328 := hz
            rw [h1, List.length_append] at hL
            omega
          simp [encC] at hbd
          go_wp2_with (at_builtin; go_loud (refine wpList_app _ rfl _ _ w.heap.size 22 5 _ 1 .u8 rfl Tryd.underlying22 info8 rfl (by omega) _ (encTo l k) rfl (ho.ext (((Ext.refl _).alloc _).alloc _)) _ [1] rfl (Row.one _ _ _ 1 (wf_u8 (by omega) (by omega)) (by simp)) (by simp only [List.length_singleton]; omega) (by have := hx.size; simp; omega) ?_); intro v3 w3 ho3 hg3 _; obtain ⟨at0, hg0, x3⟩ := kept_copy (y := ⟨1, t, 0, 0, 0, 0⟩) ho hx (Nat.le_refl _) hg3; obtain ⟨z0, z1, z2, z3, z4, z5⟩ := at0; simp only at z0 z1 z2 z3 z4 z5)
          clear hg3 ho a0 a1 a2 a3 a4 a5
          go_wp2_with fail
          refine (refEncode_any t _ (hT.ext x3) hrm.1 hrm.2).mono ?_
          rintro e w4 ⟨v4, rfl, ha, x4⟩
          rcases ha with ⟨hv, v5, rfl, ho5⟩ | ⟨hv, _⟩
          · obtain ⟨A5, c5, hv5, _⟩ := ho5.row
            subst hv5
            have HV := Lib.hid hv
            clear hv
            go_wp2_with fail
            refine (refU4_any _ _ (by omega) (by omega)).mono ?_
            rintro e w6 ⟨v6, rfl, ho6, x6⟩
            go_wp2_with (first
              | (at_builtin; refine wpList_app _ rfl _ _ w.heap.size 22 5 _ 1 .u8 rfl Tryd.underlying22 info8 rfl (by omega) v3 _ rfl (ho3.ext (x4.trans x6)) v6 (dg 1 10 (encZ t.data.toList).length) rfl ho6.row (by rw [List.length_append, List.length_singleton]; omega) (by have := ((x3.trans x4).trans x6).size; omega) ?_; intro v7 w7 ho7 hg7 hb7)
              | (at_builtin; go_loud (refine wpList_app _ rfl _ _ w.heap.size 22 5 _ 1 .u8 rfl Tryd.underlying22 info8 rfl (by omega) v7 _ rfl ho7 (.slice A5 _ c5) (encZ t.data.toList) rfl ((ho5.row.ext x6).kept hg7 (fun g hgb => fun e => by have := ho5.low _ hgb; have := ho3.high _ e; omega)) (by rw [List.length_append, List.length_append, List.length_singleton]; omega) (by have := ((x3.trans x4).trans x6).size; have := hg7.size; omega) ?_); intro v8 w8 ho8 hg8 _; have x8 : Ext w w8 := (((x3.trans x4).trans x6).grown hg7 ho3.low).grown hg8 ho7.low))
            clear hg7 hg8 ho3 ho5 ho6 ho7 x3 x4 x6
            go_roundw
            case rel =>
              refine ⟨k + 1, by go_num, by omega, by omega, ?_, x8⟩
              rw [hE.out, encC]
              simpa using ho8
            case measure => simp [intOf]; omega
          · exact absurd (hv.symm.trans hvv) (by simp)
        · have hbd : (encTo l k).length + (encC ⟨2, t, n1, a, b, c⟩).length ≤ 140737488355328 := by
            have h1 := hE.out
            have h2 : (encTo l l.length).length ≤ 140737488355328 := hz
            rw [h1, List.length_append] at hL
            omega
          simp [encC] at hbd
          clear hm
          go_wp2_with (at_builtin; go_loud (refine wpList_app _ rfl _ _ w.heap.size 22 5 _ 1 .u8 rfl Tryd.underlying22 info8 rfl (by omega) _ (encTo l k) rfl (ho.ext (((Ext.refl _).alloc _).alloc _)) _ [2] rfl (Row.one _ _ _ 2 (wf_u8 (by omega) (by omega)) (by simp)) (by simp only [List.length_singleton]; omega) (by have := hx.size; simp; omega) ?_); intro v3 w3 ho3 hg3 _; obtain ⟨at0, hg0, x3⟩ := kept_copy (y := ⟨2, t, n1, a, b, c⟩) ho hx (Nat.le_refl _) hg3; obtain ⟨z0, z1, z2, z3, z4, z5⟩ := at0; simp only at z0 z1 z2 z3 z4 z5)
          clear hg3 ho a0 a1 a2 a3 a4 a5
          go_wp2_with fail
          refine (refS_any n1 _ ok_n.1 ok_n.2).mono ?_
          rintro e w4 ⟨v4, rfl, ho4, x4⟩
          go_wp2_with (at_builtin; go_loud (refine wpList_app _ rfl _ _ w.heap.size 22 5 _ 1 .u8 rfl Tryd.underlying22 info8 rfl (by omega) v3 _ rfl (ho3.ext x4) v4 (dg 2 10 n1) rfl ho4.row (by rw [List.length_append, List.length_singleton]; omega) (by have := (x3.trans x4).size; omega) ?_); intro v5 w5 ho5 hg5 _; have x5 : Ext w w5 := (x3.trans x4).grown hg5 ho3.low)
          clear hg5 ho3 ho4 x3 x4
          go_roundw
          case rel =>
            refine ⟨k + 1, by go_num, by omega, by omega, ?_, x5⟩
            rw [hE.out, encC]
            simpa using ho5
          case measure => simp [intOf]; omega
        · have hbd : (encTo l k).length + (encC ⟨3, t, n1, a, b, c⟩).length ≤ 140737488355328 := by
            have h1 := hE.out
            have h2 : (encTo l l.length).length ≤ 140737488355328 := hz
            rw [h1, List.length_append] at hL
            omega
          simp [encC] at hbd
          clear hm
          go_wp2_with (at_builtin; go_loud (refine wpList_app _ rfl _ _ w.heap.size 22 5 _ 1 .u8 rfl Tryd.underlying22 info8 rfl (by omega) _ (encTo l k) rfl (ho.ext (((Ext.refl _).alloc _).alloc _)) _ [3] rfl (Row.one _ _ _ 3 (wf_u8 (by omega) (by omega)) (by simp)) (by simp only [List.length_singleton]; omega) (by have := hx.size; simp; omega) ?_); intro v3 w3 ho3 hg3 _; obtain ⟨at0, hg0, x3⟩ := kept_copy (y := ⟨3, t, n1, a, b, c⟩) ho hx (Nat.le_refl _) hg3; obtain ⟨z0, z1, z2, z3, z4, z5⟩ := at0; simp only at z0 z1 z2 z3 z4 z5)
          clear hg3 ho a0 a1 a2 a3 a4 a5
          go_wp2_with fail
          refine (refS_any n1 _ ok_n.1 ok_n.2).mono ?_
          rintro e w4 ⟨v4, rfl, ho4, x4⟩
          go_wp2_with (at_builtin; go_loud (refine wpList_app _ rfl _ _ w.heap.size 22 5 _ 1 .u8 rfl Tryd.underlying22 info8 rfl (by omega) v3 _ rfl (ho3.ext x4) v4 (dg 2 10 n1) rfl ho4.row (by rw [List.length_append, List.length_singleton]; omega) (by have := (x3.trans x4).size; omega) ?_); intro v5 w5 ho5 hg5 _; have x5 : Ext w w5 := (x3.trans x4).grown hg5 ho3.low)
          clear hg5 ho3 ho4 x3 x4
          go_roundw
          case rel =>
            refine ⟨k + 1, by go_num, by omega, by omega, ?_, x5⟩
            rw [hE.out, encC]
            simpa using ho5
          case measure => simp [intOf]; omega
        · have hbd : (encTo l k).length + (encC ⟨4, t, n1, a, b, c⟩).length ≤ 140737488355328 := by
            have h1 := hE.out
            have h2 : (encTo l l.length).length ≤ 140737488355328 := hz
            rw [h1, List.length_append] at hL
            omega
          simp [encC] at hbd
          obtain ⟨j4, hj4, hj41, hj42, -⟩ := isK_at hm.2.2.2.2
          have ha0 : 0 ≤ a := by omega
          have ha1 : a ≤ 4096 := by have := HN.out; omega
          clear hm hj4
          go_wp2_with (at_builtin; go_loud (refine wpList_app _ rfl _ _ w.heap.size 22 5 _ 1 .u8 rfl Tryd.underlying22 info8 rfl (by omega) _ (encTo l k) rfl (ho.ext (((Ext.refl _).alloc _).alloc _)) _ [4] rfl (Row.one _ _ _ 4 (wf_u8 (by omega) (by omega)) (by simp)) (by simp only [List.length_singleton]; omega) (by have := hx.size; simp; omega) ?_); intro v3 w3 ho3 hg3 _; obtain ⟨at0, hg0, x3⟩ := kept_copy (y := ⟨4, t, n1, a, b, c⟩) ho hx (Nat.le_refl _) hg3; obtain ⟨z0, z1, z2, z3, z4, z5⟩ := at0; simp only at z0 z1 z2 z3 z4 z5)
          clear hg3 ho a0 a1 a2 a3 a4 a5
          go_wp2_with fail
          refine (refU4_any a _ (by omega) (by omega)).mono ?_
          rintro e w4 ⟨v4, rfl, ho4, x4⟩
          go_wp2_with (at_builtin; go_loud (refine wpList_app _ rfl _ _ w.heap.size 22 5 _ 1 .u8 rfl Tryd.underlying22 info8 rfl (by omega) v3 _ rfl (ho3.ext x4) v4 (dg 1 10 a) rfl ho4.row (by rw [List.length_append, List.length_singleton]; omega) (by have := (x3.trans x4).size; omega) ?_); intro v5 w5 ho5 hg5 _; have x5 : Ext w w5 := (x3.trans x4).grown hg5 ho3.low)
          clear hg5 ho3 ho4 x3 x4
          go_roundw
          case rel =>
            refine ⟨k + 1, by go_num, by omega, by omega, ?_, x5⟩
            rw [hE.out, encC]
            simpa using ho5
          case measure => simp [intOf]; omega
        · obtain ⟨j4, hj4, hj41, hj42, -⟩ := isK_at hm.2.2.1
          obtain ⟨j5, hj5, hj51, hj52, -⟩ := isK_at hm.2.2.2.1
          obtain ⟨j6, hj6, hj61, hj62, -⟩ := isK_at hm.2.2.2.2
          have ha0 : 0 ≤ a := by omega
          have ha1 : a ≤ 4096 := by have := HN.out; omega
          have hb0 : 0 ≤ b := by omega
          have hb1 : b ≤ 4096 := by have := HN.out; omega
          have hc0 : 0 ≤ c := by omega
          have hc1 : c ≤ 4096 := by have := HN.out; omega
          clear hm hj4 hj5 hj6
          rcases hk56 with rfl | rfl
          · have hbd : (encTo l k).length + (encC ⟨5, t, n1, a, b, c⟩).length ≤ 140737488355328 := by
              have h1 := hE.out
              have h2 : (encTo l l.length).length ≤ 140737488355328 := hz
              rw [h1, List.length_append] at hL
              omega
            simp [encC] at hbd
            go_wp2_with (at_builtin; go_loud (refine wpList_app _ rfl _ _ w.heap.size 22 5 _ 1 .u8 rfl Tryd.underlying22 info8 rfl (by omega) _ (encTo l k) rfl (ho.ext (((Ext.refl _).alloc _).alloc _)) _ [5] rfl (Row.one _ _ _ 5 (wf_u8 (by omega) (by omega)) (by simp)) (by simp only [List.length_singleton]; omega) (by have := hx.size; simp; omega) ?_); intro v3 w3 ho3 hg3 hb3; have ne3 := ne_first ho hb3 (by simp; omega); obtain ⟨at0, hg0, x3⟩ := kept_copy (y := ⟨5, t, n1, a, b, c⟩) ho hx (Nat.le_refl _) hg3; have at0' := at0; obtain ⟨z0, z1, z2, z3, z4, z5⟩ := at0; simp only at z0 z1 z2 z3 z4 z5)
            clear hg3 hb3 ho a0 a1 a2 a3 a4 a5
            have hgz3 := hg0
            have at3 := at0'
            have xx3 := x3
            clear at0' hg0 x3
            go_wp2_with fail
            go_region_held3 (fun w' => w'.cell? ⟨wr.heap.size, 3, none⟩ = some (.int .i64 a) ∧ w'.cell? ⟨wr.heap.size, 4, none⟩ = some (.int .i64 b) ∧ w'.cell? ⟨wr.heap.size, 5, none⟩ = some (.int .i64 c)) (first | go_keep | (refine ⟨?_, ?_, ?_⟩ <;> assumption)) (first
              | (go_at_call 38; ((with_reducible refine (refU4_any a _ (by omega) (by omega)).mono ?_); rintro e w4 ⟨v4, rfl, ho4, x4'⟩); have x4 := ((Ext.refl w3).drew).trans x4'; have at4 := at3.ext x4 hgz3; have hgz4 : wr.heap.size < w4.heap.size := Nat.lt_of_lt_of_le hgz3 x4.size; obtain ⟨-, -, -, z43, z44, z45⟩ := id at4; simp only at z43 z44 z45)
              | ((refine step_app rfl _ _ w.heap.size 22 5 _ 1 .u8 rfl Tryd.underlying22 info8 rfl (by omega) v3 _ rfl (ho3.ext x4) v4 (dg 1 10 a) rfl ho4.row (by simp only [List.length_append, List.length_singleton]; omega) (by have := (xx3.trans x4).size; omega) ?_); intro v5 w5 ho5 hgr5 hb5; have ne5 := ne_step ne3 hb5 hgz4; have at5 := at4.grown hgr5 hgz4 ne3; have hgz5 : wr.heap.size < w5.heap.size := Nat.lt_of_lt_of_le hgz4 hgr5.size; have xx5 : Ext w w5 := (xx3.trans x4).grown hgr5 ho3.low; obtain ⟨-, -, -, z53, z54, z55⟩ := id at5; simp only at z53 z54 z55)
              | (go_at_call 38; ((with_reducible refine (refU4_any b _ (by omega) (by omega)).mono ?_); rintro e w6 ⟨v6, rfl, ho6, x6⟩); have at6 := at5.ext x6 hgz5; have hgz6 : wr.heap.size < w6.heap.size := Nat.lt_of_lt_of_le hgz5 x6.size; obtain ⟨-, -, -, z63, z64, z65⟩ := id at6; simp only at z63 z64 z65)
              | ((refine step_app rfl _ _ w.heap.size 22 5 _ 1 .u8 rfl Tryd.underlying22 info8 rfl (by omega) v5 _ rfl (ho5.ext x6) v6 (dg 1 10 b) rfl ho6.row (by simp only [List.length_append, List.length_singleton]; omega) (by have := (xx5.trans x6).size; omega) ?_); intro v7 w7 ho7 hgr7 hb7; have ne7 := ne_step ne5 hb7 hgz6; have at7 := at6.grown hgr7 hgz6 ne5; have hgz7 : wr.heap.size < w7.heap.size := Nat.lt_of_lt_of_le hgz6 hgr7.size; have xx7 : Ext w w7 := (xx5.trans x6).grown hgr7 ho5.low; obtain ⟨-, -, -, z73, z74, z75⟩ := id at7; simp only at z73 z74 z75)
              | (go_at_call 38; ((with_reducible refine (refU4_any c _ (by omega) (by omega)).mono ?_); rintro e w8 ⟨v8, rfl, ho8, x8⟩); have at8 := at7.ext x8 hgz7; have hgz8 : wr.heap.size < w8.heap.size := Nat.lt_of_lt_of_le hgz7 x8.size; obtain ⟨-, -, -, z83, z84, z85⟩ := id at8; simp only at z83 z84 z85)
              | ((refine step_app rfl _ _ w.heap.size 22 5 _ 1 .u8 rfl Tryd.underlying22 info8 rfl (by omega) v7 _ rfl (ho7.ext x8) v8 (dg 1 10 c) rfl ho8.row (by simp only [List.length_append, List.length_singleton]; omega) (by have := (xx7.trans x8).size; omega) ?_); intro v9 w9 ho9 hgr9 hb9; have ne9 := ne_step ne7 hb9 hgz8; have at9 := at8.grown hgr9 hgz8 ne7; have hgz9 : wr.heap.size < w9.heap.size := Nat.lt_of_lt_of_le hgz8 hgr9.size; have xx9 : Ext w w9 := (xx7.trans x8).grown hgr9 ho7.low; obtain ⟨-, -, -, z93, z94, z95⟩ := id at9; simp only at z93 z94 z95))
            all_goals
              go_wp2
              go_roundw
              case rel =>
                refine ⟨k + 1, by go_num, by omega, by omega, ?_, xx9⟩
                rw [hE.out, encC]
                simpa using ho9
              case measure => simp [intOf]; omega
          · have hbd : (encTo l k).length + (encC ⟨6, t, n1, a, b, c⟩).length ≤ 140737488355328 := by
              have h1 := hE.out
              have h2 : (encTo l l.length).length ≤ 140737488355328 := hz
              rw [h1, List.length_append] at hL
              omega
            simp [encC] at hbd
            go_wp2_with (at_builtin; go_loud (refine wpList_app _ rfl _ _ w.heap.size 22 5 _ 1 .u8 rfl Tryd.underlying22 info8 rfl (by omega) _ (encTo l k) rfl (ho.ext (((Ext.refl _).alloc _).alloc _)) _ [6] rfl (Row.one _ _ _ 6 (wf_u8 (by omega) (by omega)) (by simp)) (by simp only [List.length_singleton]; omega) (by have := hx.size; simp; omega) ?_); intro v3 w3 ho3 hg3 hb3; have ne3 := ne_first ho hb3 (by simp; omega); obtain ⟨at0, hg0, x3⟩ := kept_copy (y := ⟨6, t, n1, a, b, c⟩) ho hx (Nat.le_refl _) hg3; have at0' := at0; obtain ⟨z0, z1, z2, z3, z4, z5⟩ := at0; simp only at z0 z1 z2 z3 z4 z5)
            clear hg3 hb3 ho a0 a1 a2 a3 a4 a5
            have hgz3 := hg0
            have at3 := at0'
            have xx3 := x3
            clear at0' hg0 x3
            go_wp2_with fail
            go_region_held3 (fun w' => w'.cell? ⟨wr.heap.size, 3, none⟩ = some (.int .i64 a) ∧ w'.cell? ⟨wr.heap.size, 4, none⟩ = some (.int .i64 b) ∧ w'.cell? ⟨wr.heap.size, 5, none⟩ = some (.int .i64 c)) (first | go_keep | (refine ⟨?_, ?_, ?_⟩ <;> assumption)) (first
              | (go_at_call 38; ((with_reducible refine (refU4_any a _ (by omega) (by omega)).mono ?_); rintro e w4 ⟨v4, rfl, ho4, x4'⟩); have x4 := ((Ext.refl w3).drew).trans x4'; have at4 := at3.ext x4 hgz3; have hgz4 : wr.heap.size < w4.heap.size := Nat.lt_of_lt_of_le hgz3 x4.size; obtain ⟨-, -, -, z43, z44, z45⟩ := id at4; simp only at z43 z44 z45)
              | ((refine step_app rfl _ _ w.heap.size 22 5 _ 1 .u8 rfl Tryd.underlying22 info8 rfl (by omega) v3 _ rfl (ho3.ext x4) v4 (dg 1 10 a) rfl ho4.row (by simp only [List.length_append, List.length_singleton]; omega) (by have := (xx3.trans x4).size; omega) ?_); intro v5 w5 ho5 hgr5 hb5; have ne5 := ne_step ne3 hb5 hgz4; have at5 := at4.grown hgr5 hgz4 ne3; have hgz5 : wr.heap.size < w5.heap.size := Nat.lt_of_lt_of_le hgz4 hgr5.size; have xx5 : Ext w w5 := (xx3.trans x4).grown hgr5 ho3.low; obtain ⟨-, -, -, z53, z54, z55⟩ := id at5; simp only at z53 z54 z55)
              | (go_at_call 38; ((with_reducible refine (refU4_any b _ (by omega) (by omega)).mono ?_); rintro e w6 ⟨v6, rfl, ho6, x6⟩); have at6 := at5.ext x6 hgz5; have hgz6 : wr.heap.size < w6.heap.size := Nat.lt_of_lt_of_le hgz5 x6.size; obtain ⟨-, -, -, z63, z64, z65⟩ := id at6; simp only at z63 z64 z65)
              | ((refine step_app rfl _ _ w.heap.size 22 5 _ 1 .u8 rfl Tryd.underlying22 info8 rfl (by omega) v5 _ rfl (ho5.ext x6) v6 (dg 1 10 b) rfl ho6.row (by simp only [List.length_append, List.length_singleton]; omega) (by have := (xx5.trans x6).size; omega) ?_); intro v7 w7 ho7 hgr7 hb7; have ne7 := ne_step ne5 hb7 hgz6; have at7 := at6.grown hgr7 hgz6 ne5; have hgz7 : wr.heap.size < w7.heap.size := Nat.lt_of_lt_of_le hgz6 hgr7.size; have xx7 : Ext w w7 := (xx5.trans x6).grown hgr7 ho5.low; obtain ⟨-, -, -, z73, z74, z75⟩ := id at7; simp only at z73 z74 z75)
              | (go_at_call 38; ((with_reducible refine (refU4_any c _ (by omega) (by omega)).mono ?_); rintro e w8 ⟨v8, rfl, ho8, x8⟩); have at8 := at7.ext x8 hgz7; have hgz8 : wr.heap.size < w8.heap.size := Nat.lt_of_lt_of_le hgz7 x8.size; obtain ⟨-, -, -, z83, z84, z85⟩ := id at8; simp only at z83 z84 z85)
              | ((refine step_app rfl _ _ w.heap.size 22 5 _ 1 .u8 rfl Tryd.underlying22 info8 rfl (by omega) v7 _ rfl (ho7.ext x8) v8 (dg 1 10 c) rfl ho8.row (by simp only [List.length_append, List.length_singleton]; omega) (by have := (xx7.trans x8).size; omega) ?_); intro v9 w9 ho9 hgr9 hb9; have ne9 := ne_step ne7 hb9 hgz8; have at9 := at8.grown hgr9 hgz8 ne7; have hgz9 : wr.heap.size < w9.heap.size := Nat.lt_of_lt_of_le hgz8 hgr9.size; have xx9 : Ext w w9 := (xx7.trans x8).grown hgr9 ho7.low; obtain ⟨-, -, -, z93, z94, z95⟩ := id at9; simp only at z93 z94 z95))
            all_goals
              go_wp2
              go_roundw
              case rel =>
                refine ⟨k + 1, by go_num, by omega, by omega, ?_, xx9⟩
                rw [hE.out, encC]
                simpa using ho9
              case measure => simp [intOf]; omega
      · have hkk : k = n := by omega
        go_wp2
        go_ret2
        refine Ret.mk (.inl ⟨HC.out, _, rfl, ?_⟩) hx
        unfold bytesZ
        rw [← HN.out, ← hkk]
        exact ho
  · have HC := Lib.hid hC
    have hb : (checkC l != 0) = true := by simpa using hC
    clear h2 h4 h6 h5 hC
    go_enter Tryd.func18, Tryd.ntmps18
    go_wp2_with fail
    refine (refCheck_any _ l _ (by exact hrow) hT hR).mono ?_
    rintro e w1 ⟨rfl, x1⟩
    go_wp2
    go_ret2
    exact Ret.mk (.inr ⟨HC.out, rfl⟩) x1

end Go.Proofs.YtecgldkhjgcffaaDoor
