/- Several texts of this proof, one behind the other. -/
import Derived.Test.YtokmeomjdpfknaaGreatDoorZbF
import Derived.Laws.StructEq
import Derived.Test.YtokmeomjdpfknaaGreatDoorZbA
import Derived.Test.YtokmeomjdpfknaaGreatDoorZbE
import Derived.Test.YtokmeomjdpfknaaGreatDoorProg
import Derived.RegionTactic
import Derived.LoopN
import Derived.BigQuiet
import Derived.Deep.QuietTactic
import Derived.Test.YtokmeomjdpfknaaGreatDoorZbC
namespace Go.Proofs.YtokmeomjdpfknaaGreatDoor
open Go.RowKit
set_option linter.unusedVariables false

def I64D (x : Int) : Prop := -9223372036854775808 ≤ x ∧ x ≤ 9223372036854775807
def TyD.ok (t : TyD) : Prop := I64D t.k ∧ t.s.length ≤ 140737488351232
def gtD (l : List TyD) (j : Nat) : TyD := l.getD j t0D
def At2 (w : World) (b o : Nat) (x : TyD) : Prop := w.cell? ⟨b, o, none⟩ = some (.int .i64 x.k) ∧ w.cell? ⟨b, o + 1, none⟩ = some (.string (bs x.s))
def RowT (w : World) (v : Value) (l : List TyD) : Prop :=
  ∃ (A : Option Addr) (c : Nat), v = .slice A l.length c ∧ l.length ≤ c ∧ c ≤ maxLen ∧ (A = none → c = 0) ∧ (∀ x ∈ l, x.ok) ∧
    (0 < l.length → ∃ b o, A = some ⟨b, o, none⟩ ∧ b < w.heap.size ∧ ∀ j, j < l.length → At2 w b (o + j * 2) (gtD l j))
theorem At2.ext {w w' : World} {b o : Nat} {x : TyD} (h : At2 w b o x) (he : Ext w w') (hb : b < w.heap.size) : At2 w' b o x := by
  obtain ⟨h0, h1⟩ := h
  exact ⟨(he.cell (p := ⟨b, o, none⟩) hb).trans h0, (he.cell (p := ⟨b, o + 1, none⟩) hb).trans h1⟩
theorem RowT.ext {w w' : World} {v : Value} {l : List TyD} (h : RowT w v l) (he : Ext w w') : RowT w' v l := by
  obtain ⟨A, c, h1, h2, h3, h4, h5, h6⟩ := h
  refine ⟨A, c, h1, h2, h3, h4, h5, fun hl => ?_⟩
  obtain ⟨b, o, ha, hb, hc⟩ := h6 hl
  exact ⟨b, o, ha, Nat.lt_of_lt_of_le hb he.size, fun j hj => (hc j hj).ext he hb⟩
theorem gt_mem {l : List TyD} {j : Nat} (h : j < l.length) : gtD l j ∈ l := by
  unfold gtD
  rw [List.getD_eq_getElem?_getD, List.getElem?_eq_getElem h]
  exact List.getElem_mem h
theorem RowT.all {w : World} {v : Value} {l : List TyD} (h : RowT w v l) : ∀ x ∈ l, x.ok := by
  obtain ⟨A, c, h1, h2, h3, h4, h5, h6⟩ := h
  exact h5
theorem RowT.nil (w : World) : RowT w (.slice none 0 0) [] := ⟨none, 0, rfl, Nat.le_refl _, by simp [maxLen], fun _ => rfl, (fun _ h => by cases h), fun h => by simp at h⟩
def OwnT (B : Nat) (w : World) (T : TypeId) (v : Value) (l : List TyD) : Prop := w.ownsRow B T 2 v l.length (l.flatMap fun x => x.vals.toList) ∧ ∀ x ∈ l, x.ok
theorem vals_lenD (x : TyD) : x.vals.toList.length = 2 := rfl
theorem cells_lenD (l : List TyD) : (l.flatMap fun x => x.vals.toList).length = l.length * 2 := by
  induction l with
  | nil => rfl
  | cons x l ih => rw [List.flatMap_cons, List.length_append, ih, vals_lenD, List.length_cons]; omega
theorem cells_atD : ∀ (l : List TyD) (j i : Nat), j < l.length → i < 2 → (l.flatMap fun x => x.vals.toList)[j * 2 + i]? = (gtD l j).vals[i]? := by
  intro l
  induction l with
  | nil => intro j i h; simp at h
  | cons x l ih =>
    intro j i hj hi
    rw [List.flatMap_cons]
    match j with
    | 0 =>
      rw [List.getElem?_append_left (by rw [vals_lenD]; omega)]
      simp [gtD]
    | j + 1 =>
      rw [List.getElem?_append_right (by rw [vals_lenD]; omega), vals_lenD, show (j + 1) * 2 + i - 2 = j * 2 + i by omega, ih j i (by simpa using hj) hi]
      simp [gtD]
theorem OwnT.row {B : Nat} {w : World} {T : TypeId} {v : Value} {l : List TyD} (h : OwnT B w T v l) : RowT w v l := by
  obtain ⟨⟨h1, h2⟩, hf⟩ := h
  rcases h2 with ⟨rfl, h0⟩ | ⟨g, cap, cur, rfl, hb, hg, hn, hm, hs, ht⟩
  · exact ⟨none, 0, by rw [h0], by omega, by simp [maxLen], fun _ => rfl, hf, fun hp => by omega⟩
  · refine ⟨_, _, rfl, hn, hm, (fun h => by cases h), hf, fun _ => ⟨g, 0, rfl, lt_of_get hg, fun j hj => ?_⟩⟩
    have hx : ∀ i, i < 2 → w.cell? ⟨g, j * 2 + i, none⟩ = (gtD l j).vals[i]? := fun i hi => by
      have e1 := cells_atD l j i hj hi
      rw [← ht, List.getElem?_take_of_lt (by omega)] at e1
      rw [cell_of_row w g _ cur T (0, 0) hg, ← e1]
      simp
    rw [Nat.zero_add]
    exact ⟨hx 0 (by omega), hx 1 (by omega)⟩
theorem OwnT.nil (B : Nat) (w : World) (T : TypeId) : OwnT B w T (.slice none 0 0) [] := ⟨World.ownsRow_nil w B T 2, fun _ h => by cases h⟩
theorem OwnT.ext {B : Nat} {w w' : World} {T : TypeId} {v : Value} {l : List TyD} (h : OwnT B w T v l) (he : Ext w w') : OwnT B w' T v l := by
  obtain ⟨⟨h1, h2⟩, hf⟩ := h
  refine ⟨⟨h1, ?_⟩, hf⟩
  rcases h2 with h2 | ⟨g, cap, cur, hv, hb, hg, hr⟩
  · exact .inl h2
  · exact .inr ⟨g, cap, cur, hv, hb, (he.block g (lt_of_get hg)).trans hg, hr⟩
theorem OwnT.low {B : Nat} {w : World} {T : TypeId} {v : Value} {l : List TyD} (h : OwnT B w T v l) : ∀ g, v.ownBlock = some g → B ≤ g := fun g hg => (World.ownsRow.lt h.1 g hg).1
theorem OwnT.kept {B : Nat} {w w' : World} {T : TypeId} {v : Value} {l : List TyD} (h : OwnT B w T v l) {row : Option Nat} (hg : w.grownBy w' row) (hne : ∀ g, v.ownBlock = some g → row ≠ some g) : OwnT B w' T v l := by
  obtain ⟨⟨h1, h2⟩, hf⟩ := h
  refine ⟨⟨h1, ?_⟩, hf⟩
  rcases h2 with h2 | ⟨g, cap, cur, hv, hb, hg', hr⟩
  · exact .inl h2
  · refine .inr ⟨g, cap, cur, hv, hb, (hg.block g (lt_of_get hg') ?_).trans hg', hr⟩
    exact fun e => hne g (by rw [hv]; rfl) e.symm

theorem vals_oneD (x : TyD) : ∀ u ∈ x.vals.toList, u.oneCell' = true := by
  intro u hu
  have h6 : u = .int .i64 x.k ∨ u = .string (bs x.s) := by simpa [TyD.vals] using hu
  rcases h6 with rfl | rfl <;> rfl
theorem cells_oneD (l : List TyD) : ∀ u ∈ (l.flatMap fun x => x.vals.toList), u.oneCell' = true := by
  intro u hu
  obtain ⟨x, _, hx⟩ := List.mem_flatMap.1 hu
  exact vals_oneD x u hx
theorem RowT.one {w : World} {g : Nat} {T : TypeId} {x : TyD} (h : w.heap[g]? = some (.cells x.vals T (0, 0))) (hx : x.ok) : RowT w (.slice (some ⟨g, 0, none⟩) 1 1) [x] := by
  refine ⟨_, _, rfl, Nat.le_refl _, by simp [maxLen], (fun h => by cases h), fun y hy => by rw [List.mem_singleton.1 hy]; exact hx, fun _ => ⟨g, 0, rfl, lt_of_get h, fun j hj => ?_⟩⟩
  have : j = 0 := by simp at hj; omega
  subst this
  have e : ∀ i, w.cell? ⟨g, i, none⟩ = x.vals[i]? := fun i => by rw [cell_of_row w g i _ T (0, 0) h]
  exact ⟨e 0, e 1⟩
theorem run_appT {P : Program} (w : World) (B : Nat) (t ty e : TypeId) (z : Value) (bytes : Nat) (ht : P.underlying t = some (.slice e))
    (hi : (P.info? e).map (fun i => (i.zero, i.size, i.bytes)) = some (some z, 2, bytes)) (hz : z.cells.size = 2)
    (v : Value) (l : List TyD) (ho : OwnT B w e v l) (x : Value) (m : List TyD) (hr : RowT w x m)
    (hb : (l.length + m.length) * bytes ≤ 140737488355328) (hb1 : 1 ≤ bytes) (hB : B ≤ w.heap.size) :
    ∃ v' w', (Builtin.append_ #[t, t] ty #[v, x]).run P w = .ok v' w' ∧ OwnT B w' e v' (l ++ m) ∧ w.grownBy w' v.ownBlock ∧ (v'.ownBlock = v.ownBlock ∨ v'.ownBlock = some w.heap.size) := by
  obtain ⟨i, hi1, hi2, hi3, hi4⟩ := info_parts hi
  obtain ⟨A, c, rfl, h2, h3, h4, h5, h6⟩ := hr
  have hfit : ∀ y ∈ l ++ m, y.ok := fun y hy => (List.mem_append.1 hy).elim (ho.2 y) (h5 y)
  have hlen : l.length + m.length ≤ 140737488355328 := Nat.le_trans (Nat.le_mul_of_pos_right _ (by omega)) hb
  rcases A with _ | ad
  · have hc := h4 rfl
    have hm : m = [] := List.eq_nil_of_length_eq_zero (by omega)
    subst hm
    refine ⟨v, w, ?_, by simpa using ho, World.grownBy.refl w _, .inl rfl⟩
    rcases ho.1.2 with ⟨rfl, _⟩ | ⟨g, cap, cur, rfl, _, _, hnc, _⟩
    · simp [Builtin.append_, run_underlying ht, sizeOf, typeInfo, hi1, Builtin.lenOf, Builtin.firstCells]
    · simp [Builtin.append_, run_underlying ht, sizeOf, typeInfo, hi1, Builtin.lenOf, Builtin.firstCells, hnc, storeCells]
  · have hcells : ∀ j u, (m.flatMap fun x => x.vals.toList)[j]? = some u → w.cell? (ad.add j) = some u := by
      intro j u hu
      have hj : j < m.length * 2 := by
        have := (List.getElem?_eq_some_iff.1 hu).1
        rwa [cells_lenD] at this
      obtain ⟨b, o, hA, _, hc⟩ := h6 (by omega)
      injection hA with hA
      subst hA
      obtain ⟨q, r, hqr, hr2⟩ : ∃ q r, j = q * 2 + r ∧ r < 2 := ⟨j / 2, j % 2, by omega, by omega⟩
      subst hqr
      rw [cells_atD m q r (by omega) hr2] at hu
      obtain ⟨a0, a1⟩ := hc q (by omega)
      rw [Addr.add_lit, ← hu, ← Nat.add_assoc]
      match r, hr2 with
      | 0, _ => exact a0
      | 1, _ => exact a1
    obtain ⟨v', w', hrun, k2, k3, _, k5⟩ := run_append_own_at (P := P) w B t ty e i z 2 bytes ht hi1 hi2 hi3 hi4 hz (by omega) v l.length (l.flatMap fun x => x.vals.toList) ho.1 ad m.length c (m.flatMap fun x => x.vals.toList) (cells_lenD m) hcells (cells_oneD m) (by simp only [maxLen]; omega) hb hB
    refine ⟨v', w', hrun, ⟨?_, hfit⟩, k3, k5⟩
    rw [List.flatMap_append, List.length_append]
    exact k2
theorem wpList_appT {P : Program} (w : World) {ops : Array Oper} {rest : List Oper} {o : Oper} {a : Act} {Q : Exit → Act → World → Prop} (hgd : Region.wanted o (yielded ops a.tmps) = true) (s y : Operand) (B : Nat) (t e : TypeId) (z : Value) (bytes : Nat)
    (hop : o.op = .call { callee := .builtin .append, args := #[s, y], argTypes := #[t, t] }) (ht : P.underlying t = some (.slice e))
    (hi : (P.info? e).map (fun i => (i.zero, i.size, i.bytes)) = some (some z, 2, bytes)) (hz : z.cells.size = 2) (hb1 : 1 ≤ bytes)
    (v : Value) (l : List TyD) (hs : a.eval s = v) (ho : OwnT B w e v l) (x : Value) (m : List TyD) (hx : a.eval y = x) (hr : RowT w x m)
    (hb : (l.length + m.length) * bytes ≤ 140737488355328) (hB : B ≤ w.heap.size)
    (h : ∀ v' w', OwnT B w' e v' (l ++ m) → w.grownBy w' v.ownBlock → (v'.ownBlock = v.ownBlock ∨ v'.ownBlock = some w.heap.size) → wpList P ops Q rest (a.put o.dst v') w') :
    wpList P ops Q (o :: rest) a w := by
  refine wpList_step fun K hK => ?_
  rw [if_pos hgd]
  obtain ⟨v', w', hrun, h2, h3, h4⟩ := run_appT (P := P) w B t o.type e z bytes ht hi hz v l ho x m hr hb hb1 hB
  unfold Oper.wp execOp
  simp only [hop, resolve, invoke, builtin, Sem.run_bind, Sem.run_pure, Result.andThen_ok, List.map_toArray, List.map_cons, List.map_nil, hs, hx, hrun]
  exact hK _ _ (h v' w' h2 h3 h4)
def eqT (x y : TyD) : Bool := decide (x = y)
theorem TyD.ext_ {x y : TyD} (h0 : x.k = y.k) (h1 : x.s = y.s) : x = y := by
  cases x; cases y
  simp only at h0 h1
  subst h0 h1
  rfl
theorem run_eqT (x y : TyD) (W : World) : (binOp .eql 41 (.agg x.vals) (.agg y.vals)).run Tryz.prog W = .ok (.bool (eqT x y)) W := by
  unfold TyD.vals
  go_simp
  simp only [bs_nil]
  by_cases h : x = y
  · subst h
    simp [eqT]
  · rw [show eqT x y = false by simp [eqT, h]]
    (repeat' split) <;> first | rfl | (exact (h (TyD.ext_ ‹x.k = y.k› ‹x.s = y.s›)).elim)
theorem run_neqT (x y : TyD) (W : World) : (binOp .neq 41 (.agg x.vals) (.agg y.vals)).run Tryz.prog W = .ok (.bool (!eqT x y)) W := by
  unfold TyD.vals
  go_simp
  simp only [bs_nil]
  by_cases h : x = y
  · subst h
    simp [eqT]
  · rw [show eqT x y = false by simp [eqT, h]]
    (repeat' split) <;> first | rfl | (exact (h (TyD.ext_ ‹x.k = y.k› ‹x.s = y.s›)).elim)
end Go.Proofs.YtokmeomjdpfknaaGreatDoor
namespace Go.Proofs.YtokmeomjdpfknaaGreatDoor
open Go.RowKit
set_option linter.unusedVariables false

def Pr.vals (p : Pr) (v : Value) : Array Value := #[.int .i64 p.ret.k, .string (bs p.ret.s), v]
def eqP (p q : Pr) : Bool := decide (p = q)
theorem takeT_one {l : List TyD} {k : Nat} (h : k < l.length) : l.take (k + 1) = l.take k ++ [gtD l k] := by
  rw [List.take_succ_eq_append_getElem h]
  simp [gtD, h]
theorem eqP_args {p q : Pr} (h : ¬ p.args = q.args) : eqP p q = false := by
  simp only [eqP, decide_eq_false_iff_not]
  exact fun e => h (by rw [e])
theorem eqP_ret {p q : Pr} (h : ¬ p.ret = q.ret) : eqP p q = false := by
  simp only [eqP, decide_eq_false_iff_not]
  exact fun e => h (by rw [e])
theorem eqP_yes {p q : Pr} (h : p.ret = q.ret) (h2 : p.args = q.args) : eqP p q = true := by
  cases p; cases q
  simp only at h h2
  subst h h2
  simp [eqP]
theorem ret_bD {b c : Bool} (h : b = c) : Ending.returned (.bool b) = .returned (.bool c) := by rw [h]
theorem ext_twoD (w : World) (o p : Obj) : Ext w ((w.alloc o).alloc p) := ((Ext.refl w).alloc o).alloc p
set_option maxHeartbeats 8000000 in
theorem refSameProto_any (v1 v2 : Value) (p q : Pr) (w : World) (h1 : RowT w v1 p.args) (h2 : RowT w v2 q.args) :
    Calls Tryz.prog 89 #[.agg (p.vals v1), .agg (q.vals v2)] w fun e w' => e = .returned (.bool (eqP p q)) ∧ Ext w w' := by
  have hne := fun W => run_neqT p.ret q.ret W
  unfold Pr.vals
  unfold TyD.vals at hne
  obtain ⟨A1, c1, rfl, hc1, hm1, ha1, hf1, hg1⟩ := h1
  obtain ⟨A2, c2, rfl, hc2, hm2, ha2, hf2, hg2⟩ := h2
  unfold maxLen at hm1 hm2
  by_cases hr : p.ret = q.ret
  · rw [show eqT p.ret q.ret = true by simp [eqT, hr]] at hne
    by_cases hl : p.args.length = q.args.length
    · obtain ⟨n, hn⟩ : ∃ n, n = p.args.length := ⟨_, rfl⟩
      rw [← hn] at hc1 hg1 ⊢
      rw [← hl, ← hn] at hc2 hg2 ⊢
      have Hn := Lib.hid hn
      have Hl := Lib.hid hl
      have Hr := Lib.hid hr
      clear hn hl ha1 ha2 hr
      go_enter Tryz.func89, Tryz.ntmps89
      go_wp2
      obtain ⟨w2, hw2⟩ : ∃ w2, w2 = (w.alloc (.cells #[.int .i64 p.ret.k, .string (bs p.ret.s), .slice A1 n c1] 44)).alloc (.cells #[.int .i64 q.ret.k, .string (bs q.ret.s), .slice A2 n c2] 44) := ⟨_, rfl⟩
      have z1 : w2.heap[w.heap.size]? = some (.cells #[.int .i64 p.ret.k, .string (bs p.ret.s), .slice A1 n c1] 44 (0, 0)) := by
        rw [hw2, heap_alloc_old _ _ (by simp), heap_alloc_new]
      have z2 : w2.heap[w.heap.size + 1]? = some (.cells #[.int .i64 q.ret.k, .string (bs q.ret.s), .slice A2 n c2] 44 (0, 0)) := by
        have := heap_alloc_new (w.alloc (.cells #[.int .i64 p.ret.k, .string (bs p.ret.s), .slice A1 n c1] 44)) (.cells #[.int .i64 q.ret.k, .string (bs q.ret.s), .slice A2 n c2] 44)
        rw [hw2]
        simpa using this
      have z3 : w2.cell? ⟨w.heap.size, 2, none⟩ = some (.slice A1 n c1) := by rw [cell_of_row w2 _ _ _ _ _ z1]; rfl
      have z4 : w2.cell? ⟨w.heap.size + 1, 2, none⟩ = some (.slice A2 n c2) := by rw [cell_of_row w2 _ _ _ _ _ z2]; rfl
      rw [← hw2]
      have X2 : Ext w w2 := by rw [hw2]; exact ext_twoD _ _ _
      have X2 := Lib.hid X2
      clear z1 z2 hne hw2
      go_loopw [5] (fun i wr => ∃ k m : Nat, k ≤ n ∧ i = .int .i64 k ∧ wr = w2.drewN m ∧ p.args.take k = q.args.take k) (fun i _ => n - (intOf i).toNat)
      case atStart => exact ⟨0, 0, by omega, rfl, rfl, rfl⟩
      case round =>
        obtain ⟨k, m, hk, rfl, rfl, ht⟩ := hrel
        have Ht := Lib.hid ht
        clear ht
        by_cases hlt : k < n
        · obtain ⟨b1, o1, rfl, hb1, hx1⟩ := hg1 (by omega)
          obtain ⟨b2, o2, rfl, hb2, hx2⟩ := hg2 (by omega)
          obtain ⟨y0, y1⟩ := (hx1 k hlt).ext X2.out hb1
          obtain ⟨u0, u1⟩ := (hx2 k hlt).ext X2.out hb2
          have hne := fun W => run_neqT (gtD p.args k) (gtD q.args k) W
          unfold TyD.vals at hne
          clear hx1 hx2
          by_cases he : gtD p.args k = gtD q.args k
          · rw [show eqT (gtD p.args k) (gtD q.args k) = true by simp [eqT, he]] at hne
            have HE := Lib.hid he
            clear he
            go_wp2
            go_quiet (fail)
            go_wp2
            refine ⟨⟨k + 1, m + nq, by omega, by go_num, rfl, ?_⟩, by simp [intOf]; omega⟩
            rw [takeT_one (by have := Hn.out; omega), takeT_one (by have := Hn.out; have := Hl.out; omega), Ht.out, HE.out]
          · rw [show eqT (gtD p.args k) (gtD q.args k) = false by simp [eqT, he]] at hne
            have HE := Lib.hid (eqP_args (p := p) (q := q) (fun e => he (by rw [e])))
            clear he
            go_wp2
            go_quiet (fail)
            go_wp2
            go_ret
            exact ⟨ret_bD HE.out.symm, by rw [World.drewN_drewN]; exact X2.out.drewN _⟩
        · obtain rfl : k = n := by omega
          go_wp2
          go_ret
          refine ⟨ret_bD ?_, X2.out.drewN _⟩
          have e : p.args = q.args := by
            have := Ht.out
            rw [Hn.out] at this
            rwa [List.take_length, Hl.out, List.take_length] at this
          rw [eqP_yes Hr.out e]
    · have hb : ((p.args.length : Int) != (q.args.length : Int)) = true := by simp; omega
      have HE := Lib.hid (eqP_args (p := p) (q := q) (fun e => hl (by rw [e])))
      clear hg1 hg2 hl
      go_enter Tryz.func89, Tryz.ntmps89
      go_wp2
      go_ret
      exact ⟨ret_bD HE.out.symm, by first | exact ext_twoD _ _ _ | exact (ext_twoD _ _ _).drewN _⟩
  · rw [show eqT p.ret q.ret = false by simp [eqT, hr]] at hne
    have HE := Lib.hid (eqP_ret (p := p) (q := q) hr)
    clear hg1 hg2 hr
    go_enter Tryz.func89, Tryz.ntmps89
    go_wp2
    go_ret
    exact ⟨ret_bD HE.out.symm, by first | exact ext_twoD _ _ _ | exact (ext_twoD _ _ _).drewN _⟩
end Go.Proofs.YtokmeomjdpfknaaGreatDoor
namespace Go.Proofs.YtokmeomjdpfknaaGreatDoor
open Go.RowKit
set_option linter.unusedVariables false

theorem checkP_long {p : Pr} (h : 16 < p.args.length) : checkP p = 5 := by rw [checkP, if_pos h]
theorem checkP_ret {p : Pr} (h : ¬ 16 < p.args.length) (h1 : ¬ p.ret = t0D) (h2 : okT p.ret = false) : checkP p = 2 := by
  rw [checkP, if_neg h, if_neg]
  simp [okP, h1, h2]
theorem checkP_arg {p : Pr} (h : ¬ 16 < p.args.length) {k : Nat} (hk : k < p.args.length) (h2 : okT (gtD p.args k) = false) : checkP p = 2 := by
  rw [checkP, if_neg h, if_neg]
  intro ho
  unfold okP at ho
  simp only [Bool.and_eq_true, List.all_eq_true] at ho
  have := ho.2 _ (gt_mem hk)
  rw [h2] at this
  cases this
theorem checkP_yes {p : Pr} (h : ¬ 16 < p.args.length) (h1 : p.ret = t0D ∨ okT p.ret = true) (h2 : ∀ j, j < p.args.length → okT (gtD p.args j) = true) : checkP p = 0 := by
  rw [checkP, if_neg h, if_pos]
  unfold okP
  simp only [Bool.and_eq_true, List.all_eq_true, Bool.or_eq_true, decide_eq_true_eq]
  refine ⟨h1, fun t ht => ?_⟩
  obtain ⟨j, hj, rfl⟩ := List.getElem_of_mem ht
  have := h2 j hj
  simpa [gtD, hj] using this
end Go.Proofs.YtokmeomjdpfknaaGreatDoor
namespace Go.Proofs.YtokmeomjdpfknaaGreatDoor
open Go.RowKit
set_option linter.unusedVariables false

theorem textT_len (t : TyD) : (textT t).length ≤ t.s.length + 3 := by
  unfold textT
  repeat' split
  all_goals simp
theorem writeP_no {p : Pr} (h : ¬ checkP p = 0) : writeP p = ([], checkP p) := by rw [writeP, if_neg h]
theorem writeP_yes {p : Pr} (h : checkP p = 0) : writeP p = (textP p, 0) := by rw [writeP, if_pos h]
end Go.Proofs.YtokmeomjdpfknaaGreatDoor
namespace Go.Proofs.YtokmeomjdpfknaaGreatDoor
open Go.RowKit
set_option linter.unusedVariables false

theorem two_ext {w w1 : World} {o p : Obj} (h : Ext ((w.alloc o).alloc p) w1) : w1.heap[w.heap.size]? = some o ∧ w1.heap[w.heap.size + 1]? = some p ∧ w.heap.size + 1 < w1.heap.size ∧ Ext w w1 := by
  have h2 : (w.alloc o).heap.size = w.heap.size + 1 := by simp
  have h3 : ((w.alloc o).alloc p).heap.size = w.heap.size + 2 := by simp
  have h1 := heap_alloc_new (w.alloc o) p
  rw [h2] at h1
  have hs := h.size
  refine ⟨?_, ?_, by omega, (ext_twoD w o p).trans h⟩
  · rw [h.block w.heap.size (by omega), heap_alloc_old _ _ (by omega), heap_alloc_new]
  · rw [h.block (w.heap.size + 1) (by omega), h1]

end Go.Proofs.YtokmeomjdpfknaaGreatDoor
namespace Go.Proofs.YtokmeomjdpfknaaGreatDoor
set_option linter.unusedVariables false

theorem wr {n : Int} (h0 : -9223372036854775808 ≤ n) (h1 : n ≤ 9223372036854775807) : IntKind.i64.wrap n = n := by rw [IntKind.wrap_i64]; omega
def pk (s : Nat) (sg : Bool) (l : List Int) : Int :=
  match s, sg, l with
  | 1, false, p :: _ => p
  | 1, true, p :: _ => s1 p
  | 2, false, p :: q :: _ => u2 p q
  | 2, true, p :: q :: _ => s2 (u2 p q)
  | 4, true, b :: c :: d :: e :: _ => s4 (u4 b c d e)
  | _, _, _ => 0
def Siz (s : Nat) (sg : Bool) : Prop := (s = 1 ∧ sg = false) ∨ (s = 1 ∧ sg = true) ∨ (s = 2 ∧ sg = false) ∨ (s = 2 ∧ sg = true) ∨ (s = 4 ∧ sg = true)
theorem Siz.le {s : Nat} {sg : Bool} (h : Siz s sg) : 1 ≤ s ∧ s ≤ 4 := by unfold Siz at h; omega
def tBs (sg : Bool) (l : List Int) (s : Int) : Int × List Int × Int := match sg with | true => tB 8 4 l s | false => tB 7 3 l s
theorem tB_short {most wy : Int} {l : List Int} {s : Nat} (h1 : 1 ≤ s) (h2 : (s : Int) ≤ most) (h : l.length < s) : tB most wy l s = (0, [], 3) := by
  unfold tB
  rw [if_neg (by omega), if_pos (by omega)]
theorem tBs_short {sg : Bool} {l : List Int} {s : Nat} (h1 : 1 ≤ s) (h2 : s ≤ 4) (h : l.length < s) : tBs sg l s = (0, [], 3) := by
  unfold tBs
  cases sg
  · exact tB_short h1 (by omega) h
  · exact tB_short h1 (by omega) h
theorem ab3 (x : Int) : ab 3 x = 0 := rfl
theorem ab4 {x : Int} (h : B8 x) : ab 4 x = if x < 128 then 0 else -1 := by
  unfold B8 at h
  unfold ab
  simp
  split <;> omega
theorem tBs_ok {sg : Bool} {l : List Int} {s : Nat} (hs : Siz s sg) (hb : ∀ c ∈ l, B8 c) (h : s ≤ l.length) : tBs sg l s = (pk s sg l, l.drop s, 0) := by
  rcases hs with ⟨rfl, rfl⟩ | ⟨rfl, rfl⟩ | ⟨rfl, rfl⟩ | ⟨rfl, rfl⟩ | ⟨rfl, rfl⟩
  · match l, h, hb with
    | p :: l, h, hb =>
      have h0 := hb p (by simp)
      unfold B8 at h0
      simp only [tBs, tB, pk]
      rw [if_neg (by omega), if_neg (by simp at h ⊢; omega)]
      simp [bf, ab3, gi]
      rw [wr (by omega) (by omega)]
  · match l, h, hb with
    | p :: l, h, hb =>
      have h0 := hb p (by simp)
      have h0' := h0
      unfold B8 at h0
      simp only [tBs, tB, pk]
      rw [if_neg (by omega), if_neg (by simp at h ⊢; omega)]
      simp [bf, ab4 h0', gi, s1]
      split
      · rw [wr (by omega) (by omega)]; omega
      · rw [wr (by omega) (by omega)]; omega
  · match l, h, hb with
    | p :: q :: l, h, hb =>
      have h0 := hb p (by simp)
      have h1 := hb q (by simp)
      unfold B8 at h0 h1
      simp only [tBs, tB, pk]
      rw [if_neg (by omega), if_neg (by simp at h ⊢; omega)]
      simp [bf, ab3, gi, u2]
      rw [wr (n := p) (by omega) (by omega), wr (by omega) (by omega)]
  · match l, h, hb with
    | p :: q :: l, h, hb =>
      have h0 := hb p (by simp)
      have h1 := hb q (by simp)
      have h0' := h0
      unfold B8 at h0 h1
      simp only [tBs, tB, pk]
      rw [if_neg (by omega), if_neg (by simp at h ⊢; omega)]
      simp [bf, ab4 h0', gi]
      unfold s2 u2
      split
      · rw [wr (n := 0 * 256 + p) (by omega) (by omega), wr (by omega) (by omega), if_pos (by omega)]
        omega
      · rw [wr (n := -1 * 256 + p) (by omega) (by omega), wr (by omega) (by omega), if_neg (by omega)]
        omega
  · match l, h, hb with
    | b :: c :: d :: e :: l, h, hb =>
      have h0 := hb b (by simp)
      have h1 := hb c (by simp)
      have h2 := hb d (by simp)
      have h3 := hb e (by simp)
      have h0' := h0
      unfold B8 at h0 h1 h2 h3
      simp only [tBs, tB, pk]
      rw [if_neg (by omega), if_neg (by simp at h ⊢; omega)]
      simp [bf, ab4 h0', gi]
      unfold s4 u4
      split
      · rw [wr (n := 0 * 256 + b) (by omega) (by omega), wr (n := (0 * 256 + b) * 256 + c) (by omega) (by omega), wr (n := ((0 * 256 + b) * 256 + c) * 256 + d) (by omega) (by omega), wr (by omega) (by omega), if_pos (by omega)]
        omega
      · rw [wr (n := -1 * 256 + b) (by omega) (by omega), wr (n := (-1 * 256 + b) * 256 + c) (by omega) (by omega), wr (n := ((-1 * 256 + b) * 256 + c) * 256 + d) (by omega) (by omega), wr (by omega) (by omega), if_neg (by omega)]
        omega
end Go.Proofs.YtokmeomjdpfknaaGreatDoor
namespace Go.Proofs.YtokmeomjdpfknaaGreatDoor
set_option linter.unusedVariables false

def rdN (st : Bool) (s : Nat) (sg : Bool) (q : List Int × Bool) : Int × List Int × Bool :=
  if (st = true ∧ q.2 = true) ∨ q.1.length < s then (0, q.1, true) else (pk s sg q.1, q.1.drop s, q.2)
theorem rdN_ended {st : Bool} {s : Nat} {sg : Bool} {q : List Int × Bool} (h : q.2 = true) : (rdN st s sg q).2.2 = true := by
  unfold rdN
  split
  · rfl
  · exact h
theorem rdN_short {st : Bool} {s : Nat} {sg : Bool} {l : List Int} (e : Bool) (h : l.length < s) : rdN st s sg (l, e) = (0, l, true) := by
  unfold rdN
  rw [if_pos (.inr h)]
theorem rdN_ok {st : Bool} {s : Nat} {sg : Bool} {l : List Int} (h : s ≤ l.length) : rdN st s sg (l, false) = (pk s sg l, l.drop s, false) := by
  unfold rdN
  rw [if_neg (by simp; omega)]
def rdT (st : Bool) (a : Int) : Nat → List Int × Bool → List Int × List Int × Bool
  | 0, q => ([], q)
  | n + 1, q => if q.2 = true then ([], q) else
    let r := rdN st 2 true q
    let y := rdT st a n r.2
    ((a + r.1) :: y.1, y.2)
def rdK (st : Bool) (a : Int) : Nat → List Int × Bool → List Int × List Int × List Int × Bool
  | 0, q => ([], [], q)
  | n + 1, q => if q.2 = true then ([], [], q) else
    let r := rdN st 4 true q
    let p := rdN st 2 true r.2
    let y := rdK st a n p.2
    (r.1 :: y.1, (a + p.1) :: y.2.1, y.2.2)
def insM (st : Bool) (a o : Int) (q : List Int × Bool) : In × List Int × Bool :=
  let z := shapeZ o
  if z = 1 then let r := rdN st 1 false q; (⟨a, o, r.1, 0, [], []⟩, r.2)
  else if z = 2 then let r := rdN st 2 true q; (⟨a, o, r.1, 0, [], []⟩, r.2)
  else if z = 3 then let r := rdN st 2 false q; (⟨a, o, r.1, 0, [], []⟩, r.2)
  else if z = 4 then let r := rdN st 2 true q; (⟨a, o, 0, 0, [a + r.1], []⟩, r.2)
  else if z = 5 then let r := rdN st 1 false q; let p := rdN st 1 true r.2; (⟨a, o, r.1, p.1, [], []⟩, p.2)
  else if z = 6 then
    let r := rdN st 2 true q; let p := rdN st 4 true r.2; let c := rdN st 2 false p.2; let y := rdT st a c.1.toNat c.2
    (⟨a, o, p.1, 0, (a + r.1) :: y.1, []⟩, y.2)
  else if z = 7 then
    let r := rdN st 2 true q; let c := rdN st 2 false r.2; let y := rdK st a c.1.toNat c.2
    (⟨a, o, 0, 0, (a + r.1) :: y.2.1, y.1⟩, y.2.2)
  else (⟨a, o, 0, 0, [], []⟩, q)
theorem rdT_ended {st : Bool} {a : Int} : ∀ {n : Nat} {q : List Int × Bool}, q.2 = true → rdT st a n q = ([], q)
  | 0, q, h => rfl
  | n + 1, q, h => by rw [rdT, if_pos h]
theorem rdK_ended {st : Bool} {a : Int} : ∀ {n : Nat} {q : List Int × Bool}, q.2 = true → rdK st a n q = ([], [], q)
  | 0, q, h => rfl
  | n + 1, q, h => by rw [rdK, if_pos h]
theorem rdT_body {st : Bool} {a : Int} : ∀ {n : Nat} {l : List Int}, match rdTos a n l with | some x => rdT st a n (l, false) = (x.1, x.2, false) | none => (rdT st a n (l, false)).2.2 = true
  | 0, l => rfl
  | n + 1, l => by
    by_cases h : 2 ≤ l.length
    · match l, h with
      | p :: q :: l, h =>
        have ih := rdT_body (st := st) (a := a) (n := n) (l := l)
        rw [rdT, if_neg (by simp), rdN_ok (by simp), rdTos]
        simp only [List.drop_succ_cons, List.drop_zero, pk]
        cases hx : rdTos a n l with
        | none => rw [hx] at ih; exact ih
        | some x => rw [hx] at ih; simp only at ih; simp [ih]
    · have e : rdTos a (n + 1) l = none := by
        match l with
        | [] => rfl
        | [_] => rfl
        | _ :: _ :: l => simp at h
      rw [e]
      simp only
      rw [rdT, if_neg (by simp), rdN_short _ (by omega)]
      simp only
      rw [rdT_ended (q := (l, true)) rfl]
theorem rdK_body {st : Bool} {a : Int} : ∀ {n : Nat} {l : List Int}, match rdKts a n l with | some x => rdK st a n (l, false) = (x.1, x.2.1, x.2.2, false) | none => (rdK st a n (l, false)).2.2.2 = true
  | 0, l => rfl
  | n + 1, l => by
    by_cases h : 6 ≤ l.length
    · match l, h with
      | b :: c :: d :: e :: p :: q :: l, h =>
        have ih := rdK_body (st := st) (a := a) (n := n) (l := l)
        rw [rdK, if_neg (by simp), rdN_ok (by simp)]
        simp only [List.drop_succ_cons, List.drop_zero]
        rw [rdN_ok (by simp), rdKts]
        simp only [List.drop_succ_cons, List.drop_zero, pk]
        cases hx : rdKts a n l with
        | none => rw [hx] at ih; exact ih
        | some x => rw [hx] at ih; simp only at ih; simp [ih]
    · have e : rdKts a (n + 1) l = none := by
        match l with
        | [] => rfl
        | [_] => rfl
        | [_, _] => rfl
        | [_, _, _] => rfl
        | [_, _, _, _] => rfl
        | [_, _, _, _, _] => rfl
        | _ :: _ :: _ :: _ :: _ :: _ :: l => simp at h
      rw [e]
      simp only
      rw [rdK, if_neg (by simp)]
      simp only
      by_cases h4 : l.length < 4
      · rw [rdN_short _ h4]
        have := rdN_ended (st := st) (s := 2) (sg := true) (q := (l, true)) rfl
        rw [rdK_ended this]
        exact this
      · rw [rdN_ok (s := 4) (by omega), rdN_short (s := 2) _ (by simp; omega)]
        simp only
        rw [rdK_ended (q := (l.drop 4, true)) rfl]
theorem insM_body {st : Bool} {a o : Int} {l : List Int} : match body a o l with | some x => insM st a o (l, false) = (x.1, x.2, false) | none => (insM st a o (l, false)).2.2 = true := by
  unfold body insM
  simp only
  obtain ⟨z, hz⟩ : ∃ z, z = shapeZ o := ⟨_, rfl⟩
  have hz7 := shapeZ_le o
  rw [← hz] at hz7 ⊢
  have hc : z = 0 ∨ z = 1 ∨ z = 2 ∨ z = 3 ∨ z = 4 ∨ z = 5 ∨ z = 6 ∨ z = 7 := by omega
  clear hz hz7
  rcases hc with rfl | rfl | rfl | rfl | rfl | rfl | rfl | rfl
  · simp
  · match l with
    | [] => simp [rdN_short]
    | p :: l => simp [rdN_ok, pk]
  · match l with
    | [] => simp [rdN_short]
    | [_] => simp [rdN_short]
    | p :: q :: l => simp [rdN_ok, pk]
  · match l with
    | [] => simp [rdN_short]
    | [_] => simp [rdN_short]
    | p :: q :: l => simp [rdN_ok, pk]
  · match l with
    | [] => simp [rdN_short]
    | [_] => simp [rdN_short]
    | p :: q :: l => simp [rdN_ok, pk]
  · match l with
    | [] => simp [rdN_short]
    | [_] => simp [rdN_ok, rdN_short]
    | p :: q :: l => simp [rdN_ok, pk]
  · simp only [if_neg (show ¬ (6 : Int) = 1 by omega), if_neg (show ¬ (6 : Int) = 2 by omega), if_neg (show ¬ (6 : Int) = 3 by omega), if_neg (show ¬ (6 : Int) = 4 by omega), if_neg (show ¬ (6 : Int) = 5 by omega), if_pos]
    by_cases h : 8 ≤ l.length
    · match l, h with
      | p :: q :: b :: c :: d :: e :: f :: g :: r, h =>
        have ih := rdT_body (st := st) (a := a) (n := (u2 f g).toNat) (l := r)
        rw [rdN_ok (by simp)]
        simp only [List.drop_succ_cons, List.drop_zero]
        rw [rdN_ok (by simp)]
        simp only [List.drop_succ_cons, List.drop_zero]
        rw [rdN_ok (by simp)]
        simp only [List.drop_succ_cons, List.drop_zero, pk]
        cases hx : rdTos a (u2 f g).toNat r with
        | none => rw [hx] at ih; exact ih
        | some x => rw [hx] at ih; simp only at ih; simp [ih]
    · have key : (rdN st 2 false (rdN st 4 true (rdN st 2 true (l, false)).2).2).2.2 = true := by
        by_cases h2 : l.length < 2
        · rw [rdN_short _ h2]; exact rdN_ended (rdN_ended rfl)
        · rw [rdN_ok (by omega)]
          by_cases h4 : l.length < 6
          · rw [rdN_short (s := 4) _ (by simp; omega)]; exact rdN_ended rfl
          · rw [rdN_ok (s := 4) (by simp; omega), rdN_short (s := 2) _ (by simp; omega)]
      match l, h with
      | [], _ => simp only; rw [rdT_ended key]; exact key
      | [_], _ => simp only; rw [rdT_ended key]; exact key
      | [_, _], _ => simp only; rw [rdT_ended key]; exact key
      | [_, _, _], _ => simp only; rw [rdT_ended key]; exact key
      | [_, _, _, _], _ => simp only; rw [rdT_ended key]; exact key
      | [_, _, _, _, _], _ => simp only; rw [rdT_ended key]; exact key
      | [_, _, _, _, _, _], _ => simp only; rw [rdT_ended key]; exact key
      | [_, _, _, _, _, _, _], _ => simp only; rw [rdT_ended key]; exact key
      | _ :: _ :: _ :: _ :: _ :: _ :: _ :: _ :: r, h => simp at h
  · simp only [if_neg (show ¬ (7 : Int) = 1 by omega), if_neg (show ¬ (7 : Int) = 2 by omega), if_neg (show ¬ (7 : Int) = 3 by omega), if_neg (show ¬ (7 : Int) = 4 by omega), if_neg (show ¬ (7 : Int) = 5 by omega), if_neg (show ¬ (7 : Int) = 6 by omega), if_pos]
    by_cases h : 4 ≤ l.length
    · match l, h with
      | p :: q :: f :: g :: r, h =>
        have ih := rdK_body (st := st) (a := a) (n := (u2 f g).toNat) (l := r)
        rw [rdN_ok (by simp)]
        simp only [List.drop_succ_cons, List.drop_zero]
        rw [rdN_ok (by simp)]
        simp only [List.drop_succ_cons, List.drop_zero, pk]
        cases hx : rdKts a (u2 f g).toNat r with
        | none => rw [hx] at ih; exact ih
        | some x => rw [hx] at ih; simp only at ih; simp [ih]
    · have key : (rdN st 2 false (rdN st 2 true (l, false)).2).2.2 = true := by
        by_cases h2 : l.length < 2
        · rw [rdN_short _ h2]; exact rdN_ended rfl
        · rw [rdN_ok (by omega), rdN_short _ (by simp; omega)]
      match l, h with
      | [], _ => simp only; rw [rdK_ended key]; exact key
      | [_], _ => simp only; rw [rdK_ended key]; exact key
      | [_, _], _ => simp only; rw [rdK_ended key]; exact key
      | [_, _, _], _ => simp only; rw [rdK_ended key]; exact key
      | _ :: _ :: _ :: _ :: r, h => simp at h
end Go.Proofs.YtokmeomjdpfknaaGreatDoor
namespace Go.Proofs.YtokmeomjdpfknaaGreatDoor
open Go.RowKit
set_option linter.unusedVariables false

def In.vals (x : In) (v1 v2 : Value) : Array Value := #[.int .i64 x.a, .int .i64 x.o, .int .i64 x.n, .int .i64 x.m, v1, v2]
end Go.Proofs.YtokmeomjdpfknaaGreatDoor
namespace Go.Proofs.YtokmeomjdpfknaaGreatDoor
open Go.RowKit
set_option linter.unusedVariables false

theorem take_one {l : List Int} {k : Nat} (h : k < l.length) : l.take (k + 1) = l.take k ++ [gi l k] := by
  rw [List.take_succ_eq_append_getElem h]
  simp [gi, h]
theorem ret_bb {b c : Bool} (h : b = c) : Ending.returned (.bool b) = .returned (.bool c) := by rw [h]
end Go.Proofs.YtokmeomjdpfknaaGreatDoor
namespace Go.Proofs.YtokmeomjdpfknaaGreatDoor
open Go.RowKit
set_option linter.unusedVariables false

def NR (w : World) (g : Nat) (v : Value) (a : Int) (sh : Bool) : Prop := w.heap[g]? = some (.cells #[v, .int .i64 a, .bool sh] 239 (0, 0))
theorem NR.lt {w : World} {g : Nat} {v : Value} {a : Int} {sh : Bool} (h : NR w g v a sh) : g < w.heap.size := lt_of_get h
theorem NR.cells {w : World} {g : Nat} {v : Value} {a : Int} {sh : Bool} (h : NR w g v a sh) : w.cell? ⟨g, 0, none⟩ = some v ∧ w.cell? ⟨g, 1, none⟩ = some (.int .i64 a) ∧ w.cell? ⟨g, 2, none⟩ = some (.bool sh) ∧ w.frozen? ⟨g, 0, none⟩ = false ∧ w.frozen? ⟨g, 1, none⟩ = false ∧ w.frozen? ⟨g, 2, none⟩ = false :=
  ⟨by rw [cell_of_row w g 0 _ _ (0, 0) h]; rfl, by rw [cell_of_row w g 1 _ _ (0, 0) h]; rfl, by rw [cell_of_row w g 2 _ _ (0, 0) h]; rfl, by simp [World.frozen?, show w.heap[g]? = _ from h], by simp [World.frozen?, show w.heap[g]? = _ from h], by simp [World.frozen?, show w.heap[g]? = _ from h]⟩
theorem NR.drew {w : World} {g : Nat} {v : Value} {a : Int} {sh : Bool} (h : NR w g v a sh) (n : Nat) : NR (w.drewN n) g v a sh := h
theorem NR.ext {w w' : World} {g : Nat} {v : Value} {a : Int} {sh : Bool} (h : NR w g v a sh) (he : Ext w w') : NR w' g v a sh := (he.block g (lt_of_get h)).trans h
end Go.Proofs.YtokmeomjdpfknaaGreatDoor
