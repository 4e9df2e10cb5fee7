/- Several texts of this proof, one behind the other. -/
import Derived.WalkKit
import Derived.BigQuiet
import Derived.IntWalk
import Derived.Lib.Hide
import Derived.Maps.AppendAt
import Derived.Deep.AppendLies
import Derived.Deep.Draws
import Derived.ScopeJumps
import Derived.Laws.BitsAllLaws
import Derived.Laws.BitsLemmas
import Derived.Test.YtecgldkhjgcffaaDoorProg
import Derived.Laws.BytesArg
import Derived.Lib.SliceRun
import Derived.Lib.Bytes
import Derived.OwnWalk
import Derived.Laws.MakeOwn
import Derived.Test.YtecgldkhjgcffaaDoorRows
/- Words of my own for memory: lists of numbers that a slice reads as, rows that a call has made, worlds that have only grown. -/
namespace Go.Proofs.YtecgldkhjgcffaaDoor
open Go.RowKit

/-- The number at a place of a list; 0 past its end. -/
def gi (l : List Int) (j : Nat) : Int := l.getD j 0

/-- A later world: what was there is as it was. -/
def Ext (w w' : World) : Prop := Below w.heap.size w w'

/-- All numbers of a list fit a kind. -/
def Fit (k : IntKind) (l : List Int) : Prop := ∀ x ∈ l, (Lit.int k x).wf = true

/-- A slice value reads as a list of numbers. -/
def Row (w : World) (k : IntKind) (v : Value) (l : List Int) : Prop :=
  ∃ (A : Option Addr) (c : Nat), v = .slice A l.length c ∧ l.length ≤ c ∧ c ≤ maxLen ∧ (A = none → c = 0) ∧ Fit k l ∧
    (0 < l.length → ∃ b o, A = some ⟨b, o, none⟩ ∧ b < w.heap.size ∧ ∀ j, j < l.length → w.cell? ⟨b, o + j, none⟩ = some (.int k (gi l j)))

/-- A slice value owns a list of numbers, in a block from B on. -/
def Own (B : Nat) (w : World) (e : TypeId) (k : IntKind) (v : Value) (l : List Int) : Prop :=
  w.ownsRow B e 1 v l.length (l.map (Value.int k)) ∧ Fit k l

/-- What comes back is a value of which this holds, and all that was there is as it was. -/
def Ret (w : World) (F : Value → World → Prop) (e : Ending) (w' : World) : Prop := ∃ v, e = .returned v ∧ F v w' ∧ Ext w w'

theorem Ext.refl (w : World) : Ext w w := Below.refl _ _
theorem Ext.size {w w' : World} (h : Ext w w') : w.heap.size ≤ w'.heap.size := Below.size h
theorem Ext.trans {a b c : World} (h : Ext a b) (k : Ext b c) : Ext a c := Below.trans h (Below.mono k h.size)
theorem Ext.alloc {a w : World} (h : Ext a w) (o : Obj) : Ext a (w.alloc o) := Below.alloc h h.size o
theorem Ext.drew {a w : World} (h : Ext a w) : Ext a w.drew := Below.drew h
theorem Ext.drewN {a w : World} (h : Ext a w) (n : Nat) : Ext a (w.drewN n) := ⟨h.os, h.tape, h.output, h.size, h.block⟩
theorem Ext.grown {a w w' : World} (h : Ext a w) {row : Option Nat} (hg : w.grownBy w' row) (hr : ∀ g, row = some g → a.heap.size ≤ g) : Ext a w' := Below.grown h hg h.size hr
theorem Ext.cell {w w' : World} (h : Ext w w') {p : Addr} (hp : p.block < w.heap.size) : w'.cell? p = w.cell? p := Below.cell h hp
theorem Ext.set_ {a w : World} (h : Ext a w) {p : Addr} (hp : a.heap.size ≤ p.block) (u : Value) : Ext a (w.setCell p u) := Below.setCell h hp u

theorem lt_of_get {w : World} {g : Nat} {o : Obj} (h : w.heap[g]? = some o) : g < w.heap.size := by
  rcases Nat.lt_or_ge g w.heap.size with hlt | hge
  · exact hlt
  · rw [Array.getElem?_eq_none hge] at h; cases h

theorem Fit.nil (k : IntKind) : Fit k [] := fun _ h => by cases h
theorem Fit.app {k : IntKind} {l m : List Int} (h : Fit k l) (h' : Fit k m) : Fit k (l ++ m) := fun x hx => (List.mem_append.1 hx).elim (h x) (h' x)
theorem Fit.drop {k : IntKind} {l : List Int} (h : Fit k l) (n : Nat) : Fit k (l.drop n) := fun x hx => h x (List.mem_of_mem_drop hx)
theorem Fit.take {k : IntKind} {l : List Int} (h : Fit k l) (n : Nat) : Fit k (l.take n) := fun x hx => h x (List.mem_of_mem_take hx)
theorem Fit.u8 {l : List Int} (h : Fit .u8 l) {x : Int} (hx : x ∈ l) : 0 ≤ x ∧ x < 256 := by
  have := h x hx
  simp [Lit.wf, IntKind.min, IntKind.max, IntKind.signed, IntKind.bits] at this
  omega
theorem gi_mem {l : List Int} {j : Nat} (h : j < l.length) : gi l j ∈ l := by
  unfold gi
  rw [List.getD_eq_getElem?_getD, List.getElem?_eq_getElem h]
  exact List.getElem_mem h

section
variable {w w' : World} {k : IntKind} {v : Value} {l : List Int}
theorem Row.ext (h : Row w k v l) (he : Ext w w') : Row w' k v l := by
  obtain ⟨A, c, h1, h2, h3, h4, h5, h6⟩ := h
  refine ⟨A, c, h1, h2, h3, h4, h5, fun hl => ?_⟩
  obtain ⟨b, o, ha, hb, hc⟩ := h6 hl
  exact ⟨b, o, ha, Nat.lt_of_lt_of_le hb he.size, fun j hj => (he.cell (p := ⟨b, o + j, none⟩) hb).trans (hc j hj)⟩
theorem Row.fit (h : Row w k v l) : Fit k l := by
  obtain ⟨A, c, h1, h2, h3, h4, h5, h6⟩ := h
  exact h5
theorem Row.head {w : World} {k : IntKind} {A : Option Addr} {n c : Nat} {l : List Int} (h : Row w k (.slice A n c) l) (m : Nat) (hm : m ≤ l.length) :
    Row w k (.slice A m c) (l.take m) := by
  obtain ⟨A, c', h1, h2, h3, h4, h5, h6⟩ := h
  injection h1 with e1 e2 e3
  subst e1 e2 e3
  have hlen : (l.take m).length = m := by simp; omega
  refine ⟨_, _, by rw [hlen], by omega, h3, h4, h5.take m, fun hl => ?_⟩
  obtain ⟨b, o, ha, hb, hc⟩ := h6 (by omega)
  refine ⟨b, o, ha, hb, fun j hj => ?_⟩
  rw [hc j (by omega)]
  simp [gi, show j < m by omega]
theorem Row.tail {w : World} {k : IntKind} {b o n c : Nat} {l : List Int} (h : Row w k (.slice (some ⟨b, o, none⟩) n c) l) (m : Nat) (hm : m ≤ l.length) :
    Row w k (.slice (some ⟨b, o + m, none⟩) (n - m) (c - m)) (l.drop m) := by
  obtain ⟨A, c', h1, h2, h3, h4, h5, h6⟩ := h
  injection h1 with e1 e2 e3
  subst e1 e2 e3
  have hlen : (l.drop m).length = l.length - m := by simp
  refine ⟨_, _, by rw [hlen], by omega, by omega, (fun h => by cases h), h5.drop m, fun hl => ?_⟩
  obtain ⟨b', o', ha, hb, hc⟩ := h6 (by omega)
  injection ha with ha
  injection ha with e1 e2
  subst e1 e2
  refine ⟨_, _, rfl, hb, fun j hj => ?_⟩
  rw [Nat.add_assoc, hc (m + j) (by omega)]
  simp [gi, List.getElem?_drop]
theorem Row.none_ (w : World) (k : IntKind) (A : Addr) : Row w k (.slice (some A) 0 0) [] := ⟨_, _, rfl, Nat.le_refl _, by simp [maxLen], (fun h => by cases h), Fit.nil k, fun h => by simp at h⟩
theorem Row.zero (w : World) (k : IntKind) (A : Addr) {n c : Nat} (hn : n = 0) (hc : c ≤ maxLen) : Row w k (.slice (some A) n c) [] := by
  subst hn
  exact ⟨_, _, rfl, by simp, hc, (fun h => by cases h), Fit.nil k, fun h => by simp at h⟩
theorem Own.fit {B : Nat} {e : TypeId} (h : Own B w e k v l) : Fit k l := h.2
theorem Own.row {B : Nat} {e : TypeId} (h : Own B w e k v l) : Row w k v l := by
  obtain ⟨⟨h1, h2⟩, hf⟩ := h
  rcases h2 with ⟨rfl, h0⟩ | ⟨g, cap, cur, rfl, hb, hg, hn, hm, hs, ht⟩
  · exact ⟨none, 0, by rw [h0], by omega, by simp [maxLen], fun _ => rfl, hf, fun hp => by omega⟩
  · refine ⟨_, _, rfl, hn, hm, (fun h => by cases h), hf, fun _ => ⟨g, 0, rfl, lt_of_get hg, fun j hj => ?_⟩⟩
    have hj' : j < cur.size := by omega
    have e1 : (cur.toList.take (l.length * 1))[j]? = (l.map (Value.int k))[j]? := by rw [ht]
    rw [List.getElem?_take_of_lt (by omega)] at e1
    simp [hj, hj'] at e1
    rw [cell_of_row w g (0 + j) cur e (0, 0) hg]
    simp [gi, hj, hj', e1]
theorem Own.ext {B : Nat} {e : TypeId} (h : Own B w e k v l) (he : Ext w w') : Own B w' e k v l := by
  obtain ⟨⟨h1, h2⟩, hf⟩ := h
  refine ⟨⟨h1, ?_⟩, hf⟩
  rcases h2 with h2 | ⟨g, cap, cur, hv, hb, hg, hr⟩
  · exact .inl h2
  · exact .inr ⟨g, cap, cur, hv, hb, (he.block g (lt_of_get hg)).trans hg, hr⟩
theorem Own.nil (B : Nat) (w : World) (e : TypeId) (k : IntKind) : Own B w e k (.slice none 0 0) [] := ⟨World.ownsRow_nil w B e 1, Fit.nil k⟩
theorem Own.made (B : Nat) (w : World) (e : TypeId) (k : IntKind) (hB : B ≤ w.heap.size) : Own B (w.alloc (.cells #[] e)) e k (.slice (some ⟨w.heap.size, 0, none⟩) 0 0) [] :=
  ⟨World.ownsRow_made w #[] 0 hB (by simp [maxLen]) (by simp), Fit.nil k⟩
theorem Own.low {B : Nat} {e : TypeId} (h : Own B w e k v l) : ∀ g, v.ownBlock = some g → B ≤ g := fun g hg => (World.ownsRow.lt h.1 g hg).1
theorem Own.high {B : Nat} {e : TypeId} (h : Own B w e k v l) : ∀ g, v.ownBlock = some g → g < w.heap.size := fun g hg => (World.ownsRow.lt h.1 g hg).2
theorem Own.base {B B' : Nat} {e : TypeId} (h : Own B w e k v l) (hB : B' ≤ B) : Own B' w e k v l := by
  obtain ⟨⟨h1, h2⟩, hf⟩ := h
  refine ⟨⟨h1, ?_⟩, hf⟩
  rcases h2 with h2 | ⟨g, cap, cur, hv, hb, hr⟩
  · exact .inl h2
  · exact .inr ⟨g, cap, cur, hv, by omega, hr⟩
end
/-- What is told of a slice of numbers that came in, as a row. -/
theorem row_of_open {w : World} {k : IntKind} {x : Addr} {n c : Nat} {zs : List Int} (hl : n ≤ c) (hm : c ≤ maxLen) (hz : zs.length = c)
    (hcell : ∀ i, i < zs.length → w.cell? (x.add i) = some (.int k (zs.getD i 0))) (hwz : ∀ y ∈ zs, (Lit.int k y).wf = true) : Row w k (.slice (some x) n c) (zs.take n) := by
  have hlen : (zs.take n).length = n := by simp; omega
  refine ⟨some x, c, by rw [hlen], by omega, hm, (fun h => by cases h), Fit.take hwz n, fun hp => ?_⟩
  obtain ⟨b, o, spot⟩ := x
  have h0 := hcell 0 (by omega)
  have hs : spot = none := by simpa [Addr.add] using World.cell?_spot h0
  subst hs
  refine ⟨b, o, rfl, ?_, fun j hj => ?_⟩
  · exact World.block_lt_of_cell? w ((⟨b, o, none⟩ : Addr).add 0) h0
  · have := hcell j (by omega)
    rw [Addr.add_lit] at this
    rw [this]
    simp [gi, show j < n by omega]
theorem ints_one (k : IntKind) (l : List Int) : ∀ u ∈ l.map (Value.int k), u.oneCell' = true := by
  intro u hu
  obtain ⟨_, _, rfl⟩ := List.mem_map.1 hu
  rfl

/-- append of a list onto a row of the call's own. -/
theorem run_app {P : Program} (w : World) (B : Nat) (t ty e : TypeId) (z : Value) (bytes : Nat) (k : IntKind) (ht : P.underlying t = some (.slice e))
    (hi : (P.info? e).map (fun i => (i.zero, i.size, i.bytes)) = some (some z, 1, bytes)) (hz : z.cells.size = 1)
    (v : Value) (l : List Int) (ho : Own B w e k v l) (x : Value) (m : List Int) (hr : Row w k x m)
    (hb : (l.length + m.length) * bytes ≤ 140737488355328) (hb1 : 1 ≤ bytes) (hB : B ≤ w.heap.size) :
    ∃ v' w', (Builtin.append_ #[t, t] ty #[v, x]).run P w = .ok v' w' ∧ Own B w' e k v' (l ++ m) ∧ w.grownBy w' v.ownBlock ∧ (v'.ownBlock = v.ownBlock ∨ v'.ownBlock = some w.heap.size) := by
  obtain ⟨i, hi1, hi2, hi3, hi4⟩ := info_parts hi
  obtain ⟨A, c, rfl, h2, h3, h4, h5, h6⟩ := hr
  have hfit : Fit k (l ++ m) := ho.2.app h5
  have hlen : l.length + m.length ≤ 140737488355328 := Nat.le_trans (Nat.le_mul_of_pos_right _ (by omega)) hb
  rcases A with _ | ad
  · have hc := h4 rfl
    have hm : m = [] := List.eq_nil_of_length_eq_zero (by omega)
    subst hm
    refine ⟨v, w, ?_, by simpa using ho, World.grownBy.refl w _, .inl rfl⟩
    rcases ho.1.2 with ⟨rfl, _⟩ | ⟨g, cap, cur, rfl, _, _, hnc, _⟩
    · simp [Builtin.append_, run_underlying ht, sizeOf, typeInfo, hi1, Builtin.lenOf, Builtin.firstCells]
    · simp [Builtin.append_, run_underlying ht, sizeOf, typeInfo, hi1, Builtin.lenOf, Builtin.firstCells, hnc, storeCells]
  · have hcells : ∀ j u, (m.map (Value.int k))[j]? = some u → w.cell? (ad.add j) = some u := by
      intro j u hu
      have hj : j < m.length := by
        have := (List.getElem?_eq_some_iff.1 hu).1
        simpa using this
      obtain ⟨b, o, hA, _, hc⟩ := h6 (by omega)
      injection hA with hA
      subst hA
      rw [Addr.add_lit, hc j hj]
      simp [hj] at hu
      simp [gi, hj, ← hu]
    obtain ⟨v', w', hrun, k2, k3, _, k5⟩ := run_append_own_at (P := P) w B t ty e i z 1 bytes ht hi1 hi2 hi3 hi4 hz (by omega) v l.length (l.map (Value.int k)) ho.1 ad m.length c (m.map (Value.int k)) (by simp) hcells (ints_one k m) (by simp only [maxLen]; omega) hb hB
    refine ⟨v', w', hrun, ⟨?_, hfit⟩, k3, k5⟩
    simpa using k2

theorem wpList_app {P : Program} (w : World) {ops : Array Oper} {rest : List Oper} {o : Oper} {a : Act} {Q : Exit → Act → World → Prop} (hgd : Region.wanted o (yielded ops a.tmps) = true) (s y : Operand) (B : Nat) (t e : TypeId) (z : Value) (bytes : Nat) (k : IntKind)
    (hop : o.op = .call { callee := .builtin .append, args := #[s, y], argTypes := #[t, t] }) (ht : P.underlying t = some (.slice e))
    (hi : (P.info? e).map (fun i => (i.zero, i.size, i.bytes)) = some (some z, 1, bytes)) (hz : z.cells.size = 1) (hb1 : 1 ≤ bytes)
    (v : Value) (l : List Int) (hs : a.eval s = v) (ho : Own B w e k v l) (x : Value) (m : List Int) (hx : a.eval y = x) (hr : Row w k x m)
    (hb : (l.length + m.length) * bytes ≤ 140737488355328) (hB : B ≤ w.heap.size)
    (h : ∀ v' w', Own B w' e k v' (l ++ m) → w.grownBy w' v.ownBlock → (v'.ownBlock = v.ownBlock ∨ v'.ownBlock = some w.heap.size) → wpList P ops Q rest (a.put o.dst v') w') :
    wpList P ops Q (o :: rest) a w := by
  refine wpList_step fun K hK => ?_
  rw [if_pos hgd]
  obtain ⟨v', w', hrun, h2, h3, h4⟩ := run_app (P := P) w B t o.type e z bytes k ht hi hz v l ho x m hr hb hb1 hB
  unfold Oper.wp execOp
  simp only [hop, resolve, invoke, builtin, Sem.run_bind, Sem.run_pure, Result.andThen_ok, List.map_toArray, List.map_cons, List.map_nil, hs, hx, hrun]
  exact hK _ _ (h v' w' h2 h3 h4)

/-- A slice that was built in place. -/
theorem Row.built (w : World) (k : IntKind) (t : TypeId) (l : List Int) (hf : Fit k l) (hl : l.length ≤ 65536) :
    Row (w.alloc (.cells (l.map (Value.int k)).toArray t)) k (.slice (some ⟨w.heap.size, 0, none⟩) l.length l.length) l := by
  refine ⟨_, _, rfl, Nat.le_refl _, by simp only [maxLen]; omega, (fun h => by cases h), hf, fun _ => ⟨_, _, rfl, by simp, fun j hj => ?_⟩⟩
  rw [cell_of_row (w.alloc (.cells (l.map (Value.int k)).toArray t)) w.heap.size (0 + j) _ t (0, 0) (heap_alloc_new w _)]
  simp [gi, hj]

theorem Row.built1 (w : World) (k : IntKind) (t : TypeId) (x : Int) (hx : (Lit.int k x).wf = true) :
    Row (w.alloc (.cells #[.int k x] t)) k (.slice (some ⟨w.heap.size, 0, none⟩) 1 1) [x] :=
  Row.built w k t [x] (fun y hy => by rw [List.mem_singleton.1 hy]; exact hx) (by simp)
theorem wf_u8 {x : Int} (h0 : 0 ≤ x) (h1 : x ≤ 255) : (Lit.int .u8 x).wf = true := by
  simp [Lit.wf, IntKind.min, IntKind.max, IntKind.signed, IntKind.bits]
  omega

/-- A scope through whose label the run comes again and again: every pass from the label lowers a measure. -/
theorem wp_scope_again {P : Program} {a : Act} {w : World} {Q : Exit → Act → World → Prop} {c rest : Code} (l : Nat) (J : Act → World → Prop) (μ : Act → World → Nat) (hf : findLabel c l = some (Code.skip.seq rest))
    (pass : ∀ a w, J a w → rest.wp P (Exit.jump l (fun a' w' => J a' w' ∧ μ a' w' < μ a w) Q) a w)
    (first : (∀ a w, J a w → rest.wp P (Exit.jump l J Q) a w) → c.wp P (Exit.jump l J Q) a w) : (Code.scope c).wp P Q a w := by
  refine wp_scope_jumps l J μ hf (first fun a w hJ => wp_mono (pass a w hJ) fun e a w => ?_) fun a w hJ => ?_
  · cases e <;> simp only [Exit.jump] <;> first | exact id | exact fun h => ⟨h.1, h.2.1⟩
  · exact wp_seq (wp_skip (pass a w hJ))

theorem Ret.mk {w w' : World} {F : Value → World → Prop} {v : Value} (hF : F v w') (he : Ext w w') : Ret w F (.returned v) w' := ⟨v, rfl, hF, he⟩
end Go.Proofs.YtecgldkhjgcffaaDoor
/- The helpers: lists of bytes that are held against each other, copied, brought into a range. -/
namespace Go.Proofs.YtecgldkhjgcffaaDoor
open Go.RowKit

/-- A value comes back, and nothing has changed but draws. -/
def Quiet (w : World) (v : Value) (e : Ending) (w' : World) : Prop := e = .returned v ∧ ∃ m, w' = w.drewN m

theorem take_eq_succ {l m : List Int} {k : Nat} (hl : k < l.length) (hm : k < m.length) (h : l.take k = m.take k) (hg : gi l k = gi m k) : l.take (k + 1) = m.take (k + 1) := by
  rw [List.take_succ_eq_append_getElem hl, List.take_succ_eq_append_getElem hm, h]
  simp [gi, List.getD_eq_getElem?_getD, hl, hm] at hg
  rw [hg]

theorem ne_of_gi {l m : List Int} {k : Nat} (hg : ¬ gi l k = gi m k) : ¬ l = m := fun h => hg (by rw [h])

set_option maxHeartbeats 400000 in
theorem eqBytes_any (v1 v2 : Value) (l1 l2 : List Int) (w : World) (h1 : Row w .u8 v1 l1) (h2 : Row w .u8 v2 l2) :
    Calls Tryd.prog 15 #[v1, v2] w (Quiet w (.bool (decide (l1 = l2)))) := by
  obtain ⟨A1, c1, rfl, hc1, hm1, ha1, hf1, hg1⟩ := h1
  obtain ⟨A2, c2, rfl, hc2, hm2, ha2, hf2, hg2⟩ := h2
  unfold maxLen at hm1 hm2
  by_cases hl : l1.length = l2.length
  · obtain ⟨n, hn⟩ : ∃ n, n = l1.length := ⟨_, rfl⟩
    rw [← hn] at hc1 hg1
    rw [← hl, ← hn] at hc2 hg2
    rw [← hn, ← hl, ← hn]
    have Hn := Lib.hid hn
    have Hl := Lib.hid hl
    clear hn hl ha1 ha2
    go_enter Tryd.func15, Tryd.ntmps15
    go_wp2
    go_loopw [5] (fun i wr => ∃ k m : Nat, k ≤ n ∧ i = .int .i64 k ∧ wr = w.drewN m ∧ l1.take k = l2.take k) (fun i _ => n - (intOf i).toNat)
    case atStart => exact ⟨0, 0, by omega, rfl, rfl, rfl⟩
    case round =>
      obtain ⟨k, m, hk, rfl, rfl, ht⟩ := hrel
      have Ht := Lib.hid ht
      clear ht
      by_cases hlt : k < n
      · obtain ⟨b1, o1, rfl, hb1, hx1⟩ := hg1 (by omega)
        obtain ⟨b2, o2, rfl, hb2, hx2⟩ := hg2 (by omega)
        have hy1 := hx1 k hlt
        have hy2 := hx2 k hlt
        clear hx1 hx2
        go_wp2
        go_quiet (fail)
        go_wp2
        · go_ret
          refine ⟨?_, m + nq, by rw [World.drewN_drewN]⟩
          have hx : (gi l1 k != gi l2 k) = true := by assumption
          have hx' : ¬ gi l1 k = gi l2 k := by simpa using hx
          simp [ne_of_gi hx']
        · have hx : (gi l1 k != gi l2 k) = false := by assumption
          have hx' : gi l1 k = gi l2 k := by simpa using hx
          refine ⟨⟨k + 1, m + nq, by omega, by go_num, rfl, ?_⟩, by simp [intOf]; omega⟩
          exact take_eq_succ (by have := Hn.out; omega) (by have := Hn.out; have := Hl.out; omega) Ht.out hx'
      · go_wp2
        go_ret
        refine ⟨?_, _, rfl⟩
        have hk' : k = n := by omega
        have e : l1 = l2 := by
          have := Ht.out
          rw [hk', Hn.out] at this
          rwa [List.take_length, Hl.out, List.take_length] at this
        simp [e]
  · have hb : ((l1.length : Int) != (l2.length : Int)) = true := by simp; omega
    have hne : ¬ l1 = l2 := fun h => hl (by rw [h])
    have Hne := Lib.hid hne
    clear hg1 hg2 ha1 ha2 hf1 hf2 hne hl
    go_enter Tryd.func15, Tryd.ntmps15
    go_wp2
    go_ret
    exact ⟨by simp [Hne.out], 0, rfl⟩

theorem info8 : (Tryd.prog.info? 5).map (fun i => (i.zero, i.size, i.bytes)) = some (some (.int .u8 0), 1, 1) := by kernel_rfl

theorem copyBytes_any (v : Value) (l : List Int) (w : World) (h : Row w .u8 v l) (hl : l.length ≤ 140737488355328) :
    Calls Tryd.prog 11 #[v] w (Ret w (fun v' w' => Own w.heap.size w' 5 .u8 v' l)) := by
  go_enter Tryd.func11, Tryd.ntmps11
  go_wp2_with (at_builtin; refine wpList_app _ rfl _ _ w.heap.size 22 5 _ 1 .u8 rfl Tryd.underlying22 info8 rfl (by omega) _ [] rfl (Own.nil _ _ _ _) v l rfl h (by simp; omega) (by simp) ?_)
  intro v' w' ho hg _
  go_wp2
  go_ret
  exact Ret.mk (by simpa using ho) ((Ext.refl _).grown hg (fun g hg => by cases hg))

theorem Row.conv {w : World} {v : Value} {l : List Int} (h : Row w .u8 v l) : (convert 22 9 v).run Tryd.prog w = .ok (.string (strOfNums l)) w := by
  obtain ⟨A, c, rfl, h2, h3, h4, h5, h6⟩ := h
  by_cases hl : 0 < l.length
  · obtain ⟨b, o, rfl, _, hc⟩ := h6 hl
    exact run_convert_bytes_arg w _ _ Tryd.underlying22 Tryd.underlying5 b o _ c l rfl hc _ Tryd.underlying9
  · have hl : l = [] := List.eq_nil_of_length_eq_zero (by omega)
    subst hl
    rw [run_convert_bytes_string w _ _ _ _ _ _ Tryd.underlying22 Tryd.underlying5 Tryd.underlying9]
    cases A <;> simp [Conv.bytesToString, loadCells, loadCellsFrom, strOfNums] <;> rfl

theorem strOfNums_inj {l m : List Int} (hl : Fit .u8 l) (hm : Fit .u8 m) : ((strOfNums l).toList == (strOfNums m).toList) = decide (l = m) := by
  rw [Lib.strOfNums_toList, Lib.strOfNums_toList]
  unfold Lib.bytesOf
  by_cases h : l = m
  · simp [h]
  · have : ¬ l.map (fun n => UInt8.ofNat n.toNat) = m.map (fun n => UInt8.ofNat n.toNat) := by
      intro e2
      apply h
      have inv : ∀ x : Int, 0 ≤ x ∧ x < 256 → ((UInt8.ofNat x.toNat).toNat : Int) = x := by
        intro x hx
        simp
        omega
      have back : ∀ l : List Int, Fit .u8 l → (l.map (fun n => UInt8.ofNat n.toNat)).map (fun u => (u.toNat : Int)) = l := by
        intro l hl
        rw [List.map_map]
        conv => rhs; rw [← List.map_id l]
        exact List.map_congr_left fun x hx => inv x (hl.u8 hx)
      rw [← back l hl, ← back m hm, e2]
    simp [h, this]

theorem equal_any (v1 v2 : Value) (l1 l2 : List Int) (w : World) (h1 : Row w .u8 v1 l1) (h2 : Row w .u8 v2 l2) :
    Calls Tryd.prog 93 #[v1, v2] w fun e w' => e = .returned (.bool (decide (l1 = l2))) ∧ w = w' := by
  have e1 := h1.conv
  have e2 := h2.conv
  rw [← strOfNums_inj h1.fit h2.fit]
  obtain ⟨A1, c1, rfl, hc1, hm1, ha1, hf1, hg1⟩ := h1
  obtain ⟨A2, c2, rfl, hc2, hm2, ha2, hf2, hg2⟩ := h2
  clear ha1 hf1 hg1 ha2 hf2 hg2
  go_enter Tryd.func93, Tryd.ntmps93
  go_wp2
  go_ret
  exact ⟨rfl, rfl⟩
end Go.Proofs.YtecgldkhjgcffaaDoor
/- Words for lists of constants in memory: a struct of six cells each. -/
namespace Go.Proofs.YtecgldkhjgcffaaDoor
open Go.RowKit
set_option linter.unusedVariables false

/-- A constant. -/
structure Cst where
  k : Int
  t : ByteArray
  n : Int
  a : Int
  b : Int
  c : Int
/-- An int of 64 bits. -/
def I64 (x : Int) : Prop := -9223372036854775808 ≤ x ∧ x ≤ 9223372036854775807
/-- Its numbers are ints. -/
def Cst.ok (x : Cst) : Prop := I64 x.k ∧ I64 x.n ∧ I64 x.a ∧ I64 x.b ∧ I64 x.c
/-- None: all its fields are zero. -/
def c0 : Cst := ⟨0, .empty, 0, 0, 0, 0⟩
theorem i64_zero : I64 0 := ⟨by decide, by decide⟩
theorem c0_ok : c0.ok := ⟨i64_zero, i64_zero, i64_zero, i64_zero, i64_zero⟩
/-- The constant at a place; none past the end. -/
def gc (l : List Cst) (j : Nat) : Cst := l.getD j c0
/-- Its cells. -/
def Cst.vals (x : Cst) : Array Value := #[.int .i64 x.k, .string x.t, .int .i64 x.n, .int .i64 x.a, .int .i64 x.b, .int .i64 x.c]
/-- A constant's six cells from a place on. -/
def At6 (w : World) (b o : Nat) (x : Cst) : Prop :=
  w.cell? ⟨b, o, none⟩ = some (.int .i64 x.k) ∧ w.cell? ⟨b, o + 1, none⟩ = some (.string x.t) ∧ w.cell? ⟨b, o + 2, none⟩ = some (.int .i64 x.n) ∧
  w.cell? ⟨b, o + 3, none⟩ = some (.int .i64 x.a) ∧ w.cell? ⟨b, o + 4, none⟩ = some (.int .i64 x.b) ∧ w.cell? ⟨b, o + 5, none⟩ = some (.int .i64 x.c)
/-- A slice value reads as a list of constants. -/
def RowC (w : World) (v : Value) (l : List Cst) : Prop :=
  ∃ (A : Option Addr) (c : Nat), v = .slice A l.length c ∧ l.length ≤ c ∧ c ≤ maxLen ∧ (A = none → c = 0) ∧ (∀ x ∈ l, x.ok) ∧
    (0 < l.length → ∃ b o, A = some ⟨b, o, none⟩ ∧ b < w.heap.size ∧ ∀ j, j < l.length → At6 w b (o + j * 6) (gc l j))

theorem At6.ext {w w' : World} {b o : Nat} {x : Cst} (h : At6 w b o x) (he : Ext w w') (hb : b < w.heap.size) : At6 w' b o x := by
  obtain ⟨h0, h1, h2, h3, h4, h5⟩ := h
  exact ⟨(he.cell (p := ⟨b, o, none⟩) hb).trans h0, (he.cell (p := ⟨b, o + 1, none⟩) hb).trans h1, (he.cell (p := ⟨b, o + 2, none⟩) hb).trans h2, (he.cell (p := ⟨b, o + 3, none⟩) hb).trans h3, (he.cell (p := ⟨b, o + 4, none⟩) hb).trans h4, (he.cell (p := ⟨b, o + 5, none⟩) hb).trans h5⟩
theorem RowC.ext {w w' : World} {v : Value} {l : List Cst} (h : RowC w v l) (he : Ext w w') : RowC w' v l := by
  obtain ⟨A, c, h1, h2, h3, h4, h5, h6⟩ := h
  refine ⟨A, c, h1, h2, h3, h4, h5, fun hl => ?_⟩
  obtain ⟨b, o, ha, hb, hc⟩ := h6 hl
  exact ⟨b, o, ha, Nat.lt_of_lt_of_le hb he.size, fun j hj => (hc j hj).ext he hb⟩
theorem gc_mem {l : List Cst} {j : Nat} (h : j < l.length) : gc l j ∈ l := by
  unfold gc
  rw [List.getD_eq_getElem?_getD, List.getElem?_eq_getElem h]
  exact List.getElem_mem h
theorem gc_past {l : List Cst} {j : Nat} (h : l.length ≤ j) : gc l j = c0 := by
  unfold gc
  rw [List.getD_eq_getElem?_getD, List.getElem?_eq_none h]
  rfl
theorem gc_ok {l : List Cst} (h : ∀ x ∈ l, x.ok) (j : Nat) : (gc l j).ok := by
  by_cases hj : j < l.length
  · exact h _ (gc_mem hj)
  · rw [gc_past (by omega)]
    exact c0_ok
theorem RowC.all {w : World} {v : Value} {l : List Cst} (h : RowC w v l) : ∀ x ∈ l, x.ok := by
  obtain ⟨A, c, h1, h2, h3, h4, h5, h6⟩ := h
  exact h5
theorem RowC.nil (w : World) : RowC w (.slice none 0 0) [] := ⟨none, 0, rfl, Nat.le_refl _, by simp [maxLen], fun _ => rfl, (fun _ h => by cases h), fun h => by simp at h⟩
end Go.Proofs.YtecgldkhjgcffaaDoor
/- A constant's cells at the head of a block. -/
namespace Go.Proofs.YtecgldkhjgcffaaDoor
open Go.RowKit
set_option linter.unusedVariables false

/-- A constant's cells at the head of a block. -/
def At0 (w : World) (g : Nat) (y : Cst) : Prop :=
  w.cell? ⟨g, 0, none⟩ = some (.int .i64 y.k) ∧ w.cell? ⟨g, 1, none⟩ = some (.string y.t) ∧ w.cell? ⟨g, 2, none⟩ = some (.int .i64 y.n) ∧ w.cell? ⟨g, 3, none⟩ = some (.int .i64 y.a) ∧ w.cell? ⟨g, 4, none⟩ = some (.int .i64 y.b) ∧ w.cell? ⟨g, 5, none⟩ = some (.int .i64 y.c)
theorem At0.of {w : World} {g : Nat} {y : Cst} {T : TypeId} (h : w.heap[g]? = some (.cells y.vals T (0, 0))) : At0 w g y := by
  refine ⟨?_, ?_, ?_, ?_, ?_, ?_⟩
  all_goals
    rw [cell_of_row w g _ _ T (0, 0) h]
    rfl
theorem At0.ext {w w' : World} {g : Nat} {y : Cst} (h : At0 w g y) (he : Ext w w') (hg : g < w.heap.size) : At0 w' g y := by
  obtain ⟨h0, h1, h2, h3, h4, h5⟩ := h
  exact ⟨(he.cell (p := ⟨g, 0, none⟩) hg).trans h0, (he.cell (p := ⟨g, 1, none⟩) hg).trans h1, (he.cell (p := ⟨g, 2, none⟩) hg).trans h2, (he.cell (p := ⟨g, 3, none⟩) hg).trans h3, (he.cell (p := ⟨g, 4, none⟩) hg).trans h4, (he.cell (p := ⟨g, 5, none⟩) hg).trans h5⟩
theorem At0.grown {w w' : World} {g : Nat} {y : Cst} {r : Option Nat} (h : At0 w g y) (hg : w.grownBy w' r) (hlt : g < w.heap.size) (hne : r ≠ some g) : At0 w' g y := by
  have e := hg.block g hlt (fun e => hne e.symm)
  obtain ⟨h0, h1, h2, h3, h4, h5⟩ := h
  exact ⟨(World.cell?_of_block (w := w) (a := ⟨g, 0, none⟩) e).trans h0, (World.cell?_of_block (w := w) (a := ⟨g, 1, none⟩) e).trans h1, (World.cell?_of_block (w := w) (a := ⟨g, 2, none⟩) e).trans h2, (World.cell?_of_block (w := w) (a := ⟨g, 3, none⟩) e).trans h3, (World.cell?_of_block (w := w) (a := ⟨g, 4, none⟩) e).trans h4, (World.cell?_of_block (w := w) (a := ⟨g, 5, none⟩) e).trans h5⟩
end Go.Proofs.YtecgldkhjgcffaaDoor
/- A number brought into a range: plain mathematics. -/
namespace Go.Proofs.YtecgldkhjgcffaaDoor

/-- Brought to one from 0 on, below a number. -/
def bring (i n : Int) : Int := if n ≤ 0 then 0 else i % n
theorem bring_pos (i : Int) {n : Int} (h : 0 < n) : bring i n = i % n := by
  unfold bring
  rw [if_neg (by omega)]
theorem tmod_neg {i n : Int} (h : i < 0) (hn : 0 < n) : (i.tmod n = i % n - n ∨ i.tmod n = i % n) ∧ -n < i.tmod n ∧ i.tmod n ≤ 0 := by
  have e := Int.tmod_eq_emod (a := i) (b := n)
  have h1 := Int.emod_nonneg i (show n ≠ 0 by omega)
  have h2 := Int.emod_lt_of_pos i hn
  split at e
  · rename_i hc
    have hd : n ∣ i := by rcases hc with hc | hc; omega; exact hc
    have hz : i % n = 0 := Int.emod_eq_zero_of_dvd hd
    omega
  · have : (n.natAbs : Int) = n := by omega
    omega
theorem bring_nat (i : Int) {n : Nat} (h : 0 < n) : ∃ k : Nat, bring i n = k ∧ k < n := by
  rw [bring_pos i (by omega)]
  have h1 := Int.emod_nonneg i (show (n : Int) ≠ 0 by omega)
  have h2 := Int.emod_lt_of_pos i (show (0 : Int) < n by omega)
  exact ⟨(i % n).toNat, by omega, by omega⟩
end Go.Proofs.YtecgldkhjgcffaaDoor
/- The statements' own helper: a number brought into a range. -/
namespace Go.Proofs.YtecgldkhjgcffaaDoor
open Go.RowKit
set_option linter.unusedVariables false

theorem bring_any (i n : Int) (w : World) (hl : -9223372036854775808 ≤ i) (hh : i ≤ 9223372036854775807) (hl' : -9223372036854775808 ≤ n) (hh' : n ≤ 9223372036854775807) :
    Calls Tryd.prog 21 #[.int .i64 i, .int .i64 n] w fun e w' => e = .returned (.int .i64 (bring i n)) ∧ w = w' := by
  by_cases hn : n ≤ 0
  · have e : bring i n = 0 := by unfold bring; rw [if_pos hn]
    rw [e]
    clear e
    go_enter Tryd.func21, Tryd.ntmps21
    go_wp2
    go_ret
    exact ⟨rfl, rfl⟩
  · have hn1 : 0 < n := by omega
    rw [bring_pos i hn1]
    by_cases h0 : 0 ≤ i
    · have hm : 0 ≤ i % n := Int.emod_nonneg i (by omega)
      go_enter Tryd.func21, Tryd.ntmps21
      go_wp2
      go_ret
      exact ⟨rfl, rfl⟩
    · obtain ⟨ht, hb1, hb2⟩ := tmod_neg (i := i) (by omega) hn1
      have hm := Int.emod_nonneg i (show n ≠ 0 by omega)
      have hm2 := Int.emod_lt_of_pos i hn1
      by_cases hz : i.tmod n < 0
      · have e : i % n = i.tmod n + n := by omega
        rw [e]
        clear e ht
        go_enter Tryd.func21, Tryd.ntmps21
        go_wp2
        go_ret
        exact ⟨rfl, rfl⟩
      · have e : i % n = i.tmod n := by omega
        rw [e]
        clear e ht
        go_enter Tryd.func21, Tryd.ntmps21
        go_wp2
        go_ret
        exact ⟨rfl, rfl⟩

/-- A bool comes back, and all that was there is as it was. -/
def RetB (w : World) (b : Bool) (e : Ending) (w' : World) : Prop := e = .returned (.bool b) ∧ Ext w w'
end Go.Proofs.YtecgldkhjgcffaaDoor
/- Rows that a call has made, written in place; rows that it makes of a size. -/
namespace Go.Proofs.YtecgldkhjgcffaaDoor
open Go.RowKit
set_option linter.unusedVariables false

section
variable {w w' : World} {B : Nat} {e : TypeId} {k : IntKind} {v : Value} {l : List Int}
theorem Own.parts (h : Own B w e k v l) (hl : 0 < l.length) :
    ∃ g c, v = .slice (some ⟨g, 0, none⟩) l.length c ∧ B ≤ g ∧ g < w.heap.size ∧ l.length ≤ c ∧ c ≤ maxLen ∧
      (∀ j, j < l.length → w.cell? ⟨g, j, none⟩ = some (.int k (gi l j))) ∧ (∀ j, w.frozen? ⟨g, j, none⟩ = false) := by
  obtain ⟨⟨h1, h2⟩, hf⟩ := h
  rcases h2 with ⟨rfl, h0⟩ | ⟨g, cap, cur, rfl, hb, hg, hn, hm, hs, ht⟩
  · omega
  · refine ⟨g, cap, rfl, hb, lt_of_get hg, hn, hm, fun j hj => ?_, fun j => by simp [World.frozen?, hg]⟩
    have hj' : j < cur.size := by omega
    have e1 : (cur.toList.take (l.length * 1))[j]? = (l.map (Value.int k))[j]? := by rw [ht]
    rw [List.getElem?_take_of_lt (by omega)] at e1
    simp [hj, hj'] at e1
    rw [cell_of_row w g j cur e (0, 0) hg]
    simp [gi, hj, hj', e1]
theorem Own.put {g n c : Nat} (h : Own B w e k (.slice (some ⟨g, 0, none⟩) n c) l) {j : Nat} {x : Int} (hj : j < l.length) (hx : (Lit.int k x).wf = true) :
    Own B (w.setCell ⟨g, j, none⟩ (.int k x)) e k (.slice (some ⟨g, 0, none⟩) n c) (l.set j x) := by
  obtain ⟨⟨h1, h2⟩, hf⟩ := h
  have hfit : Fit k (l.set j x) := fun y hy => by
    rcases List.mem_or_eq_of_mem_set hy with hy | rfl
    · exact hf y hy
    · exact hx
  rcases h2 with ⟨h0, _⟩ | ⟨g', cap, cur, hv, hb, hg, hn, hm, hs, ht⟩
  · cases h0
  · injection hv with e1 e2 e3
    injection e1 with e1
    injection e1 with e1
    subst e1 e2 e3
    refine ⟨⟨by simp, .inr ⟨g, c, cur.setIfInBounds j (.int k x), by simp, hb, ?_, by simpa using hn, hm, by simpa using hs, ?_⟩⟩, hfit⟩
    · exact heap_setCell_same w g j cur e (.int k x) hg
    · rw [Array.toList_setIfInBounds, List.take_set, List.length_set, ht, List.map_set]
end

/-- Only one block has changed, beside what is new. -/
theorem only_set {a w : World} {g : Nat} (h : a.grownBy w (some g)) (j : Nat) (u : Value) : a.grownBy (w.setCell ⟨g, j, none⟩ u) (some g) := by
  refine ⟨h.os, h.tape, h.output, by simpa [World.setCell] using h.size, fun i hi hne => ?_⟩
  rw [Below.heap_setCell w ⟨g, j, none⟩ u i (fun e => hne (by rw [e]))]
  exact h.block i hi hne
theorem Own.kept {w w' : World} {B : Nat} {e : TypeId} {k : IntKind} {v : Value} {l : List Int} (h : Own B w e k v l) {row : Option Nat} (hg : w.grownBy w' row) (hne : ∀ g, v.ownBlock = some g → row ≠ some g) : Own B w' e k v l := by
  obtain ⟨⟨h1, h2⟩, hf⟩ := h
  refine ⟨⟨h1, ?_⟩, hf⟩
  rcases h2 with h2 | ⟨g, cap, cur, hv, hb, hg', hr⟩
  · exact .inl h2
  · refine .inr ⟨g, cap, cur, hv, hb, (hg.block g (lt_of_get hg') ?_).trans hg', hr⟩
    exact fun e => hne g (by rw [hv]; rfl) e.symm
theorem Row.kept {w w' : World} {k : IntKind} {v : Value} {l : List Int} (h : Row w k v l) {row : Option Nat} (hg : w.grownBy w' row) (hne : ∀ g, v.ownBlock = some g → row ≠ some g) : Row w' k v l := by
  obtain ⟨A, c, h1, h2, h3, h4, h5, h6⟩ := h
  refine ⟨A, c, h1, h2, h3, h4, h5, fun hl => ?_⟩
  obtain ⟨b, o, ha, hb, hc⟩ := h6 hl
  refine ⟨b, o, ha, Nat.lt_of_lt_of_le hb hg.size, fun j hj => ?_⟩
  have e := hg.block b hb (fun e => hne b (by rw [h1, ha]; rfl) e.symm)
  exact (World.cell?_of_block (w := w) (a := ⟨b, o + j, none⟩) e).trans (hc j hj)

/-- make of so many zeros. -/
theorem wpList_mk {P : Program} (w : World) {ops : Array Oper} {rest : List Oper} {o : Oper} {a : Act} {Q : Exit → Act → World → Prop} (hg : o.guard = none) (y z : Operand) (B : Nat) (t e : TypeId) (bytes : Nat) (k : IntKind)
    (hop : o.op = Op.makeSlice t y z) (ht : P.underlying t = some (.slice e)) (hi : (P.info? e).map (fun i => (i.zero, i.size, i.bytes)) = some (some (.int k 0), 1, bytes)) (h0 : (Lit.int k 0).wf = true)
    (kl kc : IntKind) (L C : Int) (n : Nat) (hl : a.eval y = .int kl L) (hc : a.eval z = .int kc C) (hL : L = (n : Int)) (hC : C = (n : Int)) (b2 : bytes * n ≤ 281474976710656) (hb1 : 1 ≤ bytes) (b4 : B ≤ w.heap.size)
    (hK : ∀ w', Own B w' e k (.slice (some ⟨w.heap.size, 0, none⟩) n n) (List.replicate n 0) → w.grownBy w' none → wpList P ops Q rest (a.put o.dst (.slice (some ⟨w.heap.size, 0, none⟩) n n)) w') :
    wpList P ops Q (o :: rest) a w := by
  obtain ⟨i, hi1, hi2, hi3, hi4⟩ := info_parts hi
  have hn : n ≤ 281474976710656 := Nat.le_trans (Nat.le_mul_of_pos_left _ (by omega)) b2
  refine wpList_make_full w hg y z t hop B e i (.int k 0) 1 ht hi1 hi2 hi3 kl kc L C n hl hc hL hC (by rw [hi4]; exact b2) (by simp only [maxLen]; omega) b4 fun w' h1 h2 => hK w' ⟨?_, fun x hx => ?_⟩ h2
  · have e1 : (madeCells (Value.int k 0).cells (n * 1)).toList = (List.replicate n 0).map (Value.int k) := by
      rw [List.map_replicate]
      apply List.ext_getElem
      · simp [madeCells]
      · intro j h1 h2
        simp [madeCells, Value.cells, Nat.mod_one]
    rw [e1] at h1
    simpa using h1
  · rw [List.eq_of_mem_replicate hx]
    exact h0
end Go.Proofs.YtecgldkhjgcffaaDoor
/- bytes.Clone. -/
namespace Go.Proofs.YtecgldkhjgcffaaDoor
open Go.RowKit

theorem clone_any (v : Value) (l : List Int) (w : World) (h : Row w .u8 v l) (hl : l.length ≤ 140737488355328) :
    Calls Tryd.prog 57 #[v] w (Ret w (fun v' w' => Own w.heap.size w' 5 .u8 v' l)) := by
  obtain ⟨A, c, rfl, h2, h3, h4, h5, h6⟩ := h
  have hq := fun (W : World) (A : Option Addr) (n c : Nat) => Lib.run_eql_slice_nil (P := Tryd.prog) W 22 5 A n c 0 0 Tryd.underlying22
  rcases A with _ | ad
  · have hc := h4 rfl
    have hl : l = [] := List.eq_nil_of_length_eq_zero (by omega)
    subst hl
    subst hc
    clear h6 h5 h4
    go_enter Tryd.func57, Tryd.ntmps57
    go_wp2
    go_ret
    exact Ret.mk (Own.nil _ _ _ _) (Ext.refl _)
  · have h : Row w .u8 (.slice (some ad) l.length c) l := ⟨_, _, rfl, h2, h3, h4, h5, h6⟩
    clear h6 h5 h4
    go_enter Tryd.func57, Tryd.ntmps57
    go_wp2_with (at_builtin; go_loud (refine wpList_app _ rfl _ _ w.heap.size 22 5 _ 1 .u8 rfl Tryd.underlying22 info8 rfl (by omega) _ [] rfl (Own.made _ _ _ _ (Nat.le_refl _)) _ l rfl ?hh (by simp; omega) (by simp) ?_))
    case hh => exact h.ext ((Ext.refl _).alloc _)
    intro v' w' ho hg _
    go_wp2
    go_ret
    exact Ret.mk (by simpa using ho) (((Ext.refl _).alloc _).grown hg (fun g hg => by simp [Value.ownBlock] at hg; omega))

end Go.Proofs.YtecgldkhjgcffaaDoor
/- Lists of constants that a call has made; append onto them. -/
namespace Go.Proofs.YtecgldkhjgcffaaDoor
open Go.RowKit
set_option linter.unusedVariables false

/-- The list as append lays it: a row of the call's own. -/
def OwnC (B : Nat) (w : World) (T : TypeId) (v : Value) (l : List Cst) : Prop := w.ownsRow B T 6 v l.length (l.flatMap fun x => x.vals.toList) ∧ ∀ x ∈ l, x.ok
theorem vals_len (x : Cst) : x.vals.toList.length = 6 := rfl
theorem cells_len (l : List Cst) : (l.flatMap fun x => x.vals.toList).length = l.length * 6 := by
  induction l with
  | nil => rfl
  | cons x l ih => rw [List.flatMap_cons, List.length_append, ih, vals_len, List.length_cons]; omega
theorem cells_at : ∀ (l : List Cst) (j i : Nat), j < l.length → i < 6 → (l.flatMap fun x => x.vals.toList)[j * 6 + i]? = (gc l j).vals[i]? := by
  intro l
  induction l with
  | nil => intro j i h; simp at h
  | cons x l ih =>
    intro j i hj hi
    rw [List.flatMap_cons]
    match j with
    | 0 =>
      rw [List.getElem?_append_left (by rw [vals_len]; omega)]
      simp [gc]
    | j + 1 =>
      rw [List.getElem?_append_right (by rw [vals_len]; omega), vals_len, show (j + 1) * 6 + i - 6 = j * 6 + i by omega, ih j i (by simpa using hj) hi]
      simp [gc]
theorem OwnC.row {B : Nat} {w : World} {T : TypeId} {v : Value} {l : List Cst} (h : OwnC B w T v l) : RowC w v l := by
  obtain ⟨⟨h1, h2⟩, hf⟩ := h
  rcases h2 with ⟨rfl, h0⟩ | ⟨g, cap, cur, rfl, hb, hg, hn, hm, hs, ht⟩
  · exact ⟨none, 0, by rw [h0], by omega, by simp [maxLen], fun _ => rfl, hf, fun hp => by omega⟩
  · refine ⟨_, _, rfl, hn, hm, (fun h => by cases h), hf, fun _ => ⟨g, 0, rfl, lt_of_get hg, fun j hj => ?_⟩⟩
    have hx : ∀ i, i < 6 → w.cell? ⟨g, j * 6 + i, none⟩ = (gc l j).vals[i]? := fun i hi => by
      have e1 := cells_at l j i hj hi
      rw [← ht, List.getElem?_take_of_lt (by omega)] at e1
      rw [cell_of_row w g _ cur T (0, 0) hg, ← e1]
      simp
    rw [Nat.zero_add]
    exact ⟨hx 0 (by omega), hx 1 (by omega), hx 2 (by omega), hx 3 (by omega), hx 4 (by omega), hx 5 (by omega)⟩
theorem OwnC.nil (B : Nat) (w : World) (T : TypeId) : OwnC B w T (.slice none 0 0) [] := ⟨World.ownsRow_nil w B T 6, fun _ h => by cases h⟩
theorem OwnC.ext {B : Nat} {w w' : World} {T : TypeId} {v : Value} {l : List Cst} (h : OwnC B w T v l) (he : Ext w w') : OwnC B w' T v l := by
  obtain ⟨⟨h1, h2⟩, hf⟩ := h
  refine ⟨⟨h1, ?_⟩, hf⟩
  rcases h2 with h2 | ⟨g, cap, cur, hv, hb, hg, hr⟩
  · exact .inl h2
  · exact .inr ⟨g, cap, cur, hv, hb, (he.block g (lt_of_get hg)).trans hg, hr⟩
theorem OwnC.low {B : Nat} {w : World} {T : TypeId} {v : Value} {l : List Cst} (h : OwnC B w T v l) : ∀ g, v.ownBlock = some g → B ≤ g := fun g hg => (World.ownsRow.lt h.1 g hg).1
theorem OwnC.high {B : Nat} {w : World} {T : TypeId} {v : Value} {l : List Cst} (h : OwnC B w T v l) : ∀ g, v.ownBlock = some g → g < w.heap.size := fun g hg => (World.ownsRow.lt h.1 g hg).2
theorem OwnC.kept {B : Nat} {w w' : World} {T : TypeId} {v : Value} {l : List Cst} (h : OwnC B w T v l) {row : Option Nat} (hg : w.grownBy w' row) (hne : ∀ g, v.ownBlock = some g → row ≠ some g) : OwnC B w' T v l := by
  obtain ⟨⟨h1, h2⟩, hf⟩ := h
  refine ⟨⟨h1, ?_⟩, hf⟩
  rcases h2 with h2 | ⟨g, cap, cur, hv, hb, hg', hr⟩
  · exact .inl h2
  · refine .inr ⟨g, cap, cur, hv, hb, (hg.block g (lt_of_get hg') ?_).trans hg', hr⟩
    exact fun e => hne g (by rw [hv]; rfl) e.symm

theorem vals_one (x : Cst) : ∀ u ∈ x.vals.toList, u.oneCell' = true := by
  intro u hu
  have h6 : u = .int .i64 x.k ∨ u = .string x.t ∨ u = .int .i64 x.n ∨ u = .int .i64 x.a ∨ u = .int .i64 x.b ∨ u = .int .i64 x.c := by simpa [Cst.vals] using hu
  rcases h6 with rfl | rfl | rfl | rfl | rfl | rfl <;> rfl
theorem cells_one (l : List Cst) : ∀ u ∈ (l.flatMap fun x => x.vals.toList), u.oneCell' = true := by
  intro u hu
  obtain ⟨x, _, hx⟩ := List.mem_flatMap.1 hu
  exact vals_one x u hx
/-- One constant in a block reads as a list. -/
theorem RowC.one {w : World} {g : Nat} {T : TypeId} {x : Cst} (h : w.heap[g]? = some (.cells x.vals T (0, 0))) (hx : x.ok) : RowC w (.slice (some ⟨g, 0, none⟩) 1 1) [x] := by
  refine ⟨_, _, rfl, Nat.le_refl _, by simp [maxLen], (fun h => by cases h), fun y hy => by rw [List.mem_singleton.1 hy]; exact hx, fun _ => ⟨g, 0, rfl, lt_of_get h, fun j hj => ?_⟩⟩
  have : j = 0 := by simp at hj; omega
  subst this
  have e : ∀ i, w.cell? ⟨g, i, none⟩ = x.vals[i]? := fun i => by rw [cell_of_row w g i _ T (0, 0) h]
  exact ⟨e 0, e 1, e 2, e 3, e 4, e 5⟩
/-- append of constants onto a row of the call's own. -/
theorem run_appC {P : Program} (w : World) (B : Nat) (t ty e : TypeId) (z : Value) (bytes : Nat) (ht : P.underlying t = some (.slice e))
    (hi : (P.info? e).map (fun i => (i.zero, i.size, i.bytes)) = some (some z, 6, bytes)) (hz : z.cells.size = 6)
    (v : Value) (l : List Cst) (ho : OwnC B w e v l) (x : Value) (m : List Cst) (hr : RowC w x m)
    (hb : (l.length + m.length) * bytes ≤ 140737488355328) (hb1 : 1 ≤ bytes) (hB : B ≤ w.heap.size) :
    ∃ v' w', (Builtin.append_ #[t, t] ty #[v, x]).run P w = .ok v' w' ∧ OwnC B w' e v' (l ++ m) ∧ w.grownBy w' v.ownBlock ∧ (v'.ownBlock = v.ownBlock ∨ v'.ownBlock = some w.heap.size) := by
  obtain ⟨i, hi1, hi2, hi3, hi4⟩ := info_parts hi
  obtain ⟨A, c, rfl, h2, h3, h4, h5, h6⟩ := hr
  have hfit : ∀ y ∈ l ++ m, y.ok := fun y hy => (List.mem_append.1 hy).elim (ho.2 y) (h5 y)
  have hlen : l.length + m.length ≤ 140737488355328 := Nat.le_trans (Nat.le_mul_of_pos_right _ (by omega)) hb
  rcases A with _ | ad
  · have hc := h4 rfl
    have hm : m = [] := List.eq_nil_of_length_eq_zero (by omega)
    subst hm
    refine ⟨v, w, ?_, by simpa using ho, World.grownBy.refl w _, .inl rfl⟩
    rcases ho.1.2 with ⟨rfl, _⟩ | ⟨g, cap, cur, rfl, _, _, hnc, _⟩
    · simp [Builtin.append_, run_underlying ht, sizeOf, typeInfo, hi1, Builtin.lenOf, Builtin.firstCells]
    · simp [Builtin.append_, run_underlying ht, sizeOf, typeInfo, hi1, Builtin.lenOf, Builtin.firstCells, hnc, storeCells]
  · have hcells : ∀ j u, (m.flatMap fun x => x.vals.toList)[j]? = some u → w.cell? (ad.add j) = some u := by
      intro j u hu
      have hj : j < m.length * 6 := by
        have := (List.getElem?_eq_some_iff.1 hu).1
        rwa [cells_len] at this
      obtain ⟨b, o, hA, _, hc⟩ := h6 (by omega)
      injection hA with hA
      subst hA
      obtain ⟨q, r, hqr, hr6⟩ : ∃ q r, j = q * 6 + r ∧ r < 6 := ⟨j / 6, j % 6, by omega, by omega⟩
      subst hqr
      rw [cells_at m q r (by omega) hr6] at hu
      obtain ⟨a0, a1, a2, a3, a4, a5⟩ := hc q (by omega)
      rw [Addr.add_lit, ← hu, ← Nat.add_assoc]
      match r, hr6 with
      | 0, _ => exact a0
      | 1, _ => exact a1
      | 2, _ => exact a2
      | 3, _ => exact a3
      | 4, _ => exact a4
      | 5, _ => exact a5
    obtain ⟨v', w', hrun, k2, k3, _, k5⟩ := run_append_own_at (P := P) w B t ty e i z 6 bytes ht hi1 hi2 hi3 hi4 hz (by omega) v l.length (l.flatMap fun x => x.vals.toList) ho.1 ad m.length c (m.flatMap fun x => x.vals.toList) (cells_len m) hcells (cells_one m) (by simp only [maxLen]; omega) hb hB
    refine ⟨v', w', hrun, ⟨?_, hfit⟩, k3, k5⟩
    rw [List.flatMap_append, List.length_append]
    exact k2
theorem wpList_appC {P : Program} (w : World) {ops : Array Oper} {rest : List Oper} {o : Oper} {a : Act} {Q : Exit → Act → World → Prop} (hgd : Region.wanted o (yielded ops a.tmps) = true) (s y : Operand) (B : Nat) (t e : TypeId) (z : Value) (bytes : Nat)
    (hop : o.op = .call { callee := .builtin .append, args := #[s, y], argTypes := #[t, t] }) (ht : P.underlying t = some (.slice e))
    (hi : (P.info? e).map (fun i => (i.zero, i.size, i.bytes)) = some (some z, 6, bytes)) (hz : z.cells.size = 6) (hb1 : 1 ≤ bytes)
    (v : Value) (l : List Cst) (hs : a.eval s = v) (ho : OwnC B w e v l) (x : Value) (m : List Cst) (hx : a.eval y = x) (hr : RowC w x m)
    (hb : (l.length + m.length) * bytes ≤ 140737488355328) (hB : B ≤ w.heap.size)
    (h : ∀ v' w', OwnC B w' e v' (l ++ m) → w.grownBy w' v.ownBlock → (v'.ownBlock = v.ownBlock ∨ v'.ownBlock = some w.heap.size) → wpList P ops Q rest (a.put o.dst v') w') :
    wpList P ops Q (o :: rest) a w := by
  refine wpList_step fun K hK => ?_
  rw [if_pos hgd]
  obtain ⟨v', w', hrun, h2, h3, h4⟩ := run_appC (P := P) w B t o.type e z bytes ht hi hz v l ho x m hr hb hb1 hB
  unfold Oper.wp execOp
  simp only [hop, resolve, invoke, builtin, Sem.run_bind, Sem.run_pure, Result.andThen_ok, List.map_toArray, List.map_cons, List.map_nil, hs, hx, hrun]
  exact hK _ _ (h v' w' h2 h3 h4)
/-- The same as one step of a region that draws. -/
theorem step_appC {P : Program} {ops : Array Oper} {o : Oper} {a : Act} {w : World} {K : Act → World → Prop} {Q : Exit → Act → World → Prop} {E : Prop} (hgd : o.guard = none) (s y : Operand) (B : Nat) (t e : TypeId) (z : Value) (bytes : Nat)
    (hop : o.op = .call { callee := .builtin .append, args := #[s, y], argTypes := #[t, t] }) (ht : P.underlying t = some (.slice e))
    (hi : (P.info? e).map (fun i => (i.zero, i.size, i.bytes)) = some (some z, 6, bytes)) (hz : z.cells.size = 6) (hb1 : 1 ≤ bytes)
    (v : Value) (l : List Cst) (hs : a.eval s = v) (ho : OwnC B w e v l) (x : Value) (m : List Cst) (hx : a.eval y = x) (hr : RowC w x m)
    (hb : (l.length + m.length) * bytes ≤ 140737488355328) (hB : B ≤ w.heap.size)
    (h : ∀ v' w', OwnC B w' e v' (l ++ m) → w.grownBy w' v.ownBlock → (v'.ownBlock = v.ownBlock ∨ v'.ownBlock = some w.heap.size) → K (a.put o.dst v') w') :
    if Region.wanted o (yielded ops a.tmps) = true then Oper.wp P o a w K Q else E := by
  have hw : Region.wanted o (yielded ops a.tmps) = true := by simp [Region.wanted, hgd]
  rw [if_pos hw]
  obtain ⟨v', w', hrun, h2, h3, h4⟩ := run_appC (P := P) w B t o.type e z bytes ht hi hz v l ho x m hr hb hb1 hB
  unfold Oper.wp execOp
  simp only [hop, resolve, invoke, builtin, Sem.run_bind, Sem.run_pure, Result.andThen_ok, List.map_toArray, List.map_cons, List.map_nil, hs, hx, hrun]
  exact h v' w' h2 h3 h4
end Go.Proofs.YtecgldkhjgcffaaDoor
/- What the second form's bound gives of a list of bytes and of a text. -/
namespace Go.Proofs.YtecgldkhjgcffaaDoor
theorem bulk_one {H : Type} (d : DataW H) : 1 ≤ Rows.uptoBulk d := by
  cases d with
  | lit l => cases l <;> simp [Rows.uptoBulk]
  | _ => simp [Rows.uptoBulk]
theorem bulk_part {H : Type} {d : DataW H} {l : List (DataW H)} (h : d ∈ l) : Rows.uptoBulk d ≤ Rows.uptoBulkAll l := by
  induction l with
  | nil => cases h
  | cons x r ih =>
    simp only [Rows.uptoBulkAll]
    rcases List.mem_cons.1 h with rfl | h
    · omega
    · have := ih h
      omega
theorem bulk_len {H : Type} (l : List (DataW H)) : l.length ≤ Rows.uptoBulkAll l := by
  induction l with
  | nil => simp
  | cons x r ih =>
    have := bulk_one x
    simp only [Rows.uptoBulkAll, List.length_cons]
    omega
theorem bulk_slice {H : Type} (elems spare : List (DataW H)) : elems.length + spare.length ≤ Rows.uptoBulk (.slice elems spare) := by
  have h1 := bulk_len elems
  have h2 := bulk_len spare
  simp only [Rows.uptoBulk]
  omega
theorem bulk_string {H : Type} (b : List UInt8) : Rows.uptoBulk (DataW.lit (.string b) : DataW H) = b.length + 1 := by
  simp [Rows.uptoBulk]
theorem bulk_bound {H : Type} {l : List (DataW H)} (hk : Rows.uptoSmall H l = true) : Rows.uptoBulkAll l ≤ 1048576 := of_decide_eq_true hk
end Go.Proofs.YtecgldkhjgcffaaDoor
