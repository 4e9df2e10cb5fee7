/- Several texts of this proof, one behind the other. -/
import Derived.WalkKit
import Derived.BigQuiet
import Derived.IntWalk
import Derived.Lib.Hide
import Derived.Maps.AppendAt
import Derived.Deep.AppendLies
import Derived.Deep.Draws
import Derived.ScopeJumps
import Derived.Laws.BitsAllLaws
import Derived.Laws.BitsLemmas
import Derived.OwnWalk
import Derived.Laws.MakeOwn
import Derived.Test.YtkkfkjjmmdpafaaDoorRows
import Derived.ProofKit
import Derived.OpenShut
import Derived.ShutString
import Derived.ChangeOld
import Derived.SizedLaws
import Derived.Lib.ValidLaws
import Derived.Deep.Slices
import Derived.Deep.Fields
import Derived.ChangeSame
namespace Go.Proofs.YtkkfkjjmmdpafaaDoor
open Go.RowKit

def gi (l : List Int) (j : Nat) : Int := l.getD j 0

def Ext (w w' : World) : Prop := Below w.heap.size w w'

def Fit (k : IntKind) (l : List Int) : Prop := ∀ x ∈ l, (Lit.int k x).wf = true

def Row (w : World) (k : IntKind) (v : Value) (l : List Int) : Prop :=
  ∃ (A : Option Addr) (c : Nat), v = .slice A l.length c ∧ l.length ≤ c ∧ c ≤ maxLen ∧ (A = none → c = 0) ∧ Fit k l ∧
    (0 < l.length → ∃ b o, A = some ⟨b, o, none⟩ ∧ b < w.heap.size ∧ ∀ j, j < l.length → w.cell? ⟨b, o + j, none⟩ = some (.int k (gi l j)))

def Own (B : Nat) (w : World) (e : TypeId) (k : IntKind) (v : Value) (l : List Int) : Prop :=
  w.ownsRow B e 1 v l.length (l.map (Value.int k)) ∧ Fit k l

def Ret (w : World) (F : Value → World → Prop) (e : Ending) (w' : World) : Prop := ∃ v, e = .returned v ∧ F v w' ∧ Ext w w'

theorem Ext.refl (w : World) : Ext w w := Below.refl _ _
theorem Ext.size {w w' : World} (h : Ext w w') : w.heap.size ≤ w'.heap.size := Below.size h
theorem Ext.trans {a b c : World} (h : Ext a b) (k : Ext b c) : Ext a c := Below.trans h (Below.mono k h.size)
theorem Ext.alloc {a w : World} (h : Ext a w) (o : Obj) : Ext a (w.alloc o) := Below.alloc h h.size o
theorem Ext.drew {a w : World} (h : Ext a w) : Ext a w.drew := Below.drew h
theorem Ext.drewN {a w : World} (h : Ext a w) (n : Nat) : Ext a (w.drewN n) := ⟨h.os, h.tape, h.output, h.size, h.block⟩
theorem Ext.grown {a w w' : World} (h : Ext a w) {row : Option Nat} (hg : w.grownBy w' row) (hr : ∀ g, row = some g → a.heap.size ≤ g) : Ext a w' := Below.grown h hg h.size hr
theorem Ext.cell {w w' : World} (h : Ext w w') {p : Addr} (hp : p.block < w.heap.size) : w'.cell? p = w.cell? p := Below.cell h hp
theorem Ext.set_ {a w : World} (h : Ext a w) {p : Addr} (hp : a.heap.size ≤ p.block) (u : Value) : Ext a (w.setCell p u) := Below.setCell h hp u

theorem lt_of_get {w : World} {g : Nat} {o : Obj} (h : w.heap[g]? = some o) : g < w.heap.size := by
  rcases Nat.lt_or_ge g w.heap.size with hlt | hge
  · exact hlt
  · rw [Array.getElem?_eq_none hge] at h; cases h

theorem Fit.nil (k : IntKind) : Fit k [] := fun _ h => by cases h
theorem Fit.app {k : IntKind} {l m : List Int} (h : Fit k l) (h' : Fit k m) : Fit k (l ++ m) := fun x hx => (List.mem_append.1 hx).elim (h x) (h' x)
theorem Fit.drop {k : IntKind} {l : List Int} (h : Fit k l) (n : Nat) : Fit k (l.drop n) := fun x hx => h x (List.mem_of_mem_drop hx)
theorem Fit.take {k : IntKind} {l : List Int} (h : Fit k l) (n : Nat) : Fit k (l.take n) := fun x hx => h x (List.mem_of_mem_take hx)
theorem Fit.u8 {l : List Int} (h : Fit .u8 l) {x : Int} (hx : x ∈ l) : 0 ≤ x ∧ x < 256 := by
  have := h x hx
  simp [Lit.wf, IntKind.min, IntKind.max, IntKind.signed, IntKind.bits] at this
  omega
theorem gi_mem {l : List Int} {j : Nat} (h : j < l.length) : gi l j ∈ l := by
  unfold gi
  rw [List.getD_eq_getElem?_getD, List.getElem?_eq_getElem h]
  exact List.getElem_mem h

section
variable {w w' : World} {k : IntKind} {v : Value} {l : List Int}
theorem Row.ext (h : Row w k v l) (he : Ext w w') : Row w' k v l := by
  obtain ⟨A, c, h1, h2, h3, h4, h5, h6⟩ := h
  refine ⟨A, c, h1, h2, h3, h4, h5, fun hl => ?_⟩
  obtain ⟨b, o, ha, hb, hc⟩ := h6 hl
  exact ⟨b, o, ha, Nat.lt_of_lt_of_le hb he.size, fun j hj => (he.cell (p := ⟨b, o + j, none⟩) hb).trans (hc j hj)⟩
theorem Row.fit (h : Row w k v l) : Fit k l := by
  obtain ⟨A, c, h1, h2, h3, h4, h5, h6⟩ := h
  exact h5
theorem Row.head {w : World} {k : IntKind} {A : Option Addr} {n c : Nat} {l : List Int} (h : Row w k (.slice A n c) l) (m : Nat) (hm : m ≤ l.length) :
    Row w k (.slice A m c) (l.take m) := by
  obtain ⟨A, c', h1, h2, h3, h4, h5, h6⟩ := h
  injection h1 with e1 e2 e3
  subst e1 e2 e3
  have hlen : (l.take m).length = m := by simp; omega
  refine ⟨_, _, by rw [hlen], by omega, h3, h4, h5.take m, fun hl => ?_⟩
  obtain ⟨b, o, ha, hb, hc⟩ := h6 (by omega)
  refine ⟨b, o, ha, hb, fun j hj => ?_⟩
  rw [hc j (by omega)]
  simp [gi, show j < m by omega]
theorem Row.tail {w : World} {k : IntKind} {b o n c : Nat} {l : List Int} (h : Row w k (.slice (some ⟨b, o, none⟩) n c) l) (m : Nat) (hm : m ≤ l.length) :
    Row w k (.slice (some ⟨b, o + m, none⟩) (n - m) (c - m)) (l.drop m) := by
  obtain ⟨A, c', h1, h2, h3, h4, h5, h6⟩ := h
  injection h1 with e1 e2 e3
  subst e1 e2 e3
  have hlen : (l.drop m).length = l.length - m := by simp
  refine ⟨_, _, by rw [hlen], by omega, by omega, (fun h => by cases h), h5.drop m, fun hl => ?_⟩
  obtain ⟨b', o', ha, hb, hc⟩ := h6 (by omega)
  injection ha with ha
  injection ha with e1 e2
  subst e1 e2
  refine ⟨_, _, rfl, hb, fun j hj => ?_⟩
  rw [Nat.add_assoc, hc (m + j) (by omega)]
  simp [gi, List.getElem?_drop]
theorem Row.zero (w : World) (k : IntKind) (A : Addr) {n c : Nat} (hn : n = 0) (hc : c ≤ maxLen) : Row w k (.slice (some A) n c) [] := by
  subst hn
  exact ⟨_, _, rfl, by simp, hc, (fun h => by cases h), Fit.nil k, fun h => by simp at h⟩
theorem Own.fit {B : Nat} {e : TypeId} (h : Own B w e k v l) : Fit k l := h.2
theorem Own.row {B : Nat} {e : TypeId} (h : Own B w e k v l) : Row w k v l := by
  obtain ⟨⟨h1, h2⟩, hf⟩ := h
  rcases h2 with ⟨rfl, h0⟩ | ⟨g, cap, cur, rfl, hb, hg, hn, hm, hs, ht⟩
  · exact ⟨none, 0, by rw [h0], by omega, by simp [maxLen], fun _ => rfl, hf, fun hp => by omega⟩
  · refine ⟨_, _, rfl, hn, hm, (fun h => by cases h), hf, fun _ => ⟨g, 0, rfl, lt_of_get hg, fun j hj => ?_⟩⟩
    have hj' : j < cur.size := by omega
    have e1 : (cur.toList.take (l.length * 1))[j]? = (l.map (Value.int k))[j]? := by rw [ht]
    rw [List.getElem?_take_of_lt (by omega)] at e1
    simp [hj, hj'] at e1
    rw [cell_of_row w g (0 + j) cur e (0, 0) hg]
    simp [gi, hj, hj', e1]
theorem Own.ext {B : Nat} {e : TypeId} (h : Own B w e k v l) (he : Ext w w') : Own B w' e k v l := by
  obtain ⟨⟨h1, h2⟩, hf⟩ := h
  refine ⟨⟨h1, ?_⟩, hf⟩
  rcases h2 with h2 | ⟨g, cap, cur, hv, hb, hg, hr⟩
  · exact .inl h2
  · exact .inr ⟨g, cap, cur, hv, hb, (he.block g (lt_of_get hg)).trans hg, hr⟩
theorem Own.nil (B : Nat) (w : World) (e : TypeId) (k : IntKind) : Own B w e k (.slice none 0 0) [] := ⟨World.ownsRow_nil w B e 1, Fit.nil k⟩
theorem Own.made (B : Nat) (w : World) (e : TypeId) (k : IntKind) (hB : B ≤ w.heap.size) : Own B (w.alloc (.cells #[] e)) e k (.slice (some ⟨w.heap.size, 0, none⟩) 0 0) [] :=
  ⟨World.ownsRow_made w #[] 0 hB (by simp [maxLen]) (by simp), Fit.nil k⟩
theorem Own.low {B : Nat} {e : TypeId} (h : Own B w e k v l) : ∀ g, v.ownBlock = some g → B ≤ g := fun g hg => (World.ownsRow.lt h.1 g hg).1
theorem Own.base {B B' : Nat} {e : TypeId} (h : Own B w e k v l) (hB : B' ≤ B) : Own B' w e k v l := by
  obtain ⟨⟨h1, h2⟩, hf⟩ := h
  refine ⟨⟨h1, ?_⟩, hf⟩
  rcases h2 with h2 | ⟨g, cap, cur, hv, hb, hr⟩
  · exact .inl h2
  · exact .inr ⟨g, cap, cur, hv, by omega, hr⟩
end
theorem ints_one (k : IntKind) (l : List Int) : ∀ u ∈ l.map (Value.int k), u.oneCell' = true := by
  intro u hu
  obtain ⟨_, _, rfl⟩ := List.mem_map.1 hu
  rfl

theorem run_app {P : Program} (w : World) (B : Nat) (t ty e : TypeId) (z : Value) (bytes : Nat) (k : IntKind) (ht : P.underlying t = some (.slice e))
    (hi : (P.info? e).map (fun i => (i.zero, i.size, i.bytes)) = some (some z, 1, bytes)) (hz : z.cells.size = 1)
    (v : Value) (l : List Int) (ho : Own B w e k v l) (x : Value) (m : List Int) (hr : Row w k x m)
    (hb : (l.length + m.length) * bytes ≤ 140737488355328) (hb1 : 1 ≤ bytes) (hB : B ≤ w.heap.size) :
    ∃ v' w', (Builtin.append_ #[t, t] ty #[v, x]).run P w = .ok v' w' ∧ Own B w' e k v' (l ++ m) ∧ w.grownBy w' v.ownBlock ∧ (v'.ownBlock = v.ownBlock ∨ v'.ownBlock = some w.heap.size) := by
  obtain ⟨i, hi1, hi2, hi3, hi4⟩ := info_parts hi
  obtain ⟨A, c, rfl, h2, h3, h4, h5, h6⟩ := hr
  have hfit : Fit k (l ++ m) := ho.2.app h5
  have hlen : l.length + m.length ≤ 140737488355328 := Nat.le_trans (Nat.le_mul_of_pos_right _ (by omega)) hb
  rcases A with _ | ad
  · have hc := h4 rfl
    have hm : m = [] := List.eq_nil_of_length_eq_zero (by omega)
    subst hm
    refine ⟨v, w, ?_, by simpa using ho, World.grownBy.refl w _, .inl rfl⟩
    rcases ho.1.2 with ⟨rfl, _⟩ | ⟨g, cap, cur, rfl, _, _, hnc, _⟩
    · simp [Builtin.append_, run_underlying ht, sizeOf, typeInfo, hi1, Builtin.lenOf, Builtin.firstCells]
    · simp [Builtin.append_, run_underlying ht, sizeOf, typeInfo, hi1, Builtin.lenOf, Builtin.firstCells, hnc, storeCells]
  · have hcells : ∀ j u, (m.map (Value.int k))[j]? = some u → w.cell? (ad.add j) = some u := by
      intro j u hu
      have hj : j < m.length := by
        have := (List.getElem?_eq_some_iff.1 hu).1
        simpa using this
      obtain ⟨b, o, hA, _, hc⟩ := h6 (by omega)
      injection hA with hA
      subst hA
      rw [Addr.add_lit, hc j hj]
      simp [hj] at hu
      simp [gi, hj, ← hu]
    obtain ⟨v', w', hrun, k2, k3, _, k5⟩ := run_append_own_at (P := P) w B t ty e i z 1 bytes ht hi1 hi2 hi3 hi4 hz (by omega) v l.length (l.map (Value.int k)) ho.1 ad m.length c (m.map (Value.int k)) (by simp) hcells (ints_one k m) (by simp only [maxLen]; omega) hb hB
    refine ⟨v', w', hrun, ⟨?_, hfit⟩, k3, k5⟩
    simpa using k2

theorem wpList_app {P : Program} (w : World) {ops : Array Oper} {rest : List Oper} {o : Oper} {a : Act} {Q : Exit → Act → World → Prop} (hgd : Region.wanted o (yielded ops a.tmps) = true) (s y : Operand) (B : Nat) (t e : TypeId) (z : Value) (bytes : Nat) (k : IntKind)
    (hop : o.op = .call { callee := .builtin .append, args := #[s, y], argTypes := #[t, t] }) (ht : P.underlying t = some (.slice e))
    (hi : (P.info? e).map (fun i => (i.zero, i.size, i.bytes)) = some (some z, 1, bytes)) (hz : z.cells.size = 1) (hb1 : 1 ≤ bytes)
    (v : Value) (l : List Int) (hs : a.eval s = v) (ho : Own B w e k v l) (x : Value) (m : List Int) (hx : a.eval y = x) (hr : Row w k x m)
    (hb : (l.length + m.length) * bytes ≤ 140737488355328) (hB : B ≤ w.heap.size)
    (h : ∀ v' w', Own B w' e k v' (l ++ m) → w.grownBy w' v.ownBlock → (v'.ownBlock = v.ownBlock ∨ v'.ownBlock = some w.heap.size) → wpList P ops Q rest (a.put o.dst v') w') :
    wpList P ops Q (o :: rest) a w := by
  refine wpList_step fun K hK => ?_
  rw [if_pos hgd]
  obtain ⟨v', w', hrun, h2, h3, h4⟩ := run_app (P := P) w B t o.type e z bytes k ht hi hz v l ho x m hr hb hb1 hB
  unfold Oper.wp execOp
  simp only [hop, resolve, invoke, builtin, Sem.run_bind, Sem.run_pure, Result.andThen_ok, List.map_toArray, List.map_cons, List.map_nil, hs, hx, hrun]
  exact hK _ _ (h v' w' h2 h3 h4)

theorem Row.built (w : World) (k : IntKind) (t : TypeId) (l : List Int) (hf : Fit k l) (hl : l.length ≤ 65536) :
    Row (w.alloc (.cells (l.map (Value.int k)).toArray t)) k (.slice (some ⟨w.heap.size, 0, none⟩) l.length l.length) l := by
  refine ⟨_, _, rfl, Nat.le_refl _, by simp only [maxLen]; omega, (fun h => by cases h), hf, fun _ => ⟨_, _, rfl, by simp, fun j hj => ?_⟩⟩
  rw [cell_of_row (w.alloc (.cells (l.map (Value.int k)).toArray t)) w.heap.size (0 + j) _ t (0, 0) (heap_alloc_new w _)]
  simp [gi, hj]

theorem Row.built1 (w : World) (k : IntKind) (t : TypeId) (x : Int) (hx : (Lit.int k x).wf = true) :
    Row (w.alloc (.cells #[.int k x] t)) k (.slice (some ⟨w.heap.size, 0, none⟩) 1 1) [x] :=
  Row.built w k t [x] (fun y hy => by rw [List.mem_singleton.1 hy]; exact hx) (by simp)
theorem Ret.mk {w w' : World} {F : Value → World → Prop} {v : Value} (hF : F v w') (he : Ext w w') : Ret w F (.returned v) w' := ⟨v, rfl, hF, he⟩
end Go.Proofs.YtkkfkjjmmdpafaaDoor
namespace Go.Proofs.YtkkfkjjmmdpafaaDoor
open Go.RowKit
set_option linter.unusedVariables false

section
variable {w w' : World} {B : Nat} {e : TypeId} {k : IntKind} {v : Value} {l : List Int}
theorem Own.parts (h : Own B w e k v l) (hl : 0 < l.length) :
    ∃ g c, v = .slice (some ⟨g, 0, none⟩) l.length c ∧ B ≤ g ∧ g < w.heap.size ∧ l.length ≤ c ∧ c ≤ maxLen ∧
      (∀ j, j < l.length → w.cell? ⟨g, j, none⟩ = some (.int k (gi l j))) ∧ (∀ j, w.frozen? ⟨g, j, none⟩ = false) := by
  obtain ⟨⟨h1, h2⟩, hf⟩ := h
  rcases h2 with ⟨rfl, h0⟩ | ⟨g, cap, cur, rfl, hb, hg, hn, hm, hs, ht⟩
  · omega
  · refine ⟨g, cap, rfl, hb, lt_of_get hg, hn, hm, fun j hj => ?_, fun j => by simp [World.frozen?, hg]⟩
    have hj' : j < cur.size := by omega
    have e1 : (cur.toList.take (l.length * 1))[j]? = (l.map (Value.int k))[j]? := by rw [ht]
    rw [List.getElem?_take_of_lt (by omega)] at e1
    simp [hj, hj'] at e1
    rw [cell_of_row w g j cur e (0, 0) hg]
    simp [gi, hj, hj', e1]
theorem Own.put {g n c : Nat} (h : Own B w e k (.slice (some ⟨g, 0, none⟩) n c) l) {j : Nat} {x : Int} (hj : j < l.length) (hx : (Lit.int k x).wf = true) :
    Own B (w.setCell ⟨g, j, none⟩ (.int k x)) e k (.slice (some ⟨g, 0, none⟩) n c) (l.set j x) := by
  obtain ⟨⟨h1, h2⟩, hf⟩ := h
  have hfit : Fit k (l.set j x) := fun y hy => by
    rcases List.mem_or_eq_of_mem_set hy with hy | rfl
    · exact hf y hy
    · exact hx
  rcases h2 with ⟨h0, _⟩ | ⟨g', cap, cur, hv, hb, hg, hn, hm, hs, ht⟩
  · cases h0
  · injection hv with e1 e2 e3
    injection e1 with e1
    injection e1 with e1
    subst e1 e2 e3
    refine ⟨⟨by simp, .inr ⟨g, c, cur.setIfInBounds j (.int k x), by simp, hb, ?_, by simpa using hn, hm, by simpa using hs, ?_⟩⟩, hfit⟩
    · exact heap_setCell_same w g j cur e (.int k x) hg
    · rw [Array.toList_setIfInBounds, List.take_set, List.length_set, ht, List.map_set]
end

theorem only_set {a w : World} {g : Nat} (h : a.grownBy w (some g)) (j : Nat) (u : Value) : a.grownBy (w.setCell ⟨g, j, none⟩ u) (some g) := by
  refine ⟨h.os, h.tape, h.output, by simpa [World.setCell] using h.size, fun i hi hne => ?_⟩
  rw [Below.heap_setCell w ⟨g, j, none⟩ u i (fun e => hne (by rw [e]))]
  exact h.block i hi hne
theorem Own.kept {w w' : World} {B : Nat} {e : TypeId} {k : IntKind} {v : Value} {l : List Int} (h : Own B w e k v l) {row : Option Nat} (hg : w.grownBy w' row) (hne : ∀ g, v.ownBlock = some g → row ≠ some g) : Own B w' e k v l := by
  obtain ⟨⟨h1, h2⟩, hf⟩ := h
  refine ⟨⟨h1, ?_⟩, hf⟩
  rcases h2 with h2 | ⟨g, cap, cur, hv, hb, hg', hr⟩
  · exact .inl h2
  · refine .inr ⟨g, cap, cur, hv, hb, (hg.block g (lt_of_get hg') ?_).trans hg', hr⟩
    exact fun e => hne g (by rw [hv]; rfl) e.symm
theorem Row.kept {w w' : World} {k : IntKind} {v : Value} {l : List Int} (h : Row w k v l) {row : Option Nat} (hg : w.grownBy w' row) (hne : ∀ g, v.ownBlock = some g → row ≠ some g) : Row w' k v l := by
  obtain ⟨A, c, h1, h2, h3, h4, h5, h6⟩ := h
  refine ⟨A, c, h1, h2, h3, h4, h5, fun hl => ?_⟩
  obtain ⟨b, o, ha, hb, hc⟩ := h6 hl
  refine ⟨b, o, ha, Nat.lt_of_lt_of_le hb hg.size, fun j hj => ?_⟩
  have e := hg.block b hb (fun e => hne b (by rw [h1, ha]; rfl) e.symm)
  exact (World.cell?_of_block (w := w) (a := ⟨b, o + j, none⟩) e).trans (hc j hj)

end Go.Proofs.YtkkfkjjmmdpafaaDoor
namespace Go.Proofs.YtkkfkjjmmdpafaaDoor
open Go.RowKit
set_option linter.unusedVariables false

structure Shp (α : Type) where
  T : TypeId
  n : Nat
  vals : α → Array Value
  zero : α
  nest : World → α → Prop
  nestO : Nat → World → α → Prop
  pos : 0 < n
  size : ∀ x, (vals x).size = n
  one : ∀ {w x}, nest w x → ∀ u ∈ (vals x).toList, u.oneCell' = true
  ext : ∀ {w w' x}, nest w x → Ext w w' → nest w' x
  extO : ∀ {B w w' x}, nestO B w x → Ext w w' → nestO B w' x
  low : ∀ {B w x}, nestO B w x → nest w x
  kept : ∀ {B w w' x row}, nestO B w x → w.grownBy w' row → (∀ g, row = some g → ∃ c z, w.heap[g]? = some (.cells c T z)) → nestO B w' x

section
variable {α : Type} (S : Shp α)
def Shp.el (l : List α) (j : Nat) : α := l.getD j S.zero
def Shp.At (w : World) (b o : Nat) (x : α) : Prop := ∀ i, i < S.n → w.cell? ⟨b, o + i, none⟩ = (S.vals x)[i]?
def Shp.Row (w : World) (v : Value) (l : List α) : Prop :=
  ∃ (A : Option Addr) (c : Nat), v = .slice A l.length c ∧ l.length ≤ c ∧ c ≤ maxLen ∧ (A = none → c = 0) ∧
    (0 < l.length → ∃ b o, A = some ⟨b, o, none⟩ ∧ b < w.heap.size ∧ ∀ j, j < l.length → S.At w b (o + j * S.n) (S.el l j)) ∧ ∀ x ∈ l, S.nest w x
def Shp.Own (B : Nat) (w : World) (v : Value) (l : List α) : Prop := w.ownsRow B S.T S.n v l.length (l.flatMap fun x => (S.vals x).toList) ∧ ∀ x ∈ l, S.nestO B w x
end
section
variable {α : Type} {S : Shp α} {w w' : World} {B : Nat} {v : Value} {l : List α}
theorem Shp.At.ext {b o : Nat} {x : α} (h : S.At w b o x) (he : Ext w w') (hb : b < w.heap.size) : S.At w' b o x := fun i hi => (he.cell (p := ⟨b, o + i, none⟩) hb).trans (h i hi)
theorem Shp.Row.ext (h : S.Row w v l) (he : Ext w w') : S.Row w' v l := by
  obtain ⟨A, c, h1, h2, h3, h4, h6, h7⟩ := h
  refine ⟨A, c, h1, h2, h3, h4, fun hl => ?_, fun e hm => S.ext (h7 e hm) he⟩
  obtain ⟨b, o, ha, hb, hc⟩ := h6 hl
  exact ⟨b, o, ha, Nat.lt_of_lt_of_le hb he.size, fun j hj => (hc j hj).ext he hb⟩
theorem Shp.Row.nil (S : Shp α) (w : World) : S.Row w (.slice none 0 0) [] := ⟨none, 0, rfl, Nat.le_refl _, by simp [maxLen], fun _ => rfl, fun h => by simp at h, fun _ h => by cases h⟩
theorem Shp.el_mem {j : Nat} (h : j < l.length) : S.el l j ∈ l := by
  unfold Shp.el
  rw [List.getD_eq_getElem?_getD, List.getElem?_eq_getElem h]
  exact List.getElem_mem h
theorem Shp.el_get {j : Nat} (h : j < l.length) : S.el l j = l[j] := by
  unfold Shp.el
  rw [List.getD_eq_getElem?_getD, List.getElem?_eq_getElem h]
  rfl
theorem Shp.el_of_mem {x : α} (h : x ∈ l) : ∃ i, i < l.length ∧ S.el l i = x := by
  obtain ⟨i, hi, he⟩ := List.mem_iff_getElem.1 h
  exact ⟨i, hi, by rw [S.el_get hi, he]⟩
theorem Shp.Row.cut (h : S.Row w v l) : ∃ A c, v = .slice A l.length c ∧ l.length ≤ c ∧ c ≤ maxLen ∧ (A = none → c = 0) := by
  obtain ⟨A, c, h1, h2, h3, h4, -⟩ := h
  exact ⟨A, c, h1, h2, h3, h4⟩
theorem Shp.Row.at {A : Option Addr} {n c : Nat} (h : S.Row w (.slice A n c) l) (hl : 0 < l.length) :
    ∃ b o, A = some ⟨b, o, none⟩ ∧ ∀ W, Ext w W → ∀ j, j < l.length → S.At W b (o + j * S.n) (S.el l j) ∧ S.nest W (S.el l j) := by
  obtain ⟨A', c', h1, h2, h3, h4, h6, h7⟩ := h
  obtain ⟨b, o, rfl, hb, hc⟩ := h6 hl
  injection h1 with e1 e2 e3
  subst e1 e2 e3
  exact ⟨b, o, rfl, fun W e j hj => ⟨(hc j hj).ext e hb, S.ext (h7 _ (S.el_mem hj)) e⟩⟩
theorem Shp.Row.low (h : S.Row w v l) : ∀ x ∈ l, S.nest w x := by
  obtain ⟨A, c, h1, h2, h3, h4, h6, h7⟩ := h
  exact h7
theorem Shp.flat_len (l : List α) : (l.flatMap fun x => (S.vals x).toList).length = l.length * S.n := by
  induction l with
  | nil => simp
  | cons x l ih => rw [List.flatMap_cons, List.length_append, ih, Array.length_toList, S.size, List.length_cons, Nat.add_mul]; omega
theorem Shp.flat_at : ∀ (l : List α) (j i : Nat), j < l.length → i < S.n → (l.flatMap fun x => (S.vals x).toList)[j * S.n + i]? = (S.vals (S.el l j))[i]? := by
  intro l
  induction l with
  | nil => intro j i h; simp at h
  | cons x l ih =>
    intro j i hj hi
    rw [List.flatMap_cons]
    match j with
    | 0 =>
      rw [List.getElem?_append_left (by rw [Array.length_toList, S.size]; omega)]
      simp [Shp.el]
    | j + 1 =>
      have e : (j + 1) * S.n + i = S.n + (j * S.n + i) := by rw [Nat.add_mul]; omega
      rw [List.getElem?_append_right (by rw [Array.length_toList, S.size]; omega), Array.length_toList, S.size, show (j + 1) * S.n + i - S.n = j * S.n + i by omega, ih j i (by simpa using hj) hi]
      simp [Shp.el]
theorem Shp.Own.row (h : S.Own B w v l) : S.Row w v l := by
  obtain ⟨⟨h1, h2⟩, hf⟩ := h
  have hf' : ∀ e ∈ l, S.nest w e := fun e he => S.low (hf e he)
  rcases h2 with ⟨rfl, h0⟩ | ⟨g, cap, cur, rfl, hb, hg, hn, hm, hs, ht⟩
  · exact ⟨none, 0, by rw [h0], by omega, by simp [maxLen], fun _ => rfl, fun hp => by omega, hf'⟩
  · refine ⟨_, _, rfl, hn, hm, (fun h => by cases h), fun _ => ⟨g, 0, rfl, lt_of_get hg, fun j hj i hi => ?_⟩, hf'⟩
    have hlt : j * S.n + i < l.length * S.n := by
      have := Nat.mul_le_mul_right S.n (show j + 1 ≤ l.length from hj)
      rw [Nat.add_mul] at this
      omega
    have e1 := S.flat_at l j i hj hi
    rw [← ht, List.getElem?_take_of_lt hlt] at e1
    rw [cell_of_row w g _ cur S.T (0, 0) hg, ← e1]
    simp
theorem Shp.Own.nil (S : Shp α) (B : Nat) (w : World) : S.Own B w (.slice none 0 0) [] := ⟨World.ownsRow_nil w B S.T S.n, fun _ h => by cases h⟩
theorem Shp.Own.ext (h : S.Own B w v l) (he : Ext w w') : S.Own B w' v l := by
  obtain ⟨⟨h1, h2⟩, hf⟩ := h
  refine ⟨⟨h1, ?_⟩, fun e hm => S.extO (hf e hm) he⟩
  rcases h2 with h2 | ⟨g, cap, cur, hv, hb, hg, hr⟩
  · exact .inl h2
  · exact .inr ⟨g, cap, cur, hv, hb, (he.block g (lt_of_get hg)).trans hg, hr⟩
theorem Shp.Own.low (h : S.Own B w v l) : ∀ g, v.ownBlock = some g → B ≤ g := fun g hg => (World.ownsRow.lt h.1 g hg).1
theorem Shp.Own.high (h : S.Own B w v l) : ∀ g, v.ownBlock = some g → g < w.heap.size := fun g hg => (World.ownsRow.lt h.1 g hg).2
theorem Shp.Own.slice (h : S.Own B w v l) : ∃ A c, v = .slice A l.length c ∧ l.length ≤ c ∧ c ≤ maxLen := by
  obtain ⟨A, c, h1, h2, h3, -⟩ := h.row.cut
  exact ⟨A, c, h1, h2, h3⟩
theorem Shp.Own.typed (h : S.Own B w v l) : ∀ g, v.ownBlock = some g → ∃ c z, w.heap[g]? = some (.cells c S.T z) := by
  intro g hg
  rcases h.1.2 with ⟨rfl, _⟩ | ⟨g', cap, cur, rfl, _, hg', _⟩
  · cases hg
  · injection hg with hg
    subst hg
    exact ⟨_, _, hg'⟩
theorem Shp.Own.ne (h : S.Own B w v l) {g : Nat} {c : Array Value} {T : TypeId} {z : Nat × Nat} (hg : w.heap[g]? = some (.cells c T z)) (hT : T ≠ S.T) : v.ownBlock ≠ some g := by
  intro e
  obtain ⟨c', z', h'⟩ := h.typed g e
  rw [hg] at h'
  injection h' with h'
  injection h' with h1 h2 h3
  exact hT h2
theorem Shp.Own.kept (h : S.Own B w v l) {row : Option Nat} (hg : w.grownBy w' row) (hne : ∀ g, v.ownBlock = some g → row ≠ some g) (hf : ∀ x ∈ l, S.nestO B w x → S.nestO B w' x) : S.Own B w' v l := by
  obtain ⟨⟨h1, h2⟩, h3⟩ := h
  refine ⟨⟨h1, ?_⟩, fun e he => hf e he (h3 e he)⟩
  rcases h2 with h2 | ⟨g, cap, cur, hv, hb, hg', hr'⟩
  · exact .inl h2
  · refine .inr ⟨g, cap, cur, hv, hb, (hg.block g (lt_of_get hg') ?_).trans hg', hr'⟩
    exact fun e => hne g (by rw [hv]; rfl) e.symm
theorem Shp.flat_one (h : ∀ x ∈ l, S.nest w x) : ∀ u ∈ (l.flatMap fun x => (S.vals x).toList), u.oneCell' = true := by
  intro u hu
  obtain ⟨x, hm, hx⟩ := List.mem_flatMap.1 hu
  exact S.one (h x hm) u hx
theorem Shp.Row.single {g : Nat} {T : TypeId} {x : α} (h : w.heap[g]? = some (.cells (S.vals x) T (0, 0))) (hx : S.nest w x) : S.Row w (.slice (some ⟨g, 0, none⟩) 1 1) [x] := by
  refine ⟨_, _, rfl, Nat.le_refl _, by simp [maxLen], (fun h => by cases h), fun _ => ⟨g, 0, rfl, lt_of_get h, fun j hj i hi => ?_⟩, fun e he => by rw [List.mem_singleton.1 he]; exact hx⟩
  have : j = 0 := by simp at hj; omega
  subst this
  rw [cell_of_row w g _ _ T (0, 0) h]
  simp [Shp.el]
theorem Shp.run_app {P : Program} (w : World) (B : Nat) (t ty : TypeId) (z : Value) (bytes : Nat) (ht : P.underlying t = some (.slice S.T))
    (hi : (P.info? S.T).map (fun i => (i.zero, i.size, i.bytes)) = some (some z, S.n, bytes)) (hz : z.cells.size = S.n)
    (v : Value) (l : List α) (ho : S.Own B w v l) (x : Value) (m : List α) (hr : S.Row w x m) (hmo : ∀ e ∈ m, S.nestO B w e)
    (hb : (l.length + m.length) * bytes ≤ 140737488355328) (hb1 : 1 ≤ bytes) (hB : B ≤ w.heap.size) :
    ∃ v' w', (Builtin.append_ #[t, t] ty #[v, x]).run P w = .ok v' w' ∧ S.Own B w' v' (l ++ m) ∧ w.grownBy w' v.ownBlock ∧ (v'.ownBlock = v.ownBlock ∨ v'.ownBlock = some w.heap.size) := by
  obtain ⟨i, hi1, hi2, hi3, hi4⟩ := info_parts hi
  obtain ⟨A, c, rfl, h2, h3, h4, h6, h7⟩ := hr
  have hlen : l.length + m.length ≤ 140737488355328 := Nat.le_trans (Nat.le_mul_of_pos_right _ (by omega)) hb
  rcases A with _ | ad
  · have hc := h4 rfl
    have hm : m = [] := List.eq_nil_of_length_eq_zero (by omega)
    subst hm
    refine ⟨v, w, ?_, by simpa using ho, World.grownBy.refl w _, .inl rfl⟩
    rcases ho.1.2 with ⟨rfl, _⟩ | ⟨g, cap, cur, rfl, _, _, hnc, _⟩
    · simp [Builtin.append_, run_underlying ht, sizeOf, typeInfo, hi1, Builtin.lenOf, Builtin.firstCells]
    · simp [Builtin.append_, run_underlying ht, sizeOf, typeInfo, hi1, Builtin.lenOf, Builtin.firstCells, hnc, storeCells]
  · have hcells : ∀ j u, (m.flatMap fun x => (S.vals x).toList)[j]? = some u → w.cell? (ad.add j) = some u := by
      intro j u hu
      have hj : j < m.length * S.n := by
        have := (List.getElem?_eq_some_iff.1 hu).1
        rwa [S.flat_len] at this
      have hp := S.pos
      have hm0 : 0 < m.length := by
        rcases Nat.eq_zero_or_pos m.length with h | h
        · rw [h] at hj; omega
        · exact h
      obtain ⟨b, o, hA, _, hc⟩ := h6 hm0
      injection hA with hA
      subst hA
      have hq : j / S.n < m.length := by rw [Nat.div_lt_iff_lt_mul hp]; exact hj
      have hr := Nat.mod_lt j hp
      have he : j = j / S.n * S.n + j % S.n := by have := Nat.div_add_mod j S.n; rw [Nat.mul_comm] at this; omega
      rw [he, S.flat_at m _ _ hq hr] at hu
      have := hc _ hq _ hr
      rw [Addr.add_lit, ← hu, ← this]
      congr 2
      omega
    obtain ⟨v', w', hrun, k2, k3, _, k5⟩ := run_append_own_at (P := P) w B t ty S.T i z S.n bytes ht hi1 hi2 hi3 hi4 hz S.pos v l.length (l.flatMap fun x => (S.vals x).toList) ho.1 ad m.length c (m.flatMap fun x => (S.vals x).toList) (S.flat_len m) hcells (S.flat_one h7) (by simp only [maxLen]; omega) hb hB
    refine ⟨v', w', hrun, ⟨?_, fun e he => ?_⟩, k3, k5⟩
    · rw [List.flatMap_append, List.length_append]
      exact k2
    · exact S.kept ((List.mem_append.1 he).elim (ho.2 e) (hmo e)) k3 ho.typed
theorem Shp.wpList_app {P : Program} (S : Shp α) (w : World) {ops : Array Oper} {rest : List Oper} {o : Oper} {a : Act} {Q : Exit → Act → World → Prop} (hgd : Region.wanted o (yielded ops a.tmps) = true) (s y : Operand) (B : Nat) (t : TypeId) (z : Value) (bytes : Nat)
    (hop : o.op = .call { callee := .builtin .append, args := #[s, y], argTypes := #[t, t] }) (ht : P.underlying t = some (.slice S.T))
    (hi : (P.info? S.T).map (fun i => (i.zero, i.size, i.bytes)) = some (some z, S.n, bytes)) (hz : z.cells.size = S.n) (hb1 : 1 ≤ bytes)
    (v : Value) (l : List α) (hs : a.eval s = v) (ho : S.Own B w v l) (x : Value) (m : List α) (hx : a.eval y = x) (hr : S.Row w x m) (hmo : ∀ e ∈ m, S.nestO B w e)
    (hb : (l.length + m.length) * bytes ≤ 140737488355328) (hB : B ≤ w.heap.size)
    (h : ∀ v' w', S.Own B w' v' (l ++ m) → w.grownBy w' v.ownBlock → (v'.ownBlock = v.ownBlock ∨ v'.ownBlock = some w.heap.size) → wpList P ops Q rest (a.put o.dst v') w') :
    wpList P ops Q (o :: rest) a w := by
  refine wpList_step fun K hK => ?_
  rw [if_pos hgd]
  obtain ⟨v', w', hrun, h2, h3, h4⟩ := S.run_app (P := P) w B t o.type z bytes ht hi hz v l ho x m hr hmo hb hb1 hB
  unfold Oper.wp execOp
  simp only [hop, resolve, invoke, builtin, Sem.run_bind, Sem.run_pure, Result.andThen_ok, List.map_toArray, List.map_cons, List.map_nil, hs, hx, hrun]
  exact hK _ _ (h v' w' h2 h3 h4)
theorem Shp.step_app {P : Program} (S : Shp α) {ops : Array Oper} {o : Oper} {a : Act} {w : World} {K : Act → World → Prop} {Q : Exit → Act → World → Prop} {E : Prop} (hgd : o.guard = none) (s y : Operand) (B : Nat) (t : TypeId) (z : Value) (bytes : Nat)
    (hop : o.op = .call { callee := .builtin .append, args := #[s, y], argTypes := #[t, t] }) (ht : P.underlying t = some (.slice S.T))
    (hi : (P.info? S.T).map (fun i => (i.zero, i.size, i.bytes)) = some (some z, S.n, bytes)) (hz : z.cells.size = S.n) (hb1 : 1 ≤ bytes)
    (v : Value) (l : List α) (hs : a.eval s = v) (ho : S.Own B w v l) (x : Value) (m : List α) (hx : a.eval y = x) (hr : S.Row w x m) (hmo : ∀ e ∈ m, S.nestO B w e)
    (hb : (l.length + m.length) * bytes ≤ 140737488355328) (hB : B ≤ w.heap.size)
    (h : ∀ v' w', S.Own B w' v' (l ++ m) → w.grownBy w' v.ownBlock → (v'.ownBlock = v.ownBlock ∨ v'.ownBlock = some w.heap.size) → K (a.put o.dst v') w') :
    if Region.wanted o (yielded ops a.tmps) = true then Oper.wp P o a w K Q else E := by
  have hw : Region.wanted o (yielded ops a.tmps) = true := by simp [Region.wanted, hgd]
  rw [if_pos hw]
  obtain ⟨v', w', hrun, h2, h3, h4⟩ := S.run_app (P := P) w B t o.type z bytes ht hi hz v l ho x m hr hmo hb hb1 hB
  unfold Oper.wp execOp
  simp only [hop, resolve, invoke, builtin, Sem.run_bind, Sem.run_pure, Result.andThen_ok, List.map_toArray, List.map_cons, List.map_nil, hs, hx, hrun]
  exact h v' w' h2 h3 h4
theorem Shp.Row.head {A : Option Addr} {n c : Nat} (h : S.Row w (.slice A n c) l) (m : Nat) (hm : m ≤ l.length) : S.Row w (.slice A m c) (l.take m) := by
  obtain ⟨A, c', h1, h2, h3, h4, h6, h7⟩ := h
  injection h1 with e1 e2 e3
  subst e1 e2 e3
  have hlen : (l.take m).length = m := by simp; omega
  refine ⟨_, _, by rw [hlen], by omega, h3, h4, fun hl => ?_, fun x hx => h7 x (List.mem_of_mem_take hx)⟩
  obtain ⟨b, o, ha, hb, hc⟩ := h6 (by omega)
  refine ⟨b, o, ha, hb, fun j hj => ?_⟩
  have e : S.el (l.take m) j = S.el l j := by simp [Shp.el, show j < m by omega]
  rw [e]
  exact hc j (by omega)
end
end Go.Proofs.YtkkfkjjmmdpafaaDoor
namespace Go.Proofs.YtkkfkjjmmdpafaaDoor
open Go.RowKit
set_option linter.unusedVariables false

def flat {α : Type} (T : TypeId) (n : Nat) (vals : α → Array Value) (zero : α) (pos : 0 < n) (size : ∀ x, (vals x).size = n) (one : ∀ x, ∀ u ∈ (vals x).toList, u.oneCell' = true) : Shp α where
  T := T
  n := n
  vals := vals
  zero := zero
  nest := fun _ _ => True
  nestO := fun _ _ _ => True
  pos := pos
  size := size
  one := fun {w x} _ u hu => one x u hu
  ext := fun _ _ => trivial
  extO := fun _ _ => trivial
  low := fun _ => trivial
  kept := fun _ _ _ => trivial
structure Cst where
  k : Int
  t : ByteArray
  n : Int
  a : Int
  b : Int
  c : Int
deriving DecidableEq
structure Hd where
  f : Int
  t : Int
  a : Int
  c : Int
deriving DecidableEq
structure Ty where
  k : Int
  s : ByteArray
deriving DecidableEq
def c0 : Cst := ⟨0, ⟨#[]⟩, 0, 0, 0, 0⟩
def h0 : Hd := ⟨0, 0, 0, 0⟩
def t0 : Ty := ⟨0, ⟨#[]⟩⟩
def Cst.vals (x : Cst) : Array Value := #[.int .i64 x.k, .string x.t, .int .i64 x.n, .int .i64 x.a, .int .i64 x.b, .int .i64 x.c]
def Hd.vals (x : Hd) : Array Value := #[.int .i64 x.f, .int .i64 x.t, .int .i64 x.a, .int .i64 x.c]
def Ty.vals (x : Ty) : Array Value := #[.int .i64 x.k, .string x.s]
def ShH : Shp Hd := flat 122 4 Hd.vals h0 (by decide) (fun _ => rfl) (fun x u hu => by
  have h : u = .int .i64 x.f ∨ u = .int .i64 x.t ∨ u = .int .i64 x.a ∨ u = .int .i64 x.c := by simpa [Hd.vals] using hu
  rcases h with rfl | rfl | rfl | rfl <;> rfl)
def ShT : Shp Ty := flat 56 2 Ty.vals t0 (by decide) (fun _ => rfl) (fun x u hu => by
  have h : u = .int .i64 x.k ∨ u = .string x.s := by simpa [Ty.vals] using hu
  rcases h with rfl | rfl <;> rfl)
section
variable {w : World} {A : Option Addr} {n c : Nat}
end
structure Me where
  st : Bool
  ab : Bool
  nm : ByteArray
  ret : Ty
  args : List Ty
  sk : Int
  lo : Int
  code : List Int
  hs : List Hd
deriving DecidableEq
def Me.vals (m : Me) (va vc vh : Value) : Array Value := #[.bool m.st, .bool m.ab, .string m.nm, .int .i64 m.ret.k, .string m.ret.s, va, .int .i64 m.sk, .int .i64 m.lo, vc, vh]
def MeAt (w : World) (m : Me) (va vc vh : Value) : Prop := ShT.Row w va m.args ∧ Row w .u8 vc m.code ∧ ShH.Row w vh m.hs
theorem MeAt.ext {w w' : World} {m : Me} {va vc vh : Value} (h : MeAt w m va vc vh) (e : Ext w w') : MeAt w' m va vc vh := ⟨h.1.ext e, h.2.1.ext e, h.2.2.ext e⟩
def MeB (w : World) (g : Nat) (m : Me) (va vc vh : Value) : Prop := w.heap[g]? = some (.cells (m.vals va vc vh) 112 (0, 0))
theorem MeB.ext {w w' : World} {g : Nat} {m : Me} {va vc vh : Value} (h : MeB w g m va vc vh) (e : Ext w w') : MeB w' g m va vc vh := (e.block g (lt_of_get h)).trans h
theorem MeB.cells {w : World} {g : Nat} {m : Me} {va vc vh : Value} (h : MeB w g m va vc vh) :
    w.cell? ⟨g, 0, none⟩ = some (.bool m.st) ∧ w.cell? ⟨g, 1, none⟩ = some (.bool m.ab) ∧ w.cell? ⟨g, 2, none⟩ = some (.string m.nm) ∧ w.cell? ⟨g, 3, none⟩ = some (.int .i64 m.ret.k) ∧ w.cell? ⟨g, 4, none⟩ = some (.string m.ret.s) ∧
    w.cell? ⟨g, 5, none⟩ = some va ∧ w.cell? ⟨g, 6, none⟩ = some (.int .i64 m.sk) ∧ w.cell? ⟨g, 7, none⟩ = some (.int .i64 m.lo) ∧ w.cell? ⟨g, 8, none⟩ = some vc ∧ w.cell? ⟨g, 9, none⟩ = some vh := by
  have e : ∀ i, w.cell? ⟨g, i, none⟩ = (m.vals va vc vh)[i]? := fun i => by rw [cell_of_row w g i _ _ (0, 0) h]
  exact ⟨e 0, e 1, e 2, e 3, e 4, e 5, e 6, e 7, e 8, e 9⟩
theorem MeB.lt {w : World} {g : Nat} {m : Me} {va vc vh : Value} (h : MeB w g m va vc vh) : g < w.heap.size := lt_of_get h
theorem MeB.new (w : World) (m : Me) (va vc vh : Value) : MeB (w.alloc (.cells (m.vals va vc vh) 112)) w.heap.size m va vc vh := heap_alloc_new w _
end Go.Proofs.YtkkfkjjmmdpafaaDoor
namespace Go.Proofs.YtkkfkjjmmdpafaaDoor
open Go.RowKit Go.ChangeShapes Go.WideShapes Go.Deep
set_option linter.unusedVariables false
theorem own : ownKnob Tryd.prog.godebug = none := by kernel_rfl
theorem laidOut : laidOutB Tryd.prog = true := by kernel_rfl
theorem list_ofG {α : Type} (S : Shp α) {Q : Nat → α → Prop} : ∀ (n : Nat), (∀ i, i < n → ∃ y, Q i y) → ∃ l : List α, l.length = n ∧ ∀ i, i < n → Q i (S.el l i) := by
  intro n
  induction n with
  | zero => exact fun _ => ⟨[], rfl, fun i h => absurd h (Nat.not_lt_zero i)⟩
  | succ n ih =>
    intro h
    obtain ⟨l, hl, hq⟩ := ih (fun i hi => h i (by omega))
    obtain ⟨y, hy⟩ := h n (by omega)
    refine ⟨l ++ [y], by simp [hl], fun i hi => ?_⟩
    by_cases hin : i < n
    · have e : S.el (l ++ [y]) i = S.el l i := by simp [Shp.el, List.getElem?_append_left (show i < l.length by omega)]
      rw [e]
      exact hq i hin
    · have e : S.el (l ++ [y]) i = y := by
        have : i = l.length := by omega
        subst this
        simp [Shp.el]
      rw [e, show i = n by omega]
      exact hy
section
variable {H : Type} {enc : TypeId × Value → H} {w : World}
def Light (t : TypeId) (d : DataW H) : Prop := ∀ x ∈ d.weights Tryd.prog t, x ≤ reachBytes
theorem light_all {t : TypeId} : ∀ {ds : List (DataW H)}, (∀ x ∈ DataW.weightsAll Tryd.prog t ds, x ≤ reachBytes) → ∀ {d : DataW H}, d ∈ ds → Light t d := by
  intro ds
  induction ds with
  | nil => intro _ d h; cases h
  | cons a ds ih =>
    intro hw d h
    rw [DataW.weightsAll] at hw
    rcases List.mem_cons.1 h with rfl | h
    · exact fun x hx => hw x (List.mem_append_left _ hx)
    · exact ih (fun x hx => hw x (List.mem_append_right _ hx)) h
theorem light_slice {t e : TypeId} {ds sp : List (DataW H)} (ht : Tryd.prog.underlying t = some (.slice e)) (h : Light t (.slice ds sp : DataW H)) : (ds.length + sp.length) * Tryd.prog.bytesOf e ≤ reachBytes ∧ ∀ d ∈ ds, Light e d := by
  have hu : (DataW.slice ds sp : DataW H).weights Tryd.prog t = (ds.length + sp.length) * Tryd.prog.bytesOf e :: (DataW.weightsAll Tryd.prog e ds ++ DataW.weightsAll Tryd.prog e sp) := by
    rw [DataW.weights, ht]
  unfold Light at h
  rw [hu] at h
  exact ⟨h _ (List.mem_cons_self ..), fun d hd => light_all (fun x hx => h x (List.mem_cons_of_mem _ (List.mem_append_left _ hx))) hd⟩
theorem light_each : ∀ {ts : List TypeId} {ds : List (DataW H)}, (∀ x ∈ DataW.weightsEach Tryd.prog ts ds, x ≤ reachBytes) → ∀ {j : Nat} {t : TypeId} {d : DataW H}, ts[j]? = some t → ds[j]? = some d → Light t d := by
  intro ts
  induction ts with
  | nil => intro ds _ j t d ht; simp at ht
  | cons a ts ih =>
    intro ds h j t d ht hd
    match ds, hd with
    | [], hd => simp at hd
    | b :: ds, hd =>
      rw [DataW.weightsEach] at h
      match j, ht, hd with
      | 0, ht, hd =>
        simp at ht hd
        subst ht hd
        exact fun x hx => h x (List.mem_append_left _ hx)
      | j + 1, ht, hd => exact ih (fun x hx => h x (List.mem_append_right _ hx)) (by simpa using ht) (by simpa using hd)
theorem light_struct {t : TypeId} {fs : Array Field} {ds : List (DataW H)} (ht : Tryd.prog.underlying t = some (.struct fs)) (h : Light t (.agg ds : DataW H)) {j : Nat} {f : Field} {d : DataW H} (hf : fs[j]? = some f) (hd : ds[j]? = some d) : Light f.type d := by
  have hu : (DataW.agg ds : DataW H).weights Tryd.prog t = DataW.weightsEach Tryd.prog (fs.toList.map (·.type)) ds := by
    rw [DataW.weights, ht]
  unfold Light at h
  rw [hu] at h
  exact light_each h (j := j) (by simp [hf]) hd
theorem light_of {ts : List TypeId} {ds : List (DataW H)} (h : (DataW.weightsEach Tryd.prog ts ds).all (· ≤ reachBytes) = true) {j : Nat} {t : TypeId} {d : DataW H} (ht : ts[j]? = some t) (hd : ds[j]? = some d) : Light t d :=
  light_each (fun x hx => of_decide_eq_true (List.all_eq_true.1 h x hx)) ht hd
theorem open_listG {α : Type} (S : Shp α) {t : TypeId} {bytes : Nat} {Q : α → Prop} (ht : Tryd.prog.underlying t = some (.slice S.T)) (hk : Tryd.prog.cellsOf S.T = S.n) (hb : Tryd.prog.bytesOf S.T = bytes)
    (hel : ∀ (fuel : Nat) (cs : List Value) (x : DataW H × List MemPlace), DataW.trod enc Tryd.prog w 0 (fun _ => true) true fuel S.T cs = some x → Light S.T x.1 → ∃ y : α, cs = (S.vals y).toList ∧ S.nest w y ∧ Q y)
    {fuel : Nat} {cs : List Value} {x : DataW H × List MemPlace} (h : DataW.trod enc Tryd.prog w 0 (fun _ => true) true fuel t cs = some x) (hl : Light t x.1) :
    ∃ (A : Option Addr) (n c : Nat) (l : List α), cs = [.slice A n c] ∧ l.length = n ∧ S.Row w (.slice A n c) l ∧ l.length * bytes ≤ reachBytes ∧ ∀ y ∈ l, Q y := by
  rcases open_slice ht h with ⟨rfl, rfl⟩ | ⟨a, len, cap, m, n, D, Pl, rfl, hbs, hlc, hm, hmm, rfl, hi⟩
  · exact ⟨none, 0, 0, [], rfl, rfl, Shp.Row.nil S w, by simp, (fun _ h => by cases h)⟩
  · have hlm : len ≤ m := by rw [hmm]; split <;> omega
    obtain ⟨hw1, hw2⟩ := light_slice ht hl
    obtain ⟨l, hll, hq⟩ := list_ofG S (Q := fun i y => S.nest w y ∧ Q y ∧ ∀ j, j < S.n → w.cell? (a.add (i * S.n + j)) = (S.vals y)[j]?) len (fun i hil => by
      obtain ⟨cs', hc, ht'⟩ := hi i (by omega)
      rw [hk] at hc
      obtain ⟨y, hv, hn, hqy⟩ := hel _ _ _ ht' (hw2 _ (List.mem_map.2 ⟨i, by simp [hil], rfl⟩))
      obtain ⟨_, hcl, hat⟩ := World.cells?_some hc
      refine ⟨y, hn, hqy, fun j hj => ?_⟩
      have := hat j hj
      rw [← Go.Deep.add_add, this, hv]
      simp)
    refine ⟨some a, len, cap, l, rfl, hll, ⟨some a, cap, by rw [hll], by omega, hm, (fun h => by cases h), fun hp => ?_, fun y hy => ?_⟩, ?_, fun y hy => ?_⟩
    · have hp0 := S.pos
      have h0 := (hq 0 (by omega)).2.2 0 hp0
      obtain ⟨b, o, spot⟩ := a
      have hsz := S.size (S.el l 0)
      have hg : (S.vals (S.el l 0))[0]? = some ((S.vals (S.el l 0))[0]'(by omega)) := Array.getElem?_eq_getElem _
      rw [hg] at h0
      have hs : spot = none := by simpa [Addr.add] using World.cell?_spot h0
      subst hs
      refine ⟨b, o, rfl, by have := World.block_lt_of_cell? w _ h0; rwa [Addr.add_lit] at this, fun j hj i hi => ?_⟩
      have hc := (hq j (by omega)).2.2 i hi
      rw [Addr.add_lit] at hc
      rw [Nat.add_assoc]
      exact hc
    · obtain ⟨i, hi', rfl⟩ := S.el_of_mem hy
      exact (hq i (by omega)).1
    · rw [hb] at hw1
      simp only [List.length_map, List.length_range] at hw1
      rw [hll]
      exact Nat.le_trans (Nat.mul_le_mul_right _ (Nat.le_add_right _ _)) hw1
    · obtain ⟨i, hi', rfl⟩ := S.el_of_mem hy
      exact (hq i (by omega)).2.1
theorem light_string {t : TypeId} {l : List UInt8} (h : Light t (.lit (.string l) : DataW H)) : l.length ≤ 140737488351232 := h l.length (by simp [DataW.weights])
theorem light_str {t : TypeId} {x : DataW H × List MemPlace} {s : ByteArray} (hx : x = (.lit (.string s.data.toList), [])) (h : Light t x.1) : s.size ≤ 140737488351232 := by
  subst hx
  have := light_string h
  rw [Lib.size_eq]
  exact this
end
end Go.Proofs.YtkkfkjjmmdpafaaDoor
