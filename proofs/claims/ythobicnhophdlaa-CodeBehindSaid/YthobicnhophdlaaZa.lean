/- Several texts of this proof, one behind the other. -/
import Derived.Test.YthobicnhophdlaaOwn
import Derived.Test.YthobicnhophdlaaOpsQ
import Derived.Test.YthobicnhophdlaaOpsSpec
import Derived.Test.YthobicnhophdlaaOpsCp
import Derived.LoopN
import Derived.Test.YthobicnhophdlaaProg
import Derived.Test.YthobicnhophdlaaOpsU
/- Lists of structs in memory, for any struct: how many cells each has, and what lies below them. -/
namespace Go.Proofs.Ythobicnhophdlaa
open Go.RowKit
set_option linter.unusedVariables false

/-- A struct's kind: its type, its cells, what must hold of what lies below it; of one that is the call's own, too. -/
structure Shp (α : Type) where
  T : TypeId
  n : Nat
  vals : α → Array Value
  zero : α
  nest : World → α → Prop
  nestO : Nat → World → α → Prop
  pos : 0 < n
  size : ∀ x, (vals x).size = n
  one : ∀ {w x}, nest w x → ∀ u ∈ (vals x).toList, u.oneCell' = true
  ext : ∀ {w w' x}, nest w x → Ext w w' → nest w' x
  extO : ∀ {B w w' x}, nestO B w x → Ext w w' → nestO B w' x
  low : ∀ {B w x}, nestO B w x → nest w x
  kept : ∀ {B w w' x row}, nestO B w x → w.grownBy w' row → (∀ g, row = some g → ∃ c z, w.heap[g]? = some (.cells c T z)) → nestO B w' x

section
variable {α : Type} (S : Shp α)
def Shp.el (l : List α) (j : Nat) : α := l.getD j S.zero
/-- A struct's cells from a place on. -/
def Shp.At (w : World) (b o : Nat) (x : α) : Prop := ∀ i, i < S.n → w.cell? ⟨b, o + i, none⟩ = (S.vals x)[i]?
/-- A slice value reads as a list of structs. -/
def Shp.Row (w : World) (v : Value) (l : List α) : Prop :=
  ∃ (A : Option Addr) (c : Nat), v = .slice A l.length c ∧ l.length ≤ c ∧ c ≤ maxLen ∧ (A = none → c = 0) ∧
    (0 < l.length → ∃ b o, A = some ⟨b, o, none⟩ ∧ b < w.heap.size ∧ ∀ j, j < l.length → S.At w b (o + j * S.n) (S.el l j)) ∧ ∀ x ∈ l, S.nest w x
/-- A list of the call's own. -/
def Shp.Own (B : Nat) (w : World) (v : Value) (l : List α) : Prop := w.ownsRow B S.T S.n v l.length (l.flatMap fun x => (S.vals x).toList) ∧ ∀ x ∈ l, S.nestO B w x
end
section
variable {α : Type} {S : Shp α} {w w' : World} {B : Nat} {v : Value} {l : List α}
theorem Shp.At.ext {b o : Nat} {x : α} (h : S.At w b o x) (he : Ext w w') (hb : b < w.heap.size) : S.At w' b o x := fun i hi => (he.cell (p := ⟨b, o + i, none⟩) hb).trans (h i hi)
theorem Shp.Row.ext (h : S.Row w v l) (he : Ext w w') : S.Row w' v l := by
  obtain ⟨A, c, h1, h2, h3, h4, h6, h7⟩ := h
  refine ⟨A, c, h1, h2, h3, h4, fun hl => ?_, fun e hm => S.ext (h7 e hm) he⟩
  obtain ⟨b, o, ha, hb, hc⟩ := h6 hl
  exact ⟨b, o, ha, Nat.lt_of_lt_of_le hb he.size, fun j hj => (hc j hj).ext he hb⟩
theorem Shp.Row.nil (S : Shp α) (w : World) : S.Row w (.slice none 0 0) [] := ⟨none, 0, rfl, Nat.le_refl _, by simp [maxLen], fun _ => rfl, fun h => by simp at h, fun _ h => by cases h⟩
theorem Shp.el_mem {j : Nat} (h : j < l.length) : S.el l j ∈ l := by
  unfold Shp.el
  rw [List.getD_eq_getElem?_getD, List.getElem?_eq_getElem h]
  exact List.getElem_mem h
theorem Shp.el_get {j : Nat} (h : j < l.length) : S.el l j = l[j] := by
  unfold Shp.el
  rw [List.getD_eq_getElem?_getD, List.getElem?_eq_getElem h]
  rfl
theorem Shp.el_of_mem {x : α} (h : x ∈ l) : ∃ i, i < l.length ∧ S.el l i = x := by
  obtain ⟨i, hi, he⟩ := List.mem_iff_getElem.1 h
  exact ⟨i, hi, by rw [S.el_get hi, he]⟩
/-- What a walk wants of a list: the slice's value; at each place its cells, in each later world. -/
theorem Shp.Row.cut (h : S.Row w v l) : ∃ A c, v = .slice A l.length c ∧ l.length ≤ c ∧ c ≤ maxLen ∧ (A = none → c = 0) := by
  obtain ⟨A, c, h1, h2, h3, h4, -⟩ := h
  exact ⟨A, c, h1, h2, h3, h4⟩
theorem Shp.Row.at {A : Option Addr} {n c : Nat} (h : S.Row w (.slice A n c) l) (hl : 0 < l.length) :
    ∃ b o, A = some ⟨b, o, none⟩ ∧ ∀ W, Ext w W → ∀ j, j < l.length → S.At W b (o + j * S.n) (S.el l j) ∧ S.nest W (S.el l j) := by
  obtain ⟨A', c', h1, h2, h3, h4, h6, h7⟩ := h
  obtain ⟨b, o, rfl, hb, hc⟩ := h6 hl
  injection h1 with e1 e2 e3
  subst e1 e2 e3
  exact ⟨b, o, rfl, fun W e j hj => ⟨(hc j hj).ext e hb, S.ext (h7 _ (S.el_mem hj)) e⟩⟩
theorem Shp.Row.low (h : S.Row w v l) : ∀ x ∈ l, S.nest w x := by
  obtain ⟨A, c, h1, h2, h3, h4, h6, h7⟩ := h
  exact h7
theorem Shp.flat_len (l : List α) : (l.flatMap fun x => (S.vals x).toList).length = l.length * S.n := by
  induction l with
  | nil => simp
  | cons x l ih => rw [List.flatMap_cons, List.length_append, ih, Array.length_toList, S.size, List.length_cons, Nat.add_mul]; omega
theorem Shp.flat_at : ∀ (l : List α) (j i : Nat), j < l.length → i < S.n → (l.flatMap fun x => (S.vals x).toList)[j * S.n + i]? = (S.vals (S.el l j))[i]? := by
  intro l
  induction l with
  | nil => intro j i h; simp at h
  | cons x l ih =>
    intro j i hj hi
    rw [List.flatMap_cons]
    match j with
    | 0 =>
      rw [List.getElem?_append_left (by rw [Array.length_toList, S.size]; omega)]
      simp [Shp.el]
    | j + 1 =>
      have e : (j + 1) * S.n + i = S.n + (j * S.n + i) := by rw [Nat.add_mul]; omega
      rw [List.getElem?_append_right (by rw [Array.length_toList, S.size]; omega), Array.length_toList, S.size, show (j + 1) * S.n + i - S.n = j * S.n + i by omega, ih j i (by simpa using hj) hi]
      simp [Shp.el]
theorem Shp.Own.row (h : S.Own B w v l) : S.Row w v l := by
  obtain ⟨⟨h1, h2⟩, hf⟩ := h
  have hf' : ∀ e ∈ l, S.nest w e := fun e he => S.low (hf e he)
  rcases h2 with ⟨rfl, h0⟩ | ⟨g, cap, cur, rfl, hb, hg, hn, hm, hs, ht⟩
  · exact ⟨none, 0, by rw [h0], by omega, by simp [maxLen], fun _ => rfl, fun hp => by omega, hf'⟩
  · refine ⟨_, _, rfl, hn, hm, (fun h => by cases h), fun _ => ⟨g, 0, rfl, lt_of_get hg, fun j hj i hi => ?_⟩, hf'⟩
    have hlt : j * S.n + i < l.length * S.n := by
      have := Nat.mul_le_mul_right S.n (show j + 1 ≤ l.length from hj)
      rw [Nat.add_mul] at this
      omega
    have e1 := S.flat_at l j i hj hi
    rw [← ht, List.getElem?_take_of_lt hlt] at e1
    rw [cell_of_row w g _ cur S.T (0, 0) hg, ← e1]
    simp
theorem Shp.Own.nil (S : Shp α) (B : Nat) (w : World) : S.Own B w (.slice none 0 0) [] := ⟨World.ownsRow_nil w B S.T S.n, fun _ h => by cases h⟩
theorem Shp.Own.ext (h : S.Own B w v l) (he : Ext w w') : S.Own B w' v l := by
  obtain ⟨⟨h1, h2⟩, hf⟩ := h
  refine ⟨⟨h1, ?_⟩, fun e hm => S.extO (hf e hm) he⟩
  rcases h2 with h2 | ⟨g, cap, cur, hv, hb, hg, hr⟩
  · exact .inl h2
  · exact .inr ⟨g, cap, cur, hv, hb, (he.block g (lt_of_get hg)).trans hg, hr⟩
theorem Shp.Own.low (h : S.Own B w v l) : ∀ g, v.ownBlock = some g → B ≤ g := fun g hg => (World.ownsRow.lt h.1 g hg).1
theorem Shp.Own.high (h : S.Own B w v l) : ∀ g, v.ownBlock = some g → g < w.heap.size := fun g hg => (World.ownsRow.lt h.1 g hg).2
theorem Shp.Own.slice (h : S.Own B w v l) : ∃ A c, v = .slice A l.length c ∧ l.length ≤ c ∧ c ≤ maxLen := by
  obtain ⟨A, c, h1, h2, h3, -⟩ := h.row.cut
  exact ⟨A, c, h1, h2, h3⟩
theorem Shp.Own.typed (h : S.Own B w v l) : ∀ g, v.ownBlock = some g → ∃ c z, w.heap[g]? = some (.cells c S.T z) := by
  intro g hg
  rcases h.1.2 with ⟨rfl, _⟩ | ⟨g', cap, cur, rfl, _, hg', _⟩
  · cases hg
  · injection hg with hg
    subst hg
    exact ⟨_, _, hg'⟩
/-- A block of another type is none of it. -/
theorem Shp.Own.ne (h : S.Own B w v l) {g : Nat} {c : Array Value} {T : TypeId} {z : Nat × Nat} (hg : w.heap[g]? = some (.cells c T z)) (hT : T ≠ S.T) : v.ownBlock ≠ some g := by
  intro e
  obtain ⟨c', z', h'⟩ := h.typed g e
  rw [hg] at h'
  injection h' with h'
  injection h' with h1 h2 h3
  exact hT h2
theorem Shp.Own.kept (h : S.Own B w v l) {row : Option Nat} (hg : w.grownBy w' row) (hne : ∀ g, v.ownBlock = some g → row ≠ some g) (hf : ∀ x ∈ l, S.nestO B w x → S.nestO B w' x) : S.Own B w' v l := by
  obtain ⟨⟨h1, h2⟩, h3⟩ := h
  refine ⟨⟨h1, ?_⟩, fun e he => hf e he (h3 e he)⟩
  rcases h2 with h2 | ⟨g, cap, cur, hv, hb, hg', hr'⟩
  · exact .inl h2
  · refine .inr ⟨g, cap, cur, hv, hb, (hg.block g (lt_of_get hg') ?_).trans hg', hr'⟩
    exact fun e => hne g (by rw [hv]; rfl) e.symm
theorem Shp.flat_one (h : ∀ x ∈ l, S.nest w x) : ∀ u ∈ (l.flatMap fun x => (S.vals x).toList), u.oneCell' = true := by
  intro u hu
  obtain ⟨x, hm, hx⟩ := List.mem_flatMap.1 hu
  exact S.one (h x hm) u hx
/-- One struct in a block reads as a list. -/
theorem Shp.Row.single {g : Nat} {T : TypeId} {x : α} (h : w.heap[g]? = some (.cells (S.vals x) T (0, 0))) (hx : S.nest w x) : S.Row w (.slice (some ⟨g, 0, none⟩) 1 1) [x] := by
  refine ⟨_, _, rfl, Nat.le_refl _, by simp [maxLen], (fun h => by cases h), fun _ => ⟨g, 0, rfl, lt_of_get h, fun j hj i hi => ?_⟩, fun e he => by rw [List.mem_singleton.1 he]; exact hx⟩
  have : j = 0 := by simp at hj; omega
  subst this
  rw [cell_of_row w g _ _ T (0, 0) h]
  simp [Shp.el]
/-- append of structs onto a list of the call's own. -/
theorem Shp.run_app {P : Program} (w : World) (B : Nat) (t ty : TypeId) (z : Value) (bytes : Nat) (ht : P.underlying t = some (.slice S.T))
    (hi : (P.info? S.T).map (fun i => (i.zero, i.size, i.bytes)) = some (some z, S.n, bytes)) (hz : z.cells.size = S.n)
    (v : Value) (l : List α) (ho : S.Own B w v l) (x : Value) (m : List α) (hr : S.Row w x m) (hmo : ∀ e ∈ m, S.nestO B w e)
    (hb : (l.length + m.length) * bytes ≤ 140737488355328) (hb1 : 1 ≤ bytes) (hB : B ≤ w.heap.size) :
    ∃ v' w', (Builtin.append_ #[t, t] ty #[v, x]).run P w = .ok v' w' ∧ S.Own B w' v' (l ++ m) ∧ w.grownBy w' v.ownBlock ∧ (v'.ownBlock = v.ownBlock ∨ v'.ownBlock = some w.heap.size) := by
  obtain ⟨i, hi1, hi2, hi3, hi4⟩ := info_parts hi
  obtain ⟨A, c, rfl, h2, h3, h4, h6, h7⟩ := hr
  have hlen : l.length + m.length ≤ 140737488355328 := Nat.le_trans (Nat.le_mul_of_pos_right _ (by omega)) hb
  rcases A with _ | ad
  · have hc := h4 rfl
    have hm : m = [] := List.eq_nil_of_length_eq_zero (by omega)
    subst hm
    refine ⟨v, w, ?_, by simpa using ho, World.grownBy.refl w _, .inl rfl⟩
    rcases ho.1.2 with ⟨rfl, _⟩ | ⟨g, cap, cur, rfl, _, _, hnc, _⟩
    · simp [Builtin.append_, run_underlying ht, sizeOf, typeInfo, hi1, Builtin.lenOf, Builtin.firstCells]
    · simp [Builtin.append_, run_underlying ht, sizeOf, typeInfo, hi1, Builtin.lenOf, Builtin.firstCells, hnc, storeCells]
  · have hcells : ∀ j u, (m.flatMap fun x => (S.vals x).toList)[j]? = some u → w.cell? (ad.add j) = some u := by
      intro j u hu
      have hj : j < m.length * S.n := by
        have := (List.getElem?_eq_some_iff.1 hu).1
        rwa [S.flat_len] at this
      have hp := S.pos
      have hm0 : 0 < m.length := by
        rcases Nat.eq_zero_or_pos m.length with h | h
        · rw [h] at hj; omega
        · exact h
      obtain ⟨b, o, hA, _, hc⟩ := h6 hm0
      injection hA with hA
      subst hA
      have hq : j / S.n < m.length := by rw [Nat.div_lt_iff_lt_mul hp]; exact hj
      have hr := Nat.mod_lt j hp
      have he : j = j / S.n * S.n + j % S.n := by have := Nat.div_add_mod j S.n; rw [Nat.mul_comm] at this; omega
      rw [he, S.flat_at m _ _ hq hr] at hu
      have := hc _ hq _ hr
      rw [Addr.add_lit, ← hu, ← this]
      congr 2
      omega
    obtain ⟨v', w', hrun, k2, k3, _, k5⟩ := run_append_own_at (P := P) w B t ty S.T i z S.n bytes ht hi1 hi2 hi3 hi4 hz S.pos v l.length (l.flatMap fun x => (S.vals x).toList) ho.1 ad m.length c (m.flatMap fun x => (S.vals x).toList) (S.flat_len m) hcells (S.flat_one h7) (by simp only [maxLen]; omega) hb hB
    refine ⟨v', w', hrun, ⟨?_, fun e he => ?_⟩, k3, k5⟩
    · rw [List.flatMap_append, List.length_append]
      exact k2
    · exact S.kept ((List.mem_append.1 he).elim (ho.2 e) (hmo e)) k3 ho.typed
/-- The same, as a step of the walk. -/
theorem Shp.wpList_app {P : Program} (S : Shp α) (w : World) {ops : Array Oper} {rest : List Oper} {o : Oper} {a : Act} {Q : Exit → Act → World → Prop} (hgd : Region.wanted o (yielded ops a.tmps) = true) (s y : Operand) (B : Nat) (t : TypeId) (z : Value) (bytes : Nat)
    (hop : o.op = .call { callee := .builtin .append, args := #[s, y], argTypes := #[t, t] }) (ht : P.underlying t = some (.slice S.T))
    (hi : (P.info? S.T).map (fun i => (i.zero, i.size, i.bytes)) = some (some z, S.n, bytes)) (hz : z.cells.size = S.n) (hb1 : 1 ≤ bytes)
    (v : Value) (l : List α) (hs : a.eval s = v) (ho : S.Own B w v l) (x : Value) (m : List α) (hx : a.eval y = x) (hr : S.Row w x m) (hmo : ∀ e ∈ m, S.nestO B w e)
    (hb : (l.length + m.length) * bytes ≤ 140737488355328) (hB : B ≤ w.heap.size)
    (h : ∀ v' w', S.Own B w' v' (l ++ m) → w.grownBy w' v.ownBlock → (v'.ownBlock = v.ownBlock ∨ v'.ownBlock = some w.heap.size) → wpList P ops Q rest (a.put o.dst v') w') :
    wpList P ops Q (o :: rest) a w := by
  refine wpList_step fun K hK => ?_
  rw [if_pos hgd]
  obtain ⟨v', w', hrun, h2, h3, h4⟩ := S.run_app (P := P) w B t o.type z bytes ht hi hz v l ho x m hr hmo hb hb1 hB
  unfold Oper.wp execOp
  simp only [hop, resolve, invoke, builtin, Sem.run_bind, Sem.run_pure, Result.andThen_ok, List.map_toArray, List.map_cons, List.map_nil, hs, hx, hrun]
  exact hK _ _ (h v' w' h2 h3 h4)
/-- The same as one step of a region that draws. -/
theorem Shp.step_app {P : Program} (S : Shp α) {ops : Array Oper} {o : Oper} {a : Act} {w : World} {K : Act → World → Prop} {Q : Exit → Act → World → Prop} {E : Prop} (hgd : o.guard = none) (s y : Operand) (B : Nat) (t : TypeId) (z : Value) (bytes : Nat)
    (hop : o.op = .call { callee := .builtin .append, args := #[s, y], argTypes := #[t, t] }) (ht : P.underlying t = some (.slice S.T))
    (hi : (P.info? S.T).map (fun i => (i.zero, i.size, i.bytes)) = some (some z, S.n, bytes)) (hz : z.cells.size = S.n) (hb1 : 1 ≤ bytes)
    (v : Value) (l : List α) (hs : a.eval s = v) (ho : S.Own B w v l) (x : Value) (m : List α) (hx : a.eval y = x) (hr : S.Row w x m) (hmo : ∀ e ∈ m, S.nestO B w e)
    (hb : (l.length + m.length) * bytes ≤ 140737488355328) (hB : B ≤ w.heap.size)
    (h : ∀ v' w', S.Own B w' v' (l ++ m) → w.grownBy w' v.ownBlock → (v'.ownBlock = v.ownBlock ∨ v'.ownBlock = some w.heap.size) → K (a.put o.dst v') w') :
    if Region.wanted o (yielded ops a.tmps) = true then Oper.wp P o a w K Q else E := by
  have hw : Region.wanted o (yielded ops a.tmps) = true := by simp [Region.wanted, hgd]
  rw [if_pos hw]
  obtain ⟨v', w', hrun, h2, h3, h4⟩ := S.run_app (P := P) w B t o.type z bytes ht hi hz v l ho x m hr hmo hb hb1 hB
  unfold Oper.wp execOp
  simp only [hop, resolve, invoke, builtin, Sem.run_bind, Sem.run_pure, Result.andThen_ok, List.map_toArray, List.map_cons, List.map_nil, hs, hx, hrun]
  exact h v' w' h2 h3 h4
/-- The first so many, the others. -/
theorem Shp.Row.head {A : Option Addr} {n c : Nat} (h : S.Row w (.slice A n c) l) (m : Nat) (hm : m ≤ l.length) : S.Row w (.slice A m c) (l.take m) := by
  obtain ⟨A, c', h1, h2, h3, h4, h6, h7⟩ := h
  injection h1 with e1 e2 e3
  subst e1 e2 e3
  have hlen : (l.take m).length = m := by simp; omega
  refine ⟨_, _, by rw [hlen], by omega, h3, h4, fun hl => ?_, fun x hx => h7 x (List.mem_of_mem_take hx)⟩
  obtain ⟨b, o, ha, hb, hc⟩ := h6 (by omega)
  refine ⟨b, o, ha, hb, fun j hj => ?_⟩
  have e : S.el (l.take m) j = S.el l j := by simp [Shp.el, show j < m by omega]
  rw [e]
  exact hc j (by omega)
end
end Go.Proofs.Ythobicnhophdlaa
/- Lists of instructions: an instruction with the two slices that stand in its cells. -/
namespace Go.Proofs.Ythobicnhophdlaa
open Go.RowKit
set_option linter.unusedVariables false

abbrev InV := In × Value × Value
def InV.vals (e : InV) : Array Value := e.1.vals e.2.1 e.2.2
def ev0 : InV := (i0, .slice none 0 0, .slice none 0 0)
/-- Its two lists can be read. -/
def Nest (w : World) (e : InV) : Prop := Row w .i64 e.2.1 e.1.to ∧ Row w .i64 e.2.2 e.1.ks
def NestO (B : Nat) (w : World) (e : InV) : Prop := Own B w 3 .i64 e.2.1 e.1.to ∧ Own B w 3 .i64 e.2.2 e.1.ks
theorem oneCell_row {w : World} {k : IntKind} {v : Value} {l : List Int} (h : Row w k v l) : v.oneCell' = true := by
  obtain ⟨A, c, rfl, -⟩ := h
  rfl
def ShI : Shp InV where
  T := 32
  n := 6
  vals := InV.vals
  zero := ev0
  nest := Nest
  nestO := NestO
  pos := by decide
  size := fun _ => rfl
  one := fun {w x} h u hu => by
    have h6 : u = .int .i64 x.1.a ∨ u = .int .i64 x.1.o ∨ u = .int .i64 x.1.n ∨ u = .int .i64 x.1.m ∨ u = x.2.1 ∨ u = x.2.2 := by simpa [InV.vals, In.vals] using hu
    rcases h6 with rfl | rfl | rfl | rfl | rfl | rfl
    · rfl
    · rfl
    · rfl
    · rfl
    · exact oneCell_row h.1
    · exact oneCell_row h.2
  ext := fun h he => ⟨h.1.ext he, h.2.ext he⟩
  extO := fun h he => ⟨h.1.ext he, h.2.ext he⟩
  low := fun h => ⟨h.1.row, h.2.row⟩
  kept := fun {B w w' x row} h hg hr => by
    refine ⟨h.1.kept hg fun g hv e => ?_, h.2.kept hg fun g hv e => ?_⟩
    · obtain ⟨c, z, h1⟩ := hr g e
      exact own_ne h.1 h1 (by decide) hv
    · obtain ⟨c, z, h1⟩ := hr g e
      exact own_ne h.2 h1 (by decide) hv
/-- A slice value reads as a list of instructions; a list of them is the call's own. -/
def RowI (w : World) (v : Value) (l : List In) : Prop := ∃ es : List InV, es.map (·.1) = l ∧ ShI.Row w v es
def OwnI (B : Nat) (w : World) (v : Value) (l : List In) : Prop := ∃ es : List InV, es.map (·.1) = l ∧ ShI.Own B w v es
def gn (l : List In) (j : Nat) : In := l.getD j i0
theorem gn_mem {l : List In} {j : Nat} (h : j < l.length) : gn l j ∈ l := by
  unfold gn
  rw [List.getD_eq_getElem?_getD, List.getElem?_eq_getElem h]
  exact List.getElem_mem h
theorem gn_get {l : List In} {j : Nat} (h : j < l.length) : gn l j = l[j] := by
  unfold gn
  rw [List.getD_eq_getElem?_getD, List.getElem?_eq_getElem h]
  rfl
theorem ge_gn {es : List InV} {l : List In} (h : es.map (·.1) = l) (j : Nat) : (ShI.el es j).1 = gn l j := by
  subst h
  unfold Shp.el gn
  rw [List.getD_eq_getElem?_getD, List.getD_eq_getElem?_getD, List.getElem?_map]
  cases es[j]? <;> rfl
/-- An instruction's six cells from a place on. -/
def AtI (w : World) (b o : Nat) (x : In) (v1 v2 : Value) : Prop :=
  w.cell? ⟨b, o, none⟩ = some (.int .i64 x.a) ∧ w.cell? ⟨b, o + 1, none⟩ = some (.int .i64 x.o) ∧ w.cell? ⟨b, o + 2, none⟩ = some (.int .i64 x.n) ∧
  w.cell? ⟨b, o + 3, none⟩ = some (.int .i64 x.m) ∧ w.cell? ⟨b, o + 4, none⟩ = some v1 ∧ w.cell? ⟨b, o + 5, none⟩ = some v2
theorem AtI.of {w : World} {b o : Nat} {e : InV} (h : ShI.At w b o e) : AtI w b o e.1 e.2.1 e.2.2 :=
  ⟨h 0 (by decide), h 1 (by decide), h 2 (by decide), h 3 (by decide), h 4 (by decide), h 5 (by decide)⟩
section
variable {w w' : World} {B : Nat} {v : Value} {l : List In}
theorem RowI.ext (h : RowI w v l) (he : Ext w w') : RowI w' v l := by
  obtain ⟨es, e, h⟩ := h
  exact ⟨es, e, h.ext he⟩
theorem RowI.nil (w : World) : RowI w (.slice none 0 0) [] := ⟨[], rfl, Shp.Row.nil _ w⟩
theorem RowI.cut (h : RowI w v l) : ∃ A c, v = .slice A l.length c ∧ l.length ≤ c ∧ c ≤ maxLen ∧ (A = none → c = 0) := by
  obtain ⟨es, rfl, h⟩ := h
  rw [List.length_map]
  exact h.cut
theorem RowI.at {A : Option Addr} {n c : Nat} (h : RowI w (.slice A n c) l) (hl : 0 < l.length) :
    ∃ b o, A = some ⟨b, o, none⟩ ∧ ∀ j, j < l.length → ∃ v1 v2, ∀ W, Ext w W → AtI W b (o + j * 6) (gn l j) v1 v2 ∧ Row W .i64 v1 (gn l j).to ∧ Row W .i64 v2 (gn l j).ks := by
  obtain ⟨es, rfl, h⟩ := h
  rw [List.length_map] at hl
  obtain ⟨b, o, rfl, hc⟩ := h.at hl
  refine ⟨b, o, rfl, fun j hj => ?_⟩
  rw [List.length_map] at hj
  have hg := ge_gn (rfl : es.map (·.1) = _) j
  refine ⟨(ShI.el es j).2.1, (ShI.el es j).2.2, fun W e => ?_⟩
  obtain ⟨h1, h2⟩ := hc W e j hj
  refine ⟨?_, ?_, ?_⟩
  · rw [← hg]; exact AtI.of h1
  · rw [← hg]; exact h2.1
  · rw [← hg]; exact h2.2
theorem OwnI.row (h : OwnI B w v l) : RowI w v l := by
  obtain ⟨es, e, h⟩ := h
  exact ⟨es, e, h.row⟩
theorem OwnI.nil (B : Nat) (w : World) : OwnI B w (.slice none 0 0) [] := ⟨[], rfl, Shp.Own.nil _ _ _⟩
theorem OwnI.ext (h : OwnI B w v l) (he : Ext w w') : OwnI B w' v l := by
  obtain ⟨es, e, h⟩ := h
  exact ⟨es, e, h.ext he⟩
theorem OwnI.low (h : OwnI B w v l) : ∀ g, v.ownBlock = some g → B ≤ g := by
  obtain ⟨es, e, h⟩ := h
  exact h.low
theorem OwnI.high (h : OwnI B w v l) : ∀ g, v.ownBlock = some g → g < w.heap.size := by
  obtain ⟨es, e, h⟩ := h
  exact h.high
theorem OwnI.slice (h : OwnI B w v l) : ∃ A c, v = .slice A l.length c ∧ l.length ≤ c ∧ c ≤ maxLen := by
  obtain ⟨A, c, h1, h2, h3, -⟩ := h.row.cut
  exact ⟨A, c, h1, h2, h3⟩
theorem RowI.head {A : Option Addr} {n c : Nat} (h : RowI w (.slice A n c) l) (m : Nat) (hm : m ≤ l.length) : RowI w (.slice A m c) (l.take m) := by
  obtain ⟨es, rfl, h⟩ := h
  rw [List.length_map] at hm
  exact ⟨es.take m, by rw [List.map_take], h.head m hm⟩
end
theorem infoI : (Try.prog.info? 32).map (fun i => (i.zero, i.size, i.bytes)) = some (some (.agg #[.int .i64 0, .int .i64 0, .int .i64 0, .int .i64 0, .slice none 0 0, .slice none 0 0]), 6, 80) := by kernel_rfl
/-- append of one instruction, laid in a block, onto a list of the call's own. -/
theorem wpList_appI (w : World) {ops : Array Oper} {rest : List Oper} {o : Oper} {a : Act} {Q : Exit → Act → World → Prop} (hgd : Region.wanted o (yielded ops a.tmps) = true) (s y : Operand) (B : Nat)
    (hop : o.op = .call { callee := .builtin .append, args := #[s, y], argTypes := #[23, 23] })
    (v : Value) (l : List In) (hs : a.eval s = v) (ho : OwnI B w v l) (g : Nat) (x : In) (v1 v2 : Value) (T : TypeId) (hx : a.eval y = .slice (some ⟨g, 0, none⟩) 1 1) (hg : w.heap[g]? = some (.cells (x.vals v1 v2) T (0, 0)))
    (o1 : Own B w 3 .i64 v1 x.to) (o2 : Own B w 3 .i64 v2 x.ks)
    (hb : l.length ≤ 1000000000) (hB : B ≤ w.heap.size)
    (h : ∀ v' w', OwnI B w' v' (l ++ [x]) → w.grownBy w' v.ownBlock → (v'.ownBlock = v.ownBlock ∨ v'.ownBlock = some w.heap.size) → wpList Try.prog ops Q rest (a.put o.dst v') w') :
    wpList Try.prog ops Q (o :: rest) a w := by
  obtain ⟨es, rfl, ho⟩ := ho
  rw [List.length_map] at hb
  refine Shp.wpList_app ShI w hgd s y B _ _ 80 hop Try.underlying23 infoI rfl (by decide) v es hs ho _ [(x, v1, v2)] hx (Shp.Row.single (S := ShI) hg ⟨o1.row, o2.row⟩) (fun e he => by rw [List.mem_singleton.1 he]; exact ⟨o1, o2⟩) (by simp; omega) hB fun v' w' h1 h2 h3 => h v' w' ⟨_, by simp, h1⟩ h2 h3
theorem step_appI {ops : Array Oper} {o : Oper} {a : Act} {w : World} {K : Act → World → Prop} {Q : Exit → Act → World → Prop} {E : Prop} (hgd : o.guard = none) (s y : Operand) (B : Nat)
    (hop : o.op = .call { callee := .builtin .append, args := #[s, y], argTypes := #[23, 23] })
    (v : Value) (l : List In) (hs : a.eval s = v) (ho : OwnI B w v l) (g : Nat) (x : In) (v1 v2 : Value) (T : TypeId) (hx : a.eval y = .slice (some ⟨g, 0, none⟩) 1 1) (hg : w.heap[g]? = some (.cells (x.vals v1 v2) T (0, 0)))
    (o1 : Own B w 3 .i64 v1 x.to) (o2 : Own B w 3 .i64 v2 x.ks)
    (hb : l.length ≤ 1000000000) (hB : B ≤ w.heap.size)
    (h : ∀ v' w', OwnI B w' v' (l ++ [x]) → w.grownBy w' v.ownBlock → (v'.ownBlock = v.ownBlock ∨ v'.ownBlock = some w.heap.size) → K (a.put o.dst v') w') :
    if Region.wanted o (yielded ops a.tmps) = true then Oper.wp Try.prog o a w K Q else E := by
  obtain ⟨es, rfl, ho⟩ := ho
  rw [List.length_map] at hb
  refine Shp.step_app ShI hgd s y B _ _ 80 hop Try.underlying23 infoI rfl (by decide) v es hs ho _ [(x, v1, v2)] hx (Shp.Row.single (S := ShI) hg ⟨o1.row, o2.row⟩) (fun e he => by rw [List.mem_singleton.1 he]; exact ⟨o1, o2⟩) (by simp; omega) hB fun v' w' h1 h2 h3 => h v' w' ⟨_, by simp, h1⟩ h2 h3
end Go.Proofs.Ythobicnhophdlaa
/- Lists of constants, of handlers, of types; a method: its cells, and what lies below them. -/
namespace Go.Proofs.Ythobicnhophdlaa
open Go.RowKit
set_option linter.unusedVariables false

/-- A struct of which nothing lies below its cells. -/
def flat {α : Type} (T : TypeId) (n : Nat) (vals : α → Array Value) (zero : α) (pos : 0 < n) (size : ∀ x, (vals x).size = n) (one : ∀ x, ∀ u ∈ (vals x).toList, u.oneCell' = true) : Shp α where
  T := T
  n := n
  vals := vals
  zero := zero
  nest := fun _ _ => True
  nestO := fun _ _ _ => True
  pos := pos
  size := size
  one := fun {w x} _ u hu => one x u hu
  ext := fun _ _ => trivial
  extO := fun _ _ => trivial
  low := fun _ => trivial
  kept := fun _ _ _ => trivial
/-- A constant; a handler; a type. -/
structure Cst where
  k : Int
  t : ByteArray
  n : Int
  a : Int
  b : Int
  c : Int
deriving DecidableEq
structure Hd where
  f : Int
  t : Int
  a : Int
  c : Int
deriving DecidableEq
structure Ty where
  k : Int
  s : ByteArray
deriving DecidableEq
def c0 : Cst := ⟨0, ⟨#[]⟩, 0, 0, 0, 0⟩
def h0 : Hd := ⟨0, 0, 0, 0⟩
def t0 : Ty := ⟨0, ⟨#[]⟩⟩
def Cst.vals (x : Cst) : Array Value := #[.int .i64 x.k, .string x.t, .int .i64 x.n, .int .i64 x.a, .int .i64 x.b, .int .i64 x.c]
def Hd.vals (x : Hd) : Array Value := #[.int .i64 x.f, .int .i64 x.t, .int .i64 x.a, .int .i64 x.c]
def Ty.vals (x : Ty) : Array Value := #[.int .i64 x.k, .string x.s]
def ShC : Shp Cst := flat 91 6 Cst.vals c0 (by decide) (fun _ => rfl) (fun x u hu => by
  have h : u = .int .i64 x.k ∨ u = .string x.t ∨ u = .int .i64 x.n ∨ u = .int .i64 x.a ∨ u = .int .i64 x.b ∨ u = .int .i64 x.c := by simpa [Cst.vals] using hu
  rcases h with rfl | rfl | rfl | rfl | rfl | rfl <;> rfl)
def ShH : Shp Hd := flat 73 4 Hd.vals h0 (by decide) (fun _ => rfl) (fun x u hu => by
  have h : u = .int .i64 x.f ∨ u = .int .i64 x.t ∨ u = .int .i64 x.a ∨ u = .int .i64 x.c := by simpa [Hd.vals] using hu
  rcases h with rfl | rfl | rfl | rfl <;> rfl)
def ShT : Shp Ty := flat 39 2 Ty.vals t0 (by decide) (fun _ => rfl) (fun x u hu => by
  have h : u = .int .i64 x.k ∨ u = .string x.s := by simpa [Ty.vals] using hu
  rcases h with rfl | rfl <;> rfl)
def gc (l : List Cst) (j : Nat) : Cst := l.getD j c0
def gh (l : List Hd) (j : Nat) : Hd := l.getD j h0
def gt (l : List Ty) (j : Nat) : Ty := l.getD j t0
def AtC (w : World) (b o : Nat) (x : Cst) : Prop :=
  w.cell? ⟨b, o, none⟩ = some (.int .i64 x.k) ∧ w.cell? ⟨b, o + 1, none⟩ = some (.string x.t) ∧ w.cell? ⟨b, o + 2, none⟩ = some (.int .i64 x.n) ∧
  w.cell? ⟨b, o + 3, none⟩ = some (.int .i64 x.a) ∧ w.cell? ⟨b, o + 4, none⟩ = some (.int .i64 x.b) ∧ w.cell? ⟨b, o + 5, none⟩ = some (.int .i64 x.c)
def AtH (w : World) (b o : Nat) (x : Hd) : Prop :=
  w.cell? ⟨b, o, none⟩ = some (.int .i64 x.f) ∧ w.cell? ⟨b, o + 1, none⟩ = some (.int .i64 x.t) ∧ w.cell? ⟨b, o + 2, none⟩ = some (.int .i64 x.a) ∧ w.cell? ⟨b, o + 3, none⟩ = some (.int .i64 x.c)
def AtT (w : World) (b o : Nat) (x : Ty) : Prop := w.cell? ⟨b, o, none⟩ = some (.int .i64 x.k) ∧ w.cell? ⟨b, o + 1, none⟩ = some (.string x.s)
theorem AtC.of {w : World} {b o : Nat} {x : Cst} (h : ShC.At w b o x) : AtC w b o x :=
  ⟨h 0 (by decide), h 1 (by decide), h 2 (by decide), h 3 (by decide), h 4 (by decide), h 5 (by decide)⟩
theorem AtH.of {w : World} {b o : Nat} {x : Hd} (h : ShH.At w b o x) : AtH w b o x := ⟨h 0 (by decide), h 1 (by decide), h 2 (by decide), h 3 (by decide)⟩
theorem AtT.of {w : World} {b o : Nat} {x : Ty} (h : ShT.At w b o x) : AtT w b o x := ⟨h 0 (by decide), h 1 (by decide)⟩
section
variable {w : World} {A : Option Addr} {n c : Nat}
theorem rowC_at {l : List Cst} (h : ShC.Row w (.slice A n c) l) (hl : 0 < l.length) : ∃ b o, A = some ⟨b, o, none⟩ ∧ ∀ W, Ext w W → ∀ j, j < l.length → AtC W b (o + j * 6) (gc l j) := by
  obtain ⟨b, o, ha, h⟩ := h.at hl
  exact ⟨b, o, ha, fun W e j hj => AtC.of (h W e j hj).1⟩
theorem rowH_at {l : List Hd} (h : ShH.Row w (.slice A n c) l) (hl : 0 < l.length) : ∃ b o, A = some ⟨b, o, none⟩ ∧ ∀ W, Ext w W → ∀ j, j < l.length → AtH W b (o + j * 4) (gh l j) := by
  obtain ⟨b, o, ha, h⟩ := h.at hl
  exact ⟨b, o, ha, fun W e j hj => AtH.of (h W e j hj).1⟩
theorem rowT_at {l : List Ty} (h : ShT.Row w (.slice A n c) l) (hl : 0 < l.length) : ∃ b o, A = some ⟨b, o, none⟩ ∧ ∀ W, Ext w W → ∀ j, j < l.length → AtT W b (o + j * 2) (gt l j) := by
  obtain ⟨b, o, ha, h⟩ := h.at hl
  exact ⟨b, o, ha, fun W e j hj => AtT.of (h W e j hj).1⟩
end
/-- A method. -/
structure Me where
  st : Bool
  ab : Bool
  nm : ByteArray
  ret : Ty
  args : List Ty
  sk : Int
  lo : Int
  code : List Int
  hs : List Hd
deriving DecidableEq
/-- Its cells, with the three slices that stand in them; what they read as. -/
def Me.vals (m : Me) (va vc vh : Value) : Array Value := #[.bool m.st, .bool m.ab, .string m.nm, .int .i64 m.ret.k, .string m.ret.s, va, .int .i64 m.sk, .int .i64 m.lo, vc, vh]
def MeAt (w : World) (m : Me) (va vc vh : Value) : Prop := ShT.Row w va m.args ∧ Row w .u8 vc m.code ∧ ShH.Row w vh m.hs
theorem MeAt.ext {w w' : World} {m : Me} {va vc vh : Value} (h : MeAt w m va vc vh) (e : Ext w w') : MeAt w' m va vc vh := ⟨h.1.ext e, h.2.1.ext e, h.2.2.ext e⟩
/-- The block into which a call lays one. -/
def MeB (w : World) (g : Nat) (m : Me) (va vc vh : Value) : Prop := w.heap[g]? = some (.cells (m.vals va vc vh) 45 (0, 0))
theorem MeB.ext {w w' : World} {g : Nat} {m : Me} {va vc vh : Value} (h : MeB w g m va vc vh) (e : Ext w w') : MeB w' g m va vc vh := (e.block g (lt_of_get h)).trans h
theorem MeB.cells {w : World} {g : Nat} {m : Me} {va vc vh : Value} (h : MeB w g m va vc vh) :
    w.cell? ⟨g, 0, none⟩ = some (.bool m.st) ∧ w.cell? ⟨g, 1, none⟩ = some (.bool m.ab) ∧ w.cell? ⟨g, 2, none⟩ = some (.string m.nm) ∧ w.cell? ⟨g, 3, none⟩ = some (.int .i64 m.ret.k) ∧ w.cell? ⟨g, 4, none⟩ = some (.string m.ret.s) ∧
    w.cell? ⟨g, 5, none⟩ = some va ∧ w.cell? ⟨g, 6, none⟩ = some (.int .i64 m.sk) ∧ w.cell? ⟨g, 7, none⟩ = some (.int .i64 m.lo) ∧ w.cell? ⟨g, 8, none⟩ = some vc ∧ w.cell? ⟨g, 9, none⟩ = some vh := by
  have e : ∀ i, w.cell? ⟨g, i, none⟩ = (m.vals va vc vh)[i]? := fun i => by rw [cell_of_row w g i _ _ (0, 0) h]
  exact ⟨e 0, e 1, e 2, e 3, e 4, e 5, e 6, e 7, e 8, e 9⟩
theorem MeB.free {w : World} {g : Nat} {m : Me} {va vc vh : Value} (h : MeB w g m va vc vh) (j : Nat) : w.frozen? ⟨g, j, none⟩ = false := by simp [World.frozen?, show w.heap[g]? = _ from h]
theorem MeB.lt {w : World} {g : Nat} {m : Me} {va vc vh : Value} (h : MeB w g m va vc vh) : g < w.heap.size := lt_of_get h
theorem MeB.new (w : World) (m : Me) (va vc vh : Value) : MeB (w.alloc (.cells (m.vals va vc vh) 45)) w.heap.size m va vc vh := heap_alloc_new w _
end Go.Proofs.Ythobicnhophdlaa
/- Code, cut into instructions, and joined again: plain mathematics, no program. -/
namespace Go.Proofs.Ythobicnhophdlaa
set_option linter.unusedVariables false

/-- Does an instruction begin there? -/
def hasAt (l : List In) (t : Int) : Bool := l.any fun x => decide (x.a = t)
/-- One instruction behind the other, from a place on; or the first one's error, and where it begins. -/
def cuts (b : List Int) : Nat → Nat → List In × Int × Int
  | 0, _ => ([], 0, 0)
  | n + 1, k =>
    if k < b.length then
      if (opsDec b k).2.2 = 0 then
        (if (cuts b n (opsDec b k).2.1.toNat).2.2 = 0 then ((opsDec b k).1 :: (cuts b n (opsDec b k).2.1.toNat).1, 0, 0) else cuts b n (opsDec b k).2.1.toNat)
      else ([], (k : Int), (opsDec b k).2.2)
    else ([], 0, 0)
def cutF (b : List Int) (k : Nat) : List In × Int × Int := cuts b (b.length - k) k
def Bytes (b : List Int) : Prop := ∀ c ∈ b, B8 c
theorem cuts_none {b : List Int} : ∀ {n k : Nat}, (cuts b n k).2.2 ≠ 0 → (cuts b n k).1 = [] := by
  intro n
  induction n with
  | zero => intro k h; rfl
  | succ n ih =>
    intro k h
    unfold cuts at h ⊢
    split at h <;> rename_i h1
    · rw [if_pos h1]
      split at h <;> rename_i h2
      · rw [if_pos h2]
        split at h <;> rename_i h3
        · exact absurd rfl h
        · rw [if_neg h3]
          exact ih h
      · rw [if_neg h2]
    · exact absurd rfl h
theorem cuts_zero {b : List Int} : ∀ {n k : Nat}, (cuts b n k).2.2 = 0 → (cuts b n k).2.1 = 0 := by
  intro n
  induction n with
  | zero => intro k h; rfl
  | succ n ih =>
    intro k h
    unfold cuts at h ⊢
    split at h <;> rename_i h1
    · rw [if_pos h1]
      split at h <;> rename_i h2
      · rw [if_pos h2]
        split at h <;> rename_i h3
        · rw [if_pos h3]
        · exact absurd h h3
      · exact absurd h h2
    · rw [if_neg h1]
theorem dec_next {b : List Int} (hb : Bytes b) {k : Nat} (h : (opsDec b k).2.2 = 0) : ∃ n : Nat, (opsDec b k).2.1 = n ∧ k < n ∧ n ≤ b.length := by
  obtain ⟨h1, h2, h3, h4, h5, h6⟩ := enc_dec hb h
  exact ⟨(opsDec b k).2.1.toNat, by omega, by omega, by omega⟩
theorem cuts_fuel {b : List Int} (hb : Bytes b) : ∀ (n m k : Nat), b.length - k ≤ n → b.length - k ≤ m → cuts b n k = cuts b m k := by
  intro n
  induction n with
  | zero =>
    intro m k h1 h2
    cases m with
    | zero => rfl
    | succ m =>
      rw [cuts, cuts, if_neg (by omega)]
  | succ n ih =>
    intro m k h1 h2
    cases m with
    | zero => rw [cuts, cuts, if_neg (by omega)]
    | succ m =>
      rw [cuts, cuts]
      by_cases hk : k < b.length
      · rw [if_pos hk, if_pos hk]
        by_cases he : (opsDec b k).2.2 = 0
        · obtain ⟨j, hj, hj1, hj2⟩ := dec_next hb he
          rw [hj, Int.toNat_natCast, ih m j (by omega) (by omega)]
        · rw [if_neg he, if_neg he]
      · rw [if_neg hk, if_neg hk]
theorem cutF_step {b : List Int} (hb : Bytes b) {k j : Nat} {x : In} (hk : k < b.length) (h : opsDec b k = (x, (j : Int), 0)) :
    cutF b k = if (cutF b j).2.2 = 0 then (x :: (cutF b j).1, 0, 0) else cutF b j := by
  have h0 : (opsDec b k).2.2 = 0 := by rw [h]
  obtain ⟨i, hi, hi1, hi2⟩ := dec_next hb h0
  have hij : i = j := by rw [h] at hi; simp only at hi; omega
  subst hij
  unfold cutF
  rw [show b.length - k = (b.length - k - 1) + 1 by omega, cuts, if_pos hk, if_pos h0, hi, Int.toNat_natCast, h, cuts_fuel hb (b.length - k - 1) (b.length - i) i (by omega) (by omega)]
theorem cutF_bad {b : List Int} {k : Nat} (hk : k < b.length) (h : (opsDec b k).2.2 ≠ 0) : cutF b k = ([], (k : Int), (opsDec b k).2.2) := by
  unfold cutF
  rw [show b.length - k = (b.length - k - 1) + 1 by omega, cuts, if_pos hk, if_neg h]
theorem cutF_end {b : List Int} {k : Nat} (hk : b.length ≤ k) : cutF b k = ([], 0, 0) := by
  unfold cutF
  rw [show b.length - k = 0 by omega, cuts]
/-- How far a loop has come. -/
def Come (b : List Int) (R : List In × Int × Int) (acc : List In) (k : Nat) : Prop := R = if (cutF b k).2.2 = 0 then (acc ++ (cutF b k).1, 0, 0) else cutF b k
theorem Come.start (b : List Int) : Come b (cutF b 0) [] 0 := by
  unfold Come
  split
  · rename_i h
    have h1 : (cutF b 0).2.1 = 0 := cuts_zero h
    rw [List.nil_append]
    exact Prod.ext rfl (Prod.ext h1 h)
  · rfl
theorem Come.next {b : List Int} (hb : Bytes b) {R : List In × Int × Int} {acc : List In} {k j : Nat} {x : In} (h : Come b R acc k) (hk : k < b.length) (hd : opsDec b k = (x, (j : Int), 0)) : Come b R (acc ++ [x]) j := by
  unfold Come at *
  rw [cutF_step hb hk hd] at h
  by_cases h2 : (cutF b j).2.2 = 0
  · rw [if_pos h2] at h ⊢
    rw [h]
    simp
  · rw [if_neg h2, if_neg h2] at h
    rw [if_neg h2]
    exact h
theorem Come.end_ {b : List Int} {R : List In × Int × Int} {acc : List In} {k : Nat} (h : Come b R acc k) (hk : b.length ≤ k) : R = (acc, 0, 0) := by
  unfold Come at h
  rw [cutF_end hk] at h
  simpa using h
theorem Come.bad {b : List Int} {R : List In × Int × Int} {acc : List In} {k : Nat} (h : Come b R acc k) (hk : k < b.length) (he : (opsDec b k).2.2 ≠ 0) : R = ([], (k : Int), (opsDec b k).2.2) := by
  unfold Come at h
  rw [cutF_bad hk he, if_neg he] at h
  exact h
/-- Where the first one begins of which something does not hold. -/
def firstNot (p : In → Bool) : List In → Int × Bool
  | [] => (0, false)
  | x :: l => if p x = true then firstNot p l else (x.a, true)
theorem firstNot_all {p : In → Bool} : ∀ {l : List In}, (firstNot p l).2 = false → ∀ x ∈ l, p x = true := by
  intro l
  induction l with
  | nil => intro _ x hx; cases hx
  | cons y l ih =>
    intro h x hx
    unfold firstNot at h
    split at h <;> rename_i h1
    · rcases List.mem_cons.1 hx with rfl | hx
      · exact h1
      · exact ih h x hx
    · cases h
theorem firstNot_none {p : In → Bool} : ∀ {l : List In}, (∀ x ∈ l, p x = true) → firstNot p l = (0, false) := by
  intro l
  induction l with
  | nil => intro _; rfl
  | cons y l ih =>
    intro h
    unfold firstNot
    rw [if_pos (h y (List.mem_cons_self ..))]
    exact ih fun x hx => h x (List.mem_cons_of_mem _ hx)
theorem firstNot_congr {p q : In → Bool} : ∀ {l : List In}, (∀ x ∈ l, p x = q x) → firstNot p l = firstNot q l := by
  intro l
  induction l with
  | nil => intro _; rfl
  | cons y l ih =>
    intro h
    unfold firstNot
    rw [h y (List.mem_cons_self ..), ih fun x hx => h x (List.mem_cons_of_mem _ hx)]
theorem firstNot_next {p : In → Bool} {l : List In} {k : Nat} (h : k < l.length) (hp : p (l.getD k i0) = true) : firstNot p (l.drop k) = firstNot p (l.drop (k + 1)) := by
  have e : l.getD k i0 = l[k] := by simp [h]
  rw [e] at hp
  rw [List.drop_eq_getElem_cons h, firstNot, if_pos hp]
theorem firstNot_here {p : In → Bool} {l : List In} {k : Nat} (h : k < l.length) (hp : p (l.getD k i0) = false) : firstNot p (l.drop k) = ((l.getD k i0).a, true) := by
  have e : l.getD k i0 = l[k] := by simp [h]
  rw [List.drop_eq_getElem_cons h, firstNot, e]
  rw [e] at hp
  rw [if_neg (by rw [hp]; simp)]
def good (l : List In) (x : In) : Bool := x.to.all (hasAt l)
def cutL (R : List In × Int × Int) : List In × Int × Int :=
  if R.2.2 = 0 then
    if (firstNot (good R.1) R.1).2 = true then ([], (firstNot (good R.1) R.1).1, 70)
    else if endsZ (R.1.getD (R.1.length - 1) i0).o = true then (R.1, 0, 0) else ([], (R.1.getD (R.1.length - 1) i0).a, 70)
  else ([], R.2.1, R.2.2)
def cutZ (b : List Int) : List In × Int × Int := if 8192 < b.length then ([], 0, 5) else if b.length = 0 then ([], 0, 70) else cutL (cutF b 0)
/-- The instructions that are cut may be, and begin there. -/
theorem cutF_all {b : List Int} (hb : Bytes b) : ∀ (n k : Nat), b.length - k = n → (cutF b k).2.2 = 0 → ∀ x ∈ (cutF b k).1, mayI x = true ∧ (k : Int) ≤ x.a ∧ x.a < b.length := by
  intro n
  induction n using Nat.strongRecOn with
  | ind n ih =>
    intro k hn h x hx
    by_cases hk : k < b.length
    · by_cases he : (opsDec b k).2.2 = 0
      · obtain ⟨j, hj, hj1, hj2⟩ := dec_next hb he
        obtain ⟨h1, h2, h3, h4, h5, h6⟩ := enc_dec hb he
        have hd : opsDec b k = ((opsDec b k).1, (j : Int), 0) := Prod.ext rfl (Prod.ext hj he)
        rw [cutF_step hb hk hd] at h hx
        split at h <;> rename_i h7
        · rw [if_pos h7] at hx
          simp only at hx
          rcases List.mem_cons.1 hx with rfl | hx
          · exact ⟨h1, by omega, by omega⟩
          · obtain ⟨q1, q2, q3⟩ := ih (b.length - j) (by omega) j rfl h7 x hx
            exact ⟨q1, by omega, q3⟩
        · exact absurd h h7
      · rw [cutF_bad hk he] at h
        exact absurd h he
    · rw [cutF_end (by omega)] at hx
      cases hx
theorem cutF_one {b : List Int} (hb : Bytes b) (h0 : 0 < b.length) (h : (cutF b 0).2.2 = 0) : 0 < (cutF b 0).1.length := by
  by_cases he : (opsDec b (0 : Nat)).2.2 = 0
  · obtain ⟨j, hj, hj1, hj2⟩ := dec_next hb he
    have hd : opsDec b (0 : Nat) = ((opsDec b (0 : Nat)).1, (j : Int), 0) := Prod.ext rfl (Prod.ext hj he)
    rw [cutF_step hb h0 hd] at h ⊢
    split at h <;> rename_i h7
    · rw [if_pos h7]
      simp
    · exact absurd h h7
  · rw [cutF_bad h0 he] at h
    exact absurd h he
theorem cutF_len {b : List Int} (hb : Bytes b) : ∀ (n k : Nat), b.length - k = n → (cutF b k).1.length ≤ n := by
  intro n
  induction n using Nat.strongRecOn with
  | ind n ih =>
    intro k hn
    by_cases hk : k < b.length
    · by_cases he : (opsDec b k).2.2 = 0
      · obtain ⟨j, hj, hj1, hj2⟩ := dec_next hb he
        have hd : opsDec b k = ((opsDec b k).1, (j : Int), 0) := Prod.ext rfl (Prod.ext hj he)
        have := ih (b.length - j) (by omega) j rfl
        rw [cutF_step hb hk hd]
        split
        · simp; omega
        · omega
      · rw [cutF_bad hk he]; simp
    · rw [cutF_end (by omega)]; simp
/-- What cutting answers where it does. -/
theorem cutZ_parts {b : List Int} (h : (cutZ b).2.2 = 0) : b.length ≤ 8192 ∧ 0 < b.length ∧ cutF b 0 = cutZ b ∧ (∀ x ∈ (cutZ b).1, good (cutZ b).1 x = true) ∧ endsZ ((cutZ b).1.getD ((cutZ b).1.length - 1) i0).o = true := by
  unfold cutZ at h ⊢
  split at h <;> rename_i h1
  · cases h
  · rw [if_neg h1]
    split at h <;> rename_i h2
    · cases h
    · rw [if_neg h2]
      unfold cutL at h ⊢
      split at h <;> rename_i h3
      · rw [if_pos h3]
        split at h <;> rename_i h4
        · cases h
        · rw [if_neg h4]
          split at h <;> rename_i h5
          · rw [if_pos h5]
            refine ⟨by omega, by omega, Prod.ext rfl (Prod.ext (cuts_zero h3) h3), firstNot_all (by simpa using h4), h5⟩
          · cases h
      · exact absurd h h3
theorem cutZ_at {b : List Int} (h : (cutZ b).2.2 = 0) : (cutZ b).2.1 = 0 := by
  obtain ⟨_, _, h3, _⟩ := cutZ_parts h
  rw [← h3] at h ⊢
  exact cuts_zero h
theorem cutZ_none {b : List Int} (h : (cutZ b).2.2 ≠ 0) : (cutZ b).1 = [] := by
  unfold cutZ at h ⊢
  split at h <;> rename_i h1
  · rw [if_pos h1]
  · rw [if_neg h1]
    split at h <;> rename_i h2
    · rw [if_pos h2]
    · rw [if_neg h2]
      unfold cutL at h ⊢
      split at h <;> rename_i h3
      · rw [if_pos h3]
        split at h <;> rename_i h4
        · rw [if_pos h4]
        · rw [if_neg h4]
          split at h <;> rename_i h5
          · exact absurd rfl h
          · rw [if_neg h5]
      · rw [if_neg h3]
theorem cutZ_all {b : List Int} (hb : Bytes b) : ∀ x ∈ (cutZ b).1, mayI x = true ∧ 0 ≤ x.a ∧ x.a < b.length := by
  intro x hx
  by_cases h : (cutZ b).2.2 = 0
  · obtain ⟨_, _, h3, _⟩ := cutZ_parts h
    rw [← h3] at h hx
    have := cutF_all hb _ 0 rfl h x hx
    exact ⟨this.1, by omega, this.2.2⟩
  · rw [cutZ_none h] at hx
    cases hx
theorem cutZ_len {b : List Int} (hb : Bytes b) : (cutZ b).1.length ≤ 8192 := by
  by_cases h : (cutZ b).2.2 = 0
  · obtain ⟨h1, _, h3, _⟩ := cutZ_parts h
    rw [← h3]
    have := cutF_len hb _ 0 rfl
    omega
  · rw [cutZ_none h]; simp
/-- Instructions joined, each where the one ahead ends. -/
def joinF : List In → List Int → Option (List Int)
  | [], b => some b
  | x :: l, b => if mayI x = true ∧ x.a = b.length then joinF l (b ++ encB x) else none
def joinZ (l : List In) : List Int × Int := match joinF l [] with
  | none => ([], 70)
  | some b => if (cutZ b).2.2 = 0 then (b, 0) else ([], 70)
theorem joinF_more : ∀ {l : List In} {p b : List Int}, joinF l p = some b → ∃ r, b = p ++ r := by
  intro l
  induction l with
  | nil => intro p b h; injection h with h; exact ⟨[], by simp [h]⟩
  | cons x l ih =>
    intro p b h
    unfold joinF at h
    split at h
    · obtain ⟨r, hr⟩ := ih h
      exact ⟨encB x ++ r, by rw [hr, List.append_assoc]⟩
    · cases h
theorem joinF_bytes : ∀ {l : List In} {p b : List Int}, Bytes p → joinF l p = some b → Bytes b := by
  intro l
  induction l with
  | nil => intro p b hp h; injection h with h; exact h ▸ hp
  | cons x l ih =>
    intro p b hp h
    unfold joinF at h
    split at h
    · rename_i h1
      exact ih (fun c hc => (List.mem_append.1 hc).elim (hp c) (enc_all h1.1 c)) h
    · cases h
/-- What was joined is cut as it was. -/
theorem joinF_cut : ∀ {l : List In} {p b : List Int}, Bytes b → joinF l p = some b → cutF b p.length = (l, 0, 0) := by
  intro l
  induction l with
  | nil =>
    intro p b hb h
    injection h with h
    exact cutF_end (by rw [h]; omega)
  | cons x l ih =>
    intro p b hb h
    unfold joinF at h
    split at h
    · rename_i h1
      obtain ⟨h1, h2⟩ := h1
      have hi := ih hb h
      obtain ⟨r, hr⟩ := joinF_more h
      rw [List.append_assoc] at hr
      have hd := dec_enc h1 p r h2.symm
      rw [← hr, h2] at hd
      have he : (1 : Nat) ≤ (encB x).length := by simp [encB]
      have hl : (p ++ encB x).length = p.length + (encB x).length := List.length_append
      rw [hl] at hi
      rw [cutF_step hb (by rw [hr]; simp; omega) (by rw [hd]; simp : opsDec b (p.length : Nat) = (x, ((p.length + (encB x).length : Nat) : Int), 0)), hi]
      rfl
    · cases h
/-- What was cut is joined as it was. -/
theorem cutF_join {b : List Int} (hb : Bytes b) : ∀ (n k : Nat), b.length - k = n → k ≤ b.length → (cutF b k).2.2 = 0 → joinF (cutF b k).1 (b.take k) = some b := by
  intro n
  induction n using Nat.strongRecOn with
  | ind n ih =>
    intro k hn hkl h
    by_cases hk : k < b.length
    · by_cases he : (opsDec b k).2.2 = 0
      · obtain ⟨j, hj, hj1, hj2⟩ := dec_next hb he
        obtain ⟨h1, h2, h3, h4, h5, h6⟩ := enc_dec hb he
        have hd : opsDec b k = ((opsDec b k).1, (j : Int), 0) := Prod.ext rfl (Prod.ext hj he)
        rw [cutF_step hb hk hd] at h ⊢
        split at h <;> rename_i h7
        · rw [if_pos h7]
          simp only
          unfold joinF
          rw [if_pos ⟨h1, by rw [h3, List.length_take]; omega⟩]
          have e : b.take k ++ encB (opsDec b k).1 = b.take j := by
            rw [h6, hj, show ((j : Int) - (k : Int)).toNat = j - k by omega, Int.toNat_natCast]
            have e1 := List.take_add (l := b) (i := k) (j := j - k)
            rw [show k + (j - k) = j by omega] at e1
            exact e1.symm
          rw [e]
          exact ih (b.length - j) (by omega) j rfl hj2 h7
        · exact absurd h h7
      · rw [cutF_bad hk he] at h
        exact absurd h he
    · rw [cutF_end (by omega)]
      simp only [joinF]
      rw [List.take_of_length_le (by omega)]
theorem cut_joinZ {b : List Int} (hb : Bytes b) (h : (cutZ b).2.2 = 0) : joinZ (cutZ b).1 = (b, 0) := by
  obtain ⟨h1, h2, h3, h4, h5⟩ := cutZ_parts h
  have := cutF_join hb _ 0 rfl (by omega) (by rw [h3]; exact h)
  rw [h3, List.take_zero] at this
  unfold joinZ
  rw [this]
  simp only
  rw [if_pos h]
theorem joinF_cutZ {l : List In} {b : List Int} (h : joinF l [] = some b) (hz : (cutZ b).2.2 = 0) : (cutZ b).1 = l := by
  have hb := joinF_bytes (fun c hc => by cases hc) h
  have h1 := joinF_cut hb h
  obtain ⟨_, _, h3, _⟩ := cutZ_parts hz
  rw [← h3, show ([] : List Int).length = 0 from rfl] at *
  rw [h1]
/-- Where the first one stands that begins at a place. -/
def placeF (t : Int) : List In → Nat → Int × Bool
  | [], _ => (0, false)
  | x :: l, i => if x.a = t then ((i : Int), true) else placeF t l (i + 1)
def placeZ (l : List In) (t : Int) : Int × Bool := placeF t l 0
theorem placeF_next {t : Int} {l : List In} {k : Nat} (h : k < l.length) (hp : ¬ (l.getD k i0).a = t) : placeF t (l.drop k) k = placeF t (l.drop (k + 1)) (k + 1) := by
  have e : l.getD k i0 = l[k] := by simp [h]
  rw [e] at hp
  rw [List.drop_eq_getElem_cons h, placeF, if_neg hp]
theorem placeF_here {t : Int} {l : List In} {k : Nat} (h : k < l.length) (hp : (l.getD k i0).a = t) : placeF t (l.drop k) k = ((k : Int), true) := by
  have e : l.getD k i0 = l[k] := by simp [h]
  rw [e] at hp
  rw [List.drop_eq_getElem_cons h, placeF, if_pos hp]
theorem placeF_has {t : Int} : ∀ {l : List In} {k : Nat}, (placeF t l k).2 = hasAt l t := by
  intro l
  induction l with
  | nil => intro k; rfl
  | cons x l ih =>
    intro k
    unfold placeF
    have e : hasAt (x :: l) t = (decide (x.a = t) || hasAt l t) := by simp [hasAt]
    rw [e]
    by_cases h : x.a = t
    · rw [if_pos h, decide_eq_true h]
      rfl
    · rw [if_neg h, decide_eq_false h, Bool.false_or]
      exact ih
theorem hasAt_iff {l : List In} {t : Int} : hasAt l t = true ↔ ∃ x ∈ l, x.a = t := by simp [hasAt]
end Go.Proofs.Ythobicnhophdlaa
/- The project's decodeAll: one instruction behind the other. -/
namespace Go.Proofs.Ythobicnhophdlaa
open Go.RowKit
set_option linter.unusedVariables false

/-- What cutting answers: a list of the call's own, a place, an error. -/
def CutAns (B : Nat) (r : List In × Int × Int) (v : Value) (w' : World) : Prop := ∃ u, v = .tuple #[u, .int .i64 r.2.1, .int .i64 r.2.2] ∧ OwnI B w' u r.1
theorem bytes_row {w : World} {v : Value} {b : List Int} (h : Row w .u8 v b) : Bytes b := fun c hc => h.fit.u8 hc
theorem CutAns.bad {w : World} {B : Nat} {R : List In × Int × Int} {k e : Int} (h : R = ([], k, e)) : CutAns B R (.tuple #[.slice none 0 0, .int .i64 k, .int .i64 e]) w := by
  subst h
  exact ⟨_, rfl, OwnI.nil _ _⟩
theorem CutAns.good {w : World} {B : Nat} {R : List In × Int × Int} {u : Value} {l : List In} (h : R = (l, 0, 0)) (ho : OwnI B w u l) : CutAns B R (.tuple #[u, .int .i64 0, .int .i64 0]) w := by
  subst h
  exact ⟨_, rfl, ho⟩
set_option maxRecDepth 100000 in
set_option maxHeartbeats 4000000 in
theorem decodeAll_any (v : Value) (b : List Int) (w : World) (h : Row w .u8 v b) (hl : b.length ≤ 8192) :
    Calls Try.prog 8 #[v] w (Ret w (CutAns w.heap.size (cutF b 0))) := by
  have H := Lib.hid h
  have HB := Lib.hid (bytes_row h)
  obtain ⟨A, c, rfl, hc, hm, -⟩ := h
  unfold maxLen at hm
  obtain ⟨R, hR⟩ : ∃ R, cutF b 0 = R := ⟨_, rfl⟩
  have HC : Hid (Come b R [] 0) := Lib.hid (hR ▸ Come.start b)
  rw [hR]
  clear hR
  obtain ⟨n, hn⟩ : ∃ n, n = b.length := ⟨_, rfl⟩
  rw [← hn] at hc hl H ⊢
  have Hn := Lib.hid hn
  clear hn
  go_enter Try.func8, Try.ntmps8
  go_wp2
  go_loopw [2, 3] (fun u i wr => ∃ (k : Nat) (acc : List In), i = .int .i64 k ∧ k ≤ n ∧ acc.length ≤ k ∧ Hid (OwnI w.heap.size wr u acc) ∧ Hid (Come b R acc k) ∧ Hid (Ext w wr)) (fun _ i _ => n - (intOf i).toNat)
  case atStart => exact ⟨0, [], rfl, by omega, by simp, Lib.hid (OwnI.nil _ _), HC, Lib.hid (Ext.refl w)⟩
  case round =>
    obtain ⟨k, acc, rfl, hk, hak, HO, HCk, HX⟩ := hrel
    by_cases hlt : k < n
    · have hd := Decode_any _ b k wr (H.out.ext HX.out)
      obtain ⟨D, hD⟩ : ∃ D, opsDec b k = D := ⟨_, rfl⟩
      rw [hD] at hd
      obtain ⟨x, j, er⟩ := D
      have HD := Lib.hid hd
      by_cases he : er = 0
      · subst he
        obtain ⟨i, hi1, hi2, hi3⟩ := dec_next HB.out (k := k) (by rw [hD])
        rw [hD] at hi1
        simp only at hi1
        subst hi1
        have HN := Lib.hid (HCk.out.next HB.out (by have := Hn.out; omega) hD)
        rw [← Hn.out] at hi3
        clear hd hD
        go_wp2_with fail
        refine HD.out.mono ?_
        rintro e w1 ⟨v', rfl, ⟨u1, u2, rfl, o1, o2⟩, x1⟩
        obtain ⟨B1, n1, c1, rfl⟩ := o1.slice
        obtain ⟨B2, n2, c2, rfl⟩ := o2.slice
        have O1 := Lib.hid o1
        have O2 := Lib.hid o2
        have X1 := Lib.hid x1
        have hsz := HX.out.size
        have hsz1 := x1.size
        clear o1 o2 x1
        unfold In.vals
        go_wp2_with (at_builtin; go_loud (refine wpList_appI _ rfl _ _ w.heap.size rfl _ acc rfl ((HO.out.ext X1.out).ext (((Ext.refl _).alloc _).alloc _)) (w1.heap.size + 1) x (.slice B1 n1 c1) (.slice B2 n2 c2) 32 rfl (two_at' _ _ _) ((O1.out.base hsz).ext (((Ext.refl _).alloc _).alloc _)) ((O2.out.base hsz).ext (((Ext.refl _).alloc _).alloc _)) (by omega) (by simp; omega) ?_); intro u' w2 ho2 hg2 _)
        have X2 := Lib.hid ((((HX.out.trans X1.out).alloc (.cells #[.int .i64 x.a, .int .i64 x.o, .int .i64 x.n, .int .i64 x.m, .slice B1 n1 c1, .slice B2 n2 c2] 32)).alloc (.cells #[.int .i64 x.a, .int .i64 x.o, .int .i64 x.n, .int .i64 x.m, .slice B1 n1 c1, .slice B2 n2 c2] 32)).grown hg2 (fun g hg => HO.out.low g hg))
        have HO2 := Lib.hid ho2
        clear ho2 hg2
        go_wp2_with fail
        go_roundw
        case rel => exact ⟨i, acc ++ [x], rfl, hi3, by simp; omega, HO2, HN, X2⟩
        case measure => simp [intOf]; omega
      · have HE := Lib.hid (HCk.out.bad (by have := Hn.out; omega) (by rw [hD]; exact he))
        rw [hD] at HE
        have hb : (er != 0) = true := by simpa using he
        clear hd hD
        go_wp2_with fail
        refine HD.out.mono ?_
        rintro e w1 ⟨v', rfl, ⟨u1, u2, rfl, o1, o2⟩, x1⟩
        obtain ⟨B1, n1, c1, rfl⟩ := o1.slice
        obtain ⟨B2, n2, c2, rfl⟩ := o2.slice
        have X1 := Lib.hid x1
        clear o1 o2 x1
        unfold In.vals
        go_wp2
        go_ret3
        exact Ret.mk (CutAns.bad HE.out) ((HX.out.trans X1.out).alloc _)
    · have HE := Lib.hid (HCk.out.end_ (by have := Hn.out; omega))
      go_wp2
      go_ret3
      exact Ret.mk (CutAns.good HE.out HO.out) HX.out
end Go.Proofs.Ythobicnhophdlaa
/- The array of marks: a great array variable, made as one block of which only the cells' values are told. -/
namespace Go.Proofs.Ythobicnhophdlaa
open Go.RowKit
set_option linter.unusedVariables false

def isNo : Value → Bool
  | .bool false => true
  | _ => false
theorem isNo_eq {v : Value} (h : isNo v = true) : v = .bool false := by
  match v, h with
  | .bool false, _ => rfl
/-- The great array of marks, as it is made. -/
theorem zsome : (match Try.t66.zero with | some (.agg a) => decide (a.size = 8192) && a.toList.all isNo | _ => false) = true := by kernel_rfl
theorem zex : ∃ a : Array Value, Try.t66.zero = some (.agg a) ∧ a.size = 8192 ∧ a.toList.all isNo = true := by
  have h := zsome
  generalize Try.t66.zero = z at h ⊢
  match z, h with
  | some (.agg a), h =>
    have h := Bool.and_eq_true _ _ ▸ h
    exact ⟨a, rfl, of_decide_eq_true h.1, h.2⟩
noncomputable def zc : Array Value := Classical.choose zex
theorem zc_size : zc.size = 8192 := (Classical.choose_spec zex).2.1
theorem zc_ne : zc ≠ #[] := fun e => by
  have h := congrArg Array.size e
  rw [zc_size] at h
  cases h
theorem zc_run (w : World) : (zeroValue 66).run Try.prog w = .ok (.agg zc) w := by
  unfold zeroValue
  rw [Sem.run_bind, Try.typeInfo66, Result.andThen_ok, (Classical.choose_spec zex).1]
  rfl
theorem marks_fit : zc.toList.all isNo = true := (Classical.choose_spec zex).2.2
theorem marks_at {j : Nat} (h : j < 8192) : zc[j]? = some (.bool false) := by
  have hs := zc_size
  have h2 := List.all_eq_true.1 marks_fit _ (Array.getElem_mem_toList (by rw [hs]; exact h) : zc[j]'(by rw [hs]; exact h) ∈ _)
  rw [Array.getElem?_eq_getElem (by rw [hs]; exact h), isNo_eq h2]
end Go.Proofs.Ythobicnhophdlaa
/- The project's beginnings: a mark for each byte; the function literal that tells of them. -/
namespace Go.Proofs.Ythobicnhophdlaa
open Go.RowKit
set_option linter.unusedVariables false

/-- A block of marks. -/
def BG (w : World) (g : Nat) (l : List In) : Prop := ∃ C : Array Value, w.heap[g]? = some (.cells C 66 (0, 0)) ∧ C.size = 8192 ∧ ∀ j : Nat, j < 8192 → C[j]? = some (.bool (hasAt l j))
theorem BG.lt {w : World} {g : Nat} {l : List In} (h : BG w g l) : g < w.heap.size := by
  obtain ⟨C, h, -⟩ := h
  exact lt_of_get h
theorem BG.ext {w w' : World} {g : Nat} {l : List In} (h : BG w g l) (e : Ext w w') : BG w' g l := by
  obtain ⟨C, h1, h2⟩ := h
  exact ⟨C, (e.block g (lt_of_get h1)).trans h1, h2⟩
theorem BG.at {w : World} {g : Nat} {l : List In} (h : BG w g l) {p : Nat} (hp : p < 8192) : w.cell? ⟨g, p, none⟩ = some (.bool (hasAt l p)) ∧ w.frozen? ⟨g, p, none⟩ = false := by
  obtain ⟨C, h1, h2, h3⟩ := h
  refine ⟨?_, by simp [World.frozen?, h1]⟩
  rw [cell_of_row w g p C _ (0, 0) h1]
  exact h3 p hp
theorem BG.new (w : World) : BG (w.alloc (.cells zc 66)) w.heap.size [] := by
  refine ⟨_, heap_alloc_new w _, zc_size, fun j hj => ?_⟩
  rw [marks_at hj]
  rfl
theorem hasAt_one (l : List In) (x : In) (t : Int) : hasAt (l ++ [x]) t = (hasAt l t || decide (x.a = t)) := by simp [hasAt]
theorem BG.put {w : World} {g : Nat} {l : List In} (h : BG w g l) {p : Nat} (hp : p < 8192) {x : In} (hx : x.a = p) : BG (w.setCell ⟨g, p, none⟩ (.bool true)) g (l ++ [x]) := by
  obtain ⟨C, h1, h2, h3⟩ := h
  refine ⟨C.setIfInBounds p (.bool true), heap_setCell_same w g p C _ (.bool true) h1, by simpa using h2, fun j hj => ?_⟩
  rw [hasAt_one, hx]
  by_cases e : p = j
  · subst e
    rw [Array.getElem?_setIfInBounds_self_of_lt (by omega)]
    simp
  · rw [Array.getElem?_setIfInBounds_ne e, h3 j hj]
    have : ¬ (p : Int) = j := by omega
    simp [this]
theorem take_next {l : List In} {k : Nat} (h : k < l.length) : l.take (k + 1) = l.take k ++ [gn l k] := by
  rw [List.take_succ_eq_append_getElem h, gn_get h]
/-- Where instructions may begin. -/
def Within (l : List In) : Prop := ∀ x ∈ l, 0 ≤ x.a ∧ x.a < 8192
set_option maxRecDepth 100000 in
set_option maxHeartbeats 4000000 in
theorem beginnings_any (v : Value) (l : List In) (w : World) (h : RowI w v l) (ha : Within l) :
    Calls Try.prog 15 #[v] w fun e w' => ∃ g, e = .returned (.func (.func 27) #[] #[.pointer (some ⟨g, 0, none⟩)]) ∧ BG w' g l ∧ w.heap.size ≤ g ∧ Ext w w' := by
  have H := Lib.hid h
  obtain ⟨A, c, rfl, hc, hm, -⟩ := h.cut
  unfold maxLen at hm
  obtain ⟨n, hn⟩ : ∃ n, n = l.length := ⟨_, rfl⟩
  rw [← hn] at hc H ⊢
  have Hn := Lib.hid hn
  have HA := Lib.hid ha
  clear hn h ha
  have hz0 := zc_run
  have hz1 := zc_ne
  have hz2 := zc_size
  go_enter Try.func15, Try.ntmps15
  go_wp2
  go_loopw [8] (fun i wr => ∃ (k : Nat), i = .int .i64 k ∧ k ≤ n ∧ Hid (BG wr w.heap.size (l.take k)) ∧ Hid (Ext w wr)) (fun i _ => n - (intOf i).toNat)
  case atStart => exact ⟨0, rfl, by omega, Lib.hid (BG.new w), Lib.hid ((Ext.refl w).alloc _)⟩
  case round =>
    obtain ⟨k, rfl, hk, HP, HX⟩ := hrel
    by_cases hlt : k < n
    · have hkl : k < l.length := by have := Hn.out; omega
      obtain ⟨b, o, rfl, hat⟩ := H.out.at (by omega)
      obtain ⟨v1, v2, hat⟩ := hat k hkl
      obtain ⟨A1, c1, rfl, -⟩ := (hat _ HX.out).2.1
      obtain ⟨A2, c2, rfl, -⟩ := (hat _ HX.out).2.2
      obtain ⟨y0, y1, y2, y3, y4, y5⟩ := (hat _ HX.out).1
      have hw := HA.out _ (gn_mem hkl)
      have HT := Lib.hid (take_next hkl)
      obtain ⟨x, hx⟩ : ∃ x, gn l k = x := ⟨_, rfl⟩
      rw [hx] at y0 y1 y2 y3 y4 y5 hw HT
      obtain ⟨p, hp⟩ : ∃ p : Nat, x.a = p := ⟨x.a.toNat, by omega⟩
      have hp8 : p < 8192 := by omega
      obtain ⟨m1, m2⟩ := HP.out.at hp8
      have hlg := HP.out.lt
      have hne : ¬ w.heap.size = wr.heap.size := by omega
      rw [hp] at y0
      have HPX := Lib.hid hp
      clear hat hx hkl hw hp
      go_wp2_with fail
      go_roundw
      case rel => exact ⟨k + 1, by go_num, by omega, Lib.hid (by rw [HT.out]; exact (HP.out.put hp8 HPX.out).ext ((Ext.refl _).alloc _)), Lib.hid ((HX.out.set_ (p := ⟨w.heap.size, p, none⟩) (Nat.le_refl _) _).alloc _)⟩
      case measure => simp [intOf]; omega
    · obtain rfl : k = n := by omega
      go_wp2
      go_ret
      exact ⟨_, rfl, by have := HP.out; rwa [Hn.out, List.take_length] at this, Nat.le_refl _, HX.out⟩
theorem hasAt_out {l : List In} (ha : Within l) {t : Int} (h : ¬ (0 ≤ t ∧ t < 8192)) : hasAt l t = false := by
  rw [Bool.eq_false_iff]
  intro e
  obtain ⟨x, hx, rfl⟩ := hasAt_iff.1 e
  exact h (ha x hx)
set_option maxRecDepth 100000 in
set_option maxHeartbeats 4000000 in
theorem begins_any (t : Int) (g : Nat) (l : List In) (w : World) (h : BG w g l) (ha : Within l) :
    Calls Try.prog 27 #[.int .i64 t, .pointer (some ⟨g, 0, none⟩)] w fun e w' => e = .returned (.bool (hasAt l t)) ∧ w = w' := by
  by_cases h0 : 0 ≤ t
  · by_cases h1 : t < 8192
    · obtain ⟨p, rfl⟩ : ∃ p : Nat, t = p := ⟨t.toNat, by omega⟩
      obtain ⟨m1, m2⟩ := h.at (p := p) (by omega)
      obtain ⟨r, hr⟩ : ∃ r, hasAt l p = r := ⟨_, rfl⟩
      rw [hr] at m1 ⊢
      clear hr h ha
      go_enter Try.func27, Try.ntmps27
      go_wp2
      go_ret
      exact ⟨rfl, rfl⟩
    · rw [hasAt_out ha (by omega)]
      clear h ha
      go_enter Try.func27, Try.ntmps27
      go_wp2
      go_ret
      exact ⟨rfl, rfl⟩
  · rw [hasAt_out ha (by omega)]
    clear h ha
    go_enter Try.func27, Try.ntmps27
    go_wp2
    go_ret
    exact ⟨rfl, rfl⟩
end Go.Proofs.Ythobicnhophdlaa
/- The document's Place, begins, goes, walked. -/
namespace Go.Proofs.Ythobicnhophdlaa
open Go.RowKit
set_option linter.unusedVariables false

theorem ret_place {a b : Int × Bool} (h : a = b) : Ending.returned (.tuple #[.int .i64 a.1, .bool a.2]) = .returned (.tuple #[.int .i64 b.1, .bool b.2]) := by rw [h]
end Go.Proofs.Ythobicnhophdlaa
/- The project's astray: the function literals that look through instructions, and where they go. -/
namespace Go.Proofs.Ythobicnhophdlaa
open Go.RowKit
set_option linter.unusedVariables false

/-- The place of the first one of which something holds; -1: of none. -/
def idxP {α : Type} (p : α → Bool) : List α → Nat → Int
  | [], _ => -1
  | x :: l, i => if p x = true then (i : Int) else idxP p l (i + 1)
theorem idxP_next {α : Type} {p : α → Bool} {l : List α} {k : Nat} {x : α} (h : l[k]? = some x) (hp : p x = false) : idxP p (l.drop k) k = idxP p (l.drop (k + 1)) (k + 1) := by
  obtain ⟨hk, rfl⟩ := List.getElem?_eq_some_iff.1 h
  rw [List.drop_eq_getElem_cons hk, idxP, if_neg (by simp [hp])]
theorem idxP_here {α : Type} {p : α → Bool} {l : List α} {k : Nat} {x : α} (h : l[k]? = some x) (hp : p x = true) : idxP p (l.drop k) k = k := by
  obtain ⟨hk, rfl⟩ := List.getElem?_eq_some_iff.1 h
  rw [List.drop_eq_getElem_cons hk, idxP, if_pos hp]
theorem idxP_any {α : Type} {p : α → Bool} : ∀ {l : List α} {k : Nat}, decide (0 ≤ idxP p l k) = l.any p := by
  intro l
  induction l with
  | nil => intro k; rfl
  | cons x l ih =>
    intro k
    unfold idxP
    rw [List.any_cons]
    split
    · rename_i h
      rw [h]
      simp
    · rename_i h
      rw [ih]
      simp [h]
theorem gi_get {l : List Int} {k : Nat} (h : k < l.length) : l[k]? = some (gi l k) := by simp [gi, h]
/-- A variable that holds a function. -/
def FB (w : World) (f g : Nat) : Prop := w.heap[f]? = some (.cells #[.func (.func 27) #[] #[.pointer (some ⟨g, 0, none⟩)]] 36 (0, 0))
theorem FB.ext {w w' : World} {f g : Nat} (h : FB w f g) (e : Ext w w') : FB w' f g := (e.block f (lt_of_get h)).trans h
theorem FB.cell {w : World} {f g : Nat} (h : FB w f g) : w.cell? ⟨f, 0, none⟩ = some (.func (.func 27) #[] #[.pointer (some ⟨g, 0, none⟩)]) := by
  rw [cell_of_row w f 0 _ _ (0, 0) h]
  rfl
set_option maxRecDepth 100000 in
theorem bad_any (t : Int) (f g : Nat) (l : List In) (w : World) (hf : FB w f g) (h : BG w g l) (ha : Within l) :
    Calls Try.prog 19 #[.int .i64 t, .pointer (some ⟨f, 0, none⟩)] w fun e w' => e = .returned (.bool (!hasAt l t)) ∧ w = w' := by
  have c0 := hf.cell
  have HB := Lib.hid (begins_any t g l w h ha)
  clear hf h ha
  go_enter Try.func19, Try.ntmps19
  go_wp2_with fail
  refine HB.out.mono ?_
  rintro e w1 ⟨rfl, rfl⟩
  go_wp2
  go_ret
  exact ⟨rfl, rfl⟩
set_option maxRecDepth 100000 in
set_option maxHeartbeats 4000000 in
theorem indexInts_any (v : Value) (s : List Int) (f g : Nat) (l : List In) (w : World) (h : Row w .i64 v s) (hf : FB w f g) (hg : BG w g l) (ha : Within l) :
    Calls Try.prog 28 #[v, .func (.func 19) #[] #[.pointer (some ⟨f, 0, none⟩)]] w fun e w' => e = .returned (.int .i64 (idxP (fun t => !hasAt l t) s 0)) ∧ w = w' := by
  have H := Lib.hid h
  obtain ⟨A, c, rfl, hc, hm, -, -, hcell⟩ := h
  unfold maxLen at hm
  obtain ⟨n, hn⟩ : ∃ n, n = s.length := ⟨_, rfl⟩
  rw [← hn] at hc H hcell ⊢
  have Hn := Lib.hid hn
  have HB := Lib.hid (fun t => bad_any t f g l w hf hg ha)
  obtain ⟨R, hR⟩ : ∃ R, idxP (fun t => !hasAt l t) s 0 = R := ⟨_, rfl⟩
  have HR := Lib.hid hR
  rw [hR]
  clear hn hf hg ha hR
  go_enter Try.func28, Try.ntmps28
  go_wp2
  go_loopw [8] (fun i wr => ∃ (k : Nat), i = .int .i64 k ∧ k ≤ n ∧ Hid (R = idxP (fun t => !hasAt l t) (s.drop k) k) ∧ w = wr) (fun i _ => n - (intOf i).toNat)
  case atStart => exact ⟨0, rfl, by omega, Lib.hid HR.out.symm, rfl⟩
  case round =>
    obtain ⟨k, rfl, hk, HP, rfl⟩ := hrel
    by_cases hlt : k < n
    · obtain ⟨b, o, rfl, hb, hx⟩ := hcell (by omega)
      have y0 := hx k hlt
      have hget := gi_get (l := s) (k := k) (by have := Hn.out; omega)
      obtain ⟨t, ht⟩ : ∃ t, gi s k = t := ⟨_, rfl⟩
      rw [ht] at y0 hget
      have hbt := HB.out t
      by_cases he : hasAt l t = true
      · rw [he, Bool.not_true] at hbt
        have HT := Lib.hid hbt
        have HE := Lib.hid (HP.out.trans (idxP_next hget (by simp [he])))
        clear hx hcell ht hget he hbt
        go_wp2_with fail
        refine HT.out.mono ?_
        rintro e w1 ⟨rfl, rfl⟩
        go_wp2_with fail
        go_roundw
        case rel => exact ⟨k + 1, by go_num, by omega, HE, trivial⟩
        case measure => simp [intOf]; omega
      · have he : hasAt l t = false := by simpa using he
        rw [he, Bool.not_false] at hbt
        have HT := Lib.hid hbt
        have HE := Lib.hid (HP.out.trans (idxP_here hget (by simp [he])))
        clear hx hcell ht hget he hbt
        go_wp2_with fail
        refine HT.out.mono ?_
        rintro e w1 ⟨rfl, rfl⟩
        go_wp2
        go_ret
        exact ⟨by rw [HE.out]; rfl, rfl⟩
    · have HE := Lib.hid (show R = -1 by rw [HP.out, List.drop_of_length_le (by have := Hn.out; omega)]; rfl)
      go_wp2
      go_ret
      exact ⟨by rw [HE.out]; rfl, rfl⟩
set_option maxRecDepth 100000 in
theorem containsInts_any (v : Value) (s : List Int) (f g : Nat) (l : List In) (w : World) (h : Row w .i64 v s) (hf : FB w f g) (hg : BG w g l) (ha : Within l) :
    Calls Try.prog 18 #[v, .func (.func 19) #[] #[.pointer (some ⟨f, 0, none⟩)]] w fun e w' => e = .returned (.bool (s.any fun t => !hasAt l t)) ∧ w = w' := by
  have HI := Lib.hid (indexInts_any v s f g l w h hf hg ha)
  rw [← idxP_any (p := fun t => !hasAt l t) (l := s) (k := 0)]
  obtain ⟨A, c, rfl, -⟩ := h
  obtain ⟨R, hR⟩ : ∃ R, idxP (fun t => !hasAt l t) s 0 = R := ⟨_, rfl⟩
  rw [hR] at HI ⊢
  clear hf hg ha hR
  go_enter Try.func18, Try.ntmps18
  go_wp2_with fail
  refine HI.out.mono ?_
  rintro e w1 ⟨rfl, rfl⟩
  go_wp2
  go_ret
  exact ⟨rfl, rfl⟩
theorem any_not {s : List Int} {p : Int → Bool} : (!s.any fun t => !p t) = s.all p := by
  induction s with
  | nil => rfl
  | cons x s ih => rw [List.any_cons, List.all_cons, ← ih]; cases p x <;> simp
set_option maxRecDepth 100000 in
set_option maxHeartbeats 4000000 in
theorem astray1_any (x : In) (v1 v2 : Value) (f g : Nat) (l : List In) (w : World) (h1 : Row w .i64 v1 x.to) (h2 : Row w .i64 v2 x.ks) (hf : FB w f g) (hg : BG w g l) (ha : Within l) :
    Calls Try.prog 17 #[.agg (x.vals v1 v2), .pointer (some ⟨f, 0, none⟩)] w fun e w' => e = .returned (.bool (good l x)) ∧ Ext w w' := by
  obtain ⟨A1, k1, rfl, -⟩ := id h1
  obtain ⟨A2, k2, rfl, -⟩ := id h2
  have HI := Lib.hid (fun W (e : Ext w W) => containsInts_any _ x.to f g l W (h1.ext e) (hf.ext e) (hg.ext e) ha)
  obtain ⟨d0, d1, d2, d3, d4, d5⟩ := boxed (w := w) (x := x) (v1 := .slice A1 x.to.length k1) (v2 := .slice A2 x.ks.length k2) (Ext.refl _)
  unfold In.vals at d0 d1 d2 d3 d4 d5 ⊢
  unfold good
  rw [← any_not]
  obtain ⟨r, hr⟩ : ∃ r, (x.to.any fun t => !hasAt l t) = r := ⟨_, rfl⟩
  rw [hr] at HI ⊢
  clear hr h1 h2 hf hg ha
  go_enter Try.func17, Try.ntmps17
  go_wp2_with fail
  refine (HI.out _ ((Ext.refl w).alloc _)).mono ?_
  rintro e w1 ⟨rfl, rfl⟩
  go_wp2
  go_ret
  exact ⟨rfl, (Ext.refl w).alloc _⟩
set_option maxRecDepth 100000 in
set_option maxHeartbeats 4000000 in
/-- firstBut, with any function literal that tells of instructions. -/
theorem firstBut_any (fid : FuncId) (caps : Array Value) (p : In → Bool) (v : Value) (l : List In) (w : World) (h : RowI w v l)
    (hc : ∀ args W, (callFunc fid args).run Try.prog W = .ok (.enter fid args) W)
    (hp : ∀ W, Ext w W → ∀ x ∈ l, ∀ v1 v2, Row W .i64 v1 x.to → Row W .i64 v2 x.ks → Calls Try.prog fid (#[.agg (x.vals v1 v2)] ++ caps) W fun e w' => e = .returned (.bool (p x)) ∧ Ext W w') :
    Calls Try.prog 16 #[v, .func (.func fid) #[] caps] w fun e w' => e = .returned (.tuple #[.int .i64 (firstNot p l).1, .bool (firstNot p l).2]) ∧ Ext w w' := by
  have H := Lib.hid h
  obtain ⟨A, c, rfl, hc0, hm, -⟩ := h.cut
  unfold maxLen at hm
  obtain ⟨n, hn⟩ : ∃ n, n = l.length := ⟨_, rfl⟩
  rw [← hn] at hc0 H ⊢
  have Hn := Lib.hid hn
  have HP := Lib.hid hp
  obtain ⟨F, hF⟩ : ∃ F, firstNot p l = F := ⟨_, rfl⟩
  have HF := Lib.hid hF
  rw [hF]
  clear hn h hp hF
  go_enter Try.func16, Try.ntmps16
  go_wp2
  go_loopw [10] (fun i wr => ∃ (k : Nat), i = .int .i64 k ∧ k ≤ n ∧ Hid (F = firstNot p (l.drop k)) ∧ Hid (Ext w wr)) (fun i _ => n - (intOf i).toNat)
  case atStart => exact ⟨0, rfl, by omega, Lib.hid HF.out.symm, Lib.hid (Ext.refl w)⟩
  case round =>
    obtain ⟨k, rfl, hk, HQ, HX⟩ := hrel
    by_cases hlt : k < n
    · have hkl : k < l.length := by have := Hn.out; omega
      obtain ⟨b, o, rfl, hat⟩ := H.out.at (by omega)
      obtain ⟨v1, v2, hat⟩ := hat k hkl
      have hr1 := (hat _ HX.out).2.1
      have hr2 := (hat _ HX.out).2.2
      obtain ⟨A1, c1, rfl, -⟩ := id hr1
      obtain ⟨A2, c2, rfl, -⟩ := id hr2
      obtain ⟨y0, y1, y2, y3, y4, y5⟩ := (hat _ HX.out).1
      have HC := Lib.hid (fun W (e : Ext wr W) => HP.out W (HX.out.trans e) _ (gn_mem hkl) _ _ (hr1.ext e) (hr2.ext e))
      have hN : p (gn l k) = true → F = firstNot p (l.drop (k + 1)) := fun e => HQ.out.trans (firstNot_next hkl e)
      have hH : p (gn l k) = false → F = ((gn l k).a, true) := fun e => HQ.out.trans (firstNot_here hkl e)
      obtain ⟨x, hx⟩ : ∃ x, gn l k = x := ⟨_, rfl⟩
      rw [hx] at y0 y1 y2 y3 y4 y5 HC hN hH
      have HB := Lib.hid (fun W e => boxed (w := wr) (W := W) (x := x) (v1 := .slice A1 x.to.length c1) (v2 := .slice A2 x.ks.length c2) e)
      obtain ⟨d0, d1, d2, d3, d4, d5⟩ := HB.out _ (Ext.refl _)
      unfold In.vals at HC HB d0 d1 d2 d3 d4 d5
      obtain ⟨r, hr⟩ : ∃ r, p x = r := ⟨_, rfl⟩
      rw [hr] at HC hN hH
      have HN := Lib.hid hN
      have HH := Lib.hid hH
      clear hat hx hkl hr hr1 hr2 hN hH
      go_wp2_with fail
      refine (HC.out _ ((Ext.refl wr).alloc _)).mono ?_
      rintro e w1 ⟨rfl, x1⟩
      have X1 := Lib.hid x1
      clear d0 d1 d2 d3 d4 d5 x1
      obtain ⟨d0, d1, d2, d3, d4, d5⟩ := HB.out _ X1.out
      cases r
      · have HE := Lib.hid (HH.out rfl)
        go_wp2
        go_ret2
        exact ⟨ret_place HE.out.symm, (HX.out.alloc _).trans X1.out⟩
      · have HE := Lib.hid (HN.out rfl)
        go_wp2_with fail
        go_roundw
        case rel => exact ⟨k + 1, by go_num, by omega, HE, Lib.hid ((HX.out.alloc _).trans X1.out)⟩
        case measure => simp [intOf]; omega
    · have HE := Lib.hid (show F = (0, false) by rw [HQ.out, List.drop_of_length_le (by have := Hn.out; omega)]; rfl)
      go_wp2
      go_ret2
      exact ⟨ret_place HE.out.symm, HX.out⟩
end Go.Proofs.Ythobicnhophdlaa
/- Whether a method's code fits: plain mathematics. -/
namespace Go.Proofs.Ythobicnhophdlaa
set_option linter.unusedVariables false

/-- Is that the place of a constant of one of two kinds? -/
def isKZ (pool : List Cst) (n a b : Int) : Bool := decide (0 < n) && (decide (n < pool.length) && (decide ((gc pool n.toNat).k = a) || decide ((gc pool n.toNat).k = b)))
/-- Does an instruction fit? -/
def fitZ (lo : Int) (pool : List Cst) (x : In) : Bool :=
  if x.o = 6 ∨ x.o = 9 then decide (x.n + 1 < lo) else if 5 ≤ x.o ∧ x.o ≤ 11 then decide (x.n < lo) else if x.o = 3 then isKZ pool x.n 2 3
  else if 61 ≤ x.o ∧ x.o ≤ 64 then isKZ pool x.n 5 5 else if x.o = 65 ∨ x.o = 68 ∨ x.o = 76 ∨ x.o = 77 then isKZ pool x.n 4 4
  else if 79 ≤ x.o ∧ x.o ≤ 82 then isKZ pool x.n 6 6 else true
/-- Does a handler? -/
def handZ (l : List In) (len : Int) (pool : List Cst) (h : Hd) : Bool := hasAt l h.f && (hasAt l h.a && (decide (h.f < h.t) && ((hasAt l h.t || decide (h.t = len)) && (decide (h.c = 0) || isKZ pool h.c 4 4))))
def handsZ (l : List In) (m : Me) (pool : List Cst) : Bool := m.hs.all (handZ l m.code.length pool) && decide (m.hs.length ≤ 256)
def roomZ (m : Me) : Bool := decide (0 ≤ m.sk ∧ m.sk ≤ 255 ∧ 0 ≤ m.lo ∧ m.lo ≤ 255)
/-- Does the code fit, once it is cut? -/
def chkL (m : Me) (pool : List Cst) (R : List In × Int × Int) : List In × Int × Int :=
  if R.2.2 = 0 then
    if (firstNot (fitZ m.lo pool) R.1).2 = true then ([], (firstNot (fitZ m.lo pool) R.1).1, 70)
    else if roomZ m = true ∧ handsZ R.1 m pool = true then (R.1, 0, 0) else ([], 0, 70)
  else ([], R.2.1, R.2.2)
def checkZ (m : Me) (pool : List Cst) : List In × Int × Int := chkL m pool (cutZ m.code)
/-- The handlers that have a place, from a number on. -/
def covF (t : Int) : List Hd → Nat → List Int
  | [], _ => []
  | h :: l, i => if h.f ≤ t ∧ t < h.t then (i : Int) :: covF t l (i + 1) else covF t l (i + 1)
def coverZ (hs : List Hd) (t : Int) : List Int := covF t hs 0
theorem covF_yes {t : Int} {l : List Hd} {k : Nat} (h : k < l.length) (h1 : (gh l k).f ≤ t ∧ t < (gh l k).t) : covF t (l.drop k) k = (k : Int) :: covF t (l.drop (k + 1)) (k + 1) := by
  have e : gh l k = l[k] := by simp [gh, h]
  rw [e] at h1
  rw [List.drop_eq_getElem_cons h, covF, if_pos h1]
theorem covF_no {t : Int} {l : List Hd} {k : Nat} (h : k < l.length) (h1 : ¬ ((gh l k).f ≤ t ∧ t < (gh l k).t)) : covF t (l.drop k) k = covF t (l.drop (k + 1)) (k + 1) := by
  have e : gh l k = l[k] := by simp [gh, h]
  rw [e] at h1
  rw [List.drop_eq_getElem_cons h, covF, if_neg h1]
theorem covF_len {t : Int} : ∀ {l : List Hd} {k : Nat}, (covF t l k).length ≤ l.length := by
  intro l
  induction l with
  | nil => intro k; simp [covF]
  | cons h l ih =>
    intro k
    unfold covF
    split
    · have := ih (k := k + 1)
      simp
      omega
    · have := ih (k := k + 1)
      simp
      omega
theorem covF_in {t : Int} : ∀ {l : List Hd} {k : Nat}, ∀ x ∈ covF t l k, (k : Int) ≤ x ∧ x < k + l.length := by
  intro l
  induction l with
  | nil => intro k x hx; cases hx
  | cons h l ih =>
    intro k x hx
    unfold covF at hx
    split at hx
    · rcases List.mem_cons.1 hx with rfl | hx
      · simp; omega
      · have := ih x hx
        simp at this ⊢
        omega
    · have := ih x hx
      simp at this ⊢
      omega
theorem gh_get {l : List Hd} {k : Nat} (h : k < l.length) : gh l k = l[k] := by simp [gh, h]
theorem gh_some {l : List Hd} {k : Nat} (h : k < l.length) : l[k]? = some (gh l k) := by rw [gh_get h]; simp [h]
theorem gh_mem {l : List Hd} {k : Nat} (h : k < l.length) : gh l k ∈ l := by rw [gh_get h]; exact List.getElem_mem h
end Go.Proofs.Ythobicnhophdlaa
/- Code with more code behind it: what comes of both. -/
namespace Go.Proofs.Ythobicnhophdlaa
open Go.RowKit
set_option linter.unusedVariables false

/-- An instruction, moved. -/
def mv (d : Int) (x : In) : In := ⟨x.a + d, x.o, x.n, x.m, x.to.map (· + d), x.ks⟩
theorem tos_mv (d a : Int) : ∀ ts : List Int, tos (a + d) (ts.map (· + d)) = tos a ts
  | [] => rfl
  | t :: r => by
    simp only [List.map_cons, tos]
    rw [tos_mv d a r, show t + d - (a + d) = t - a by omega]
theorem kts_mv (d a : Int) : ∀ ks ts : List Int, kts (a + d) ks (ts.map (· + d)) = kts a ks ts
  | [], ts => by cases ts <;> rfl
  | k :: ks, [] => rfl
  | k :: ks, t :: r => by
    simp only [List.map_cons, kts]
    rw [kts_mv d a ks r, show t + d - (a + d) = t - a by omega]
theorem fieldsOk_mv (d : Int) (x : In) : fieldsOk (mv d x) = fieldsOk x := by
  unfold fieldsOk mv
  simp only [List.length_map, List.map_eq_nil_iff]
theorem headD_mv {d a : Int} {ts : List Int} (h : 0 < ts.length) : (ts.map (· + d)).headD 0 - (a + d) = ts.headD 0 - a := by
  match ts, h with
  | t :: r, _ =>
    simp only [List.map_cons, List.headD_cons]
    omega
theorem tailB_mv {d : Int} {x : In} (h : fieldsOk x = true) : tailB (mv d x) = tailB x := by
  have hf : (shapeZ x.o = 4 ∨ shapeZ x.o = 6 ∨ shapeZ x.o = 7) → 0 < x.to.length := by
    intro hz
    unfold fieldsOk at h
    simp only [Bool.and_eq_true] at h
    obtain ⟨⟨⟨h1, h2⟩, h3⟩, h4⟩ := h
    rcases hz with hz | hz | hz
    · rw [if_pos hz] at h3
      have := of_decide_eq_true h3
      omega
    · rw [if_neg (by omega), if_neg (by omega), if_neg (by omega), if_pos hz] at h1
      simp only [Bool.and_eq_true, decide_eq_true_eq] at h1
      omega
    · rw [if_neg (by omega), if_neg (by omega), if_pos hz] at h3
      have := of_decide_eq_true h3
      omega
  unfold tailB mv
  simp only
  by_cases h4 : shapeZ x.o = 4
  · rw [headD_mv (hf (.inl h4)), ← List.map_tail, tos_mv, kts_mv, List.length_map]
  · by_cases h6 : shapeZ x.o = 6
    · rw [headD_mv (hf (.inr (.inl h6))), ← List.map_tail, tos_mv, kts_mv, List.length_map]
    · by_cases h7 : shapeZ x.o = 7
      · rw [headD_mv (hf (.inr (.inr h7))), ← List.map_tail, tos_mv, kts_mv, List.length_map]
      · simp only [if_neg h4, if_neg h6, if_neg h7]
theorem mayI_parts {x : In} (h : mayI x = true) : (0 ≤ x.a ∧ x.a < 8192 ∧ 0 ≤ x.o ∧ x.o ≤ 89) ∧ (∀ t ∈ x.to, mayTo x.a t = true) ∧ fieldsOk x = true ∧ rise x.ks = true := by
  unfold mayI at h
  simp only [Bool.and_eq_true, List.all_eq_true] at h
  exact ⟨of_decide_eq_true h.1.1.1, h.1.1.2, h.1.2, h.2⟩
theorem mayI_mv {d : Int} {x : In} (h : mayI x = true) (ha : 0 ≤ x.a + d ∧ x.a + d < 8192) (ht : ∀ t ∈ x.to, 0 ≤ t + d ∧ t + d < 8192) : mayI (mv d x) = true := by
  obtain ⟨h1, h2, h3, h4⟩ := mayI_parts h
  have e : mayI (mv d x) = (decide (0 ≤ x.a + d ∧ x.a + d < 8192 ∧ 0 ≤ x.o ∧ x.o ≤ 89) && (x.to.map (· + d)).all (mayTo (x.a + d)) && fieldsOk (mv d x) && rise x.ks) := rfl
  rw [e, fieldsOk_mv, h3, h4]
  simp only [Bool.and_eq_true, List.all_eq_true, and_true]
  refine ⟨decide_eq_true ⟨ha.1, ha.2, h1.2.2⟩, fun u hu => ?_⟩
  obtain ⟨t, hm, rfl⟩ := List.mem_map.1 hu
  have h5 := of_decide_eq_true (h2 t hm)
  have h6 := ht t hm
  exact decide_eq_true ⟨h6.1, h6.2, by omega, by omega⟩
theorem joinF_app : ∀ (l m : List In) (p : List Int), joinF (l ++ m) p = (joinF l p).bind (joinF m) := by
  intro l
  induction l with
  | nil => intro m p; rfl
  | cons x l ih =>
    intro m p
    simp only [List.cons_append, joinF]
    split
    · exact ih m _
    · rfl
theorem joinF_mv (q : List Int) : ∀ (m : List In) (p b : List Int), joinF m p = some b → (∀ x ∈ m, 0 ≤ x.a + q.length ∧ x.a + q.length < 8192 ∧ ∀ t ∈ x.to, 0 ≤ t + q.length ∧ t + q.length < 8192) → joinF (m.map (mv q.length)) (q ++ p) = some (q ++ b) := by
  intro m
  induction m with
  | nil =>
    intro p b h _
    simp only [joinF, Option.some.injEq] at h
    subst h
    rfl
  | cons x m ih =>
    intro p b h hx
    simp only [joinF] at h
    split at h
    · rename_i h1
      have h2 := hx x List.mem_cons_self
      simp only [List.map_cons, joinF]
      rw [if_pos ⟨mayI_mv h1.1 ⟨h2.1, h2.2.1⟩ h2.2.2, by
        show x.a + q.length = _
        rw [h1.2, List.length_append]
        omega⟩, List.append_assoc, show encB (mv q.length x) = encB x from by
          unfold encB
          rw [tailB_mv (mayI_parts h1.1).2.2.1]
          rfl]
      exact ih _ _ h fun y hy => hx y (List.mem_cons_of_mem _ hy)
    · cases h
theorem cut_app {a b : List Int} (ha : Bytes a) (hb : Bytes b) (la : a.length ≤ 4000) (lb : b.length ≤ 4000) (h1 : (cutZ a).2.2 = 0) (h2 : (cutZ b).2.2 = 0) :
    cutZ (a ++ b) = ((cutZ a).1 ++ (cutZ b).1.map (mv a.length), 0, 0) := by
  obtain ⟨a1, a2, a3, a4, a5⟩ := cutZ_parts h1
  obtain ⟨b1, b2, b3, b4, b5⟩ := cutZ_parts h2
  have ja := cutF_join ha _ 0 rfl (by omega) (by rw [a3]; exact h1)
  have jb := cutF_join hb _ 0 rfl (by omega) (by rw [b3]; exact h2)
  rw [a3, List.take_zero] at ja
  rw [b3, List.take_zero] at jb
  have hall := cutZ_all hb
  have hb0 : 0 < (cutZ b).1.length := by
    have := cutF_one hb b2 (by rw [b3]; exact h2)
    rwa [b3] at this
  obtain ⟨l, hl⟩ : ∃ l, (cutZ a).1 = l := ⟨_, rfl⟩
  obtain ⟨m, hm⟩ : ∃ m, (cutZ b).1 = m := ⟨_, rfl⟩
  rw [hl] at ja a4 a5 ⊢
  rw [hm] at jb b4 b5 hall hb0 ⊢
  have hpl : ∀ t, hasAt m t = true → 0 ≤ t ∧ t < b.length := by
    intro t ht
    obtain ⟨x, hx, rfl⟩ := hasAt_iff.1 ht
    exact ⟨(hall x hx).2.1, (hall x hx).2.2⟩
  have hto : ∀ x ∈ m, ∀ t ∈ x.to, hasAt m t = true := fun x hx t ht => List.all_eq_true.1 (b4 x hx) t ht
  have jm := joinF_mv a m [] b jb fun x hx => ⟨by have := (hall x hx).2; omega, by have := (hall x hx).2; omega, fun t ht => by have := hpl t (hto x hx t ht); omega⟩
  rw [List.append_nil] at jm
  have jall : joinF (l ++ m.map (mv a.length)) [] = some (a ++ b) := by rw [joinF_app, ja]; exact jm
  have hab : Bytes (a ++ b) := fun c hc => (List.mem_append.1 hc).elim (ha c) (hb c)
  have hc := joinF_cut hab jall
  have hg : ∀ x ∈ l ++ m.map (mv a.length), good (l ++ m.map (mv a.length)) x = true := by
    intro x hx
    refine List.all_eq_true.2 fun t ht => ?_
    rcases List.mem_append.1 hx with hx | hx
    · obtain ⟨y, hy, e⟩ := hasAt_iff.1 (List.all_eq_true.1 (a4 x hx) t ht)
      exact hasAt_iff.2 ⟨y, List.mem_append_left _ hy, e⟩
    · obtain ⟨x0, hx0, rfl⟩ := List.mem_map.1 hx
      obtain ⟨t0, ht0, rfl⟩ := List.mem_map.1 ht
      obtain ⟨y, hy, e⟩ := hasAt_iff.1 (hto x0 hx0 t0 ht0)
      exact hasAt_iff.2 ⟨mv a.length y, List.mem_append_right _ (List.mem_map.2 ⟨y, hy, rfl⟩), by show y.a + _ = _; rw [e]⟩
  unfold cutZ
  rw [if_neg (by rw [List.length_append]; omega), if_neg (by rw [List.length_append]; omega), show ([] : List Int).length = 0 from rfl] at *
  rw [hc]
  unfold cutL
  rw [if_pos rfl, firstNot_none hg, if_neg (by simp), if_pos]
  have e : ((l ++ m.map (mv a.length)).getD ((l ++ m.map (mv a.length)).length - 1) i0).o = (m.getD (m.length - 1) i0).o := by
    rw [List.getD_eq_getElem?_getD, List.getD_eq_getElem?_getD, List.getElem?_append_right (by simp; omega), List.length_append, List.length_map, show l.length + m.length - 1 - l.length = m.length - 1 by omega, List.getElem?_map, List.getElem?_eq_getElem (by omega)]
    rfl
  rw [e]
  exact b5
end Go.Proofs.Ythobicnhophdlaa
