/- Words for lists of types in memory: a struct of two cells each; lists that a call has made; append onto them. -/
import Derived.Test.YtibcaienaejgpaaDescC
import Derived.Laws.StructEq
namespace Go.Proofs.Ytibcaienaejgpaa
open Go.RowKit
set_option linter.unusedVariables false

/-- An int of 64 bits. -/
def I64 (x : Int) : Prop := -9223372036854775808 ≤ x ∧ x ≤ 9223372036854775807
theorem i64_zero : I64 0 := ⟨by decide, by decide⟩
/-- A type that can lie in memory. -/
def Ty.ok (t : Ty) : Prop := I64 t.k ∧ t.s.length ≤ 140737488351232
theorem t0_ok : t0.ok := ⟨i64_zero, by decide⟩
/-- The type at a place; none past the end. -/
def gt (l : List Ty) (j : Nat) : Ty := l.getD j t0
/-- A type's two cells from a place on. -/
def At2 (w : World) (b o : Nat) (x : Ty) : Prop := w.cell? ⟨b, o, none⟩ = some (.int .i64 x.k) ∧ w.cell? ⟨b, o + 1, none⟩ = some (.string (bs x.s))
/-- A slice value reads as a list of types. -/
def RowT (w : World) (v : Value) (l : List Ty) : Prop :=
  ∃ (A : Option Addr) (c : Nat), v = .slice A l.length c ∧ l.length ≤ c ∧ c ≤ maxLen ∧ (A = none → c = 0) ∧ (∀ x ∈ l, x.ok) ∧
    (0 < l.length → ∃ b o, A = some ⟨b, o, none⟩ ∧ b < w.heap.size ∧ ∀ j, j < l.length → At2 w b (o + j * 2) (gt l j))
theorem At2.ext {w w' : World} {b o : Nat} {x : Ty} (h : At2 w b o x) (he : Ext w w') (hb : b < w.heap.size) : At2 w' b o x := by
  obtain ⟨h0, h1⟩ := h
  exact ⟨(he.cell (p := ⟨b, o, none⟩) hb).trans h0, (he.cell (p := ⟨b, o + 1, none⟩) hb).trans h1⟩
theorem RowT.ext {w w' : World} {v : Value} {l : List Ty} (h : RowT w v l) (he : Ext w w') : RowT w' v l := by
  obtain ⟨A, c, h1, h2, h3, h4, h5, h6⟩ := h
  refine ⟨A, c, h1, h2, h3, h4, h5, fun hl => ?_⟩
  obtain ⟨b, o, ha, hb, hc⟩ := h6 hl
  exact ⟨b, o, ha, Nat.lt_of_lt_of_le hb he.size, fun j hj => (hc j hj).ext he hb⟩
theorem gt_mem {l : List Ty} {j : Nat} (h : j < l.length) : gt l j ∈ l := by
  unfold gt
  rw [List.getD_eq_getElem?_getD, List.getElem?_eq_getElem h]
  exact List.getElem_mem h
theorem gt_past {l : List Ty} {j : Nat} (h : l.length ≤ j) : gt l j = t0 := by
  unfold gt
  rw [List.getD_eq_getElem?_getD, List.getElem?_eq_none h]
  rfl
theorem gt_ok {l : List Ty} (h : ∀ x ∈ l, x.ok) (j : Nat) : (gt l j).ok := by
  by_cases hj : j < l.length
  · exact h _ (gt_mem hj)
  · rw [gt_past (by omega)]
    exact t0_ok
theorem RowT.all {w : World} {v : Value} {l : List Ty} (h : RowT w v l) : ∀ x ∈ l, x.ok := by
  obtain ⟨A, c, h1, h2, h3, h4, h5, h6⟩ := h
  exact h5
theorem RowT.nil (w : World) : RowT w (.slice none 0 0) [] := ⟨none, 0, rfl, Nat.le_refl _, by simp [maxLen], fun _ => rfl, (fun _ h => by cases h), fun h => by simp at h⟩
/-- The list as append lays it: a row of the call's own. -/
def OwnT (B : Nat) (w : World) (T : TypeId) (v : Value) (l : List Ty) : Prop := w.ownsRow B T 2 v l.length (l.flatMap fun x => x.vals.toList) ∧ ∀ x ∈ l, x.ok
theorem vals_len (x : Ty) : x.vals.toList.length = 2 := rfl
theorem cells_len (l : List Ty) : (l.flatMap fun x => x.vals.toList).length = l.length * 2 := by
  induction l with
  | nil => rfl
  | cons x l ih => rw [List.flatMap_cons, List.length_append, ih, vals_len, List.length_cons]; omega
theorem cells_at : ∀ (l : List Ty) (j i : Nat), j < l.length → i < 2 → (l.flatMap fun x => x.vals.toList)[j * 2 + i]? = (gt l j).vals[i]? := by
  intro l
  induction l with
  | nil => intro j i h; simp at h
  | cons x l ih =>
    intro j i hj hi
    rw [List.flatMap_cons]
    match j with
    | 0 =>
      rw [List.getElem?_append_left (by rw [vals_len]; omega)]
      simp [gt]
    | j + 1 =>
      rw [List.getElem?_append_right (by rw [vals_len]; omega), vals_len, show (j + 1) * 2 + i - 2 = j * 2 + i by omega, ih j i (by simpa using hj) hi]
      simp [gt]
theorem OwnT.row {B : Nat} {w : World} {T : TypeId} {v : Value} {l : List Ty} (h : OwnT B w T v l) : RowT w v l := by
  obtain ⟨⟨h1, h2⟩, hf⟩ := h
  rcases h2 with ⟨rfl, h0⟩ | ⟨g, cap, cur, rfl, hb, hg, hn, hm, hs, ht⟩
  · exact ⟨none, 0, by rw [h0], by omega, by simp [maxLen], fun _ => rfl, hf, fun hp => by omega⟩
  · refine ⟨_, _, rfl, hn, hm, (fun h => by cases h), hf, fun _ => ⟨g, 0, rfl, lt_of_get hg, fun j hj => ?_⟩⟩
    have hx : ∀ i, i < 2 → w.cell? ⟨g, j * 2 + i, none⟩ = (gt l j).vals[i]? := fun i hi => by
      have e1 := cells_at l j i hj hi
      rw [← ht, List.getElem?_take_of_lt (by omega)] at e1
      rw [cell_of_row w g _ cur T (0, 0) hg, ← e1]
      simp
    rw [Nat.zero_add]
    exact ⟨hx 0 (by omega), hx 1 (by omega)⟩
theorem OwnT.nil (B : Nat) (w : World) (T : TypeId) : OwnT B w T (.slice none 0 0) [] := ⟨World.ownsRow_nil w B T 2, fun _ h => by cases h⟩
theorem OwnT.ext {B : Nat} {w w' : World} {T : TypeId} {v : Value} {l : List Ty} (h : OwnT B w T v l) (he : Ext w w') : OwnT B w' T v l := by
  obtain ⟨⟨h1, h2⟩, hf⟩ := h
  refine ⟨⟨h1, ?_⟩, hf⟩
  rcases h2 with h2 | ⟨g, cap, cur, hv, hb, hg, hr⟩
  · exact .inl h2
  · exact .inr ⟨g, cap, cur, hv, hb, (he.block g (lt_of_get hg)).trans hg, hr⟩
theorem OwnT.low {B : Nat} {w : World} {T : TypeId} {v : Value} {l : List Ty} (h : OwnT B w T v l) : ∀ g, v.ownBlock = some g → B ≤ g := fun g hg => (World.ownsRow.lt h.1 g hg).1
theorem OwnT.high {B : Nat} {w : World} {T : TypeId} {v : Value} {l : List Ty} (h : OwnT B w T v l) : ∀ g, v.ownBlock = some g → g < w.heap.size := fun g hg => (World.ownsRow.lt h.1 g hg).2
theorem OwnT.kept {B : Nat} {w w' : World} {T : TypeId} {v : Value} {l : List Ty} (h : OwnT B w T v l) {row : Option Nat} (hg : w.grownBy w' row) (hne : ∀ g, v.ownBlock = some g → row ≠ some g) : OwnT B w' T v l := by
  obtain ⟨⟨h1, h2⟩, hf⟩ := h
  refine ⟨⟨h1, ?_⟩, hf⟩
  rcases h2 with h2 | ⟨g, cap, cur, hv, hb, hg', hr⟩
  · exact .inl h2
  · refine .inr ⟨g, cap, cur, hv, hb, (hg.block g (lt_of_get hg') ?_).trans hg', hr⟩
    exact fun e => hne g (by rw [hv]; rfl) e.symm

theorem vals_one (x : Ty) : ∀ u ∈ x.vals.toList, u.oneCell' = true := by
  intro u hu
  have h6 : u = .int .i64 x.k ∨ u = .string (bs x.s) := by simpa [Ty.vals] using hu
  rcases h6 with rfl | rfl <;> rfl
theorem cells_one (l : List Ty) : ∀ u ∈ (l.flatMap fun x => x.vals.toList), u.oneCell' = true := by
  intro u hu
  obtain ⟨x, _, hx⟩ := List.mem_flatMap.1 hu
  exact vals_one x u hx
/-- One type in a block reads as a list. -/
theorem RowT.one {w : World} {g : Nat} {T : TypeId} {x : Ty} (h : w.heap[g]? = some (.cells x.vals T (0, 0))) (hx : x.ok) : RowT w (.slice (some ⟨g, 0, none⟩) 1 1) [x] := by
  refine ⟨_, _, rfl, Nat.le_refl _, by simp [maxLen], (fun h => by cases h), fun y hy => by rw [List.mem_singleton.1 hy]; exact hx, fun _ => ⟨g, 0, rfl, lt_of_get h, fun j hj => ?_⟩⟩
  have : j = 0 := by simp at hj; omega
  subst this
  have e : ∀ i, w.cell? ⟨g, i, none⟩ = x.vals[i]? := fun i => by rw [cell_of_row w g i _ T (0, 0) h]
  exact ⟨e 0, e 1⟩
/-- append of types onto a row of the call's own. -/
theorem run_appT {P : Program} (w : World) (B : Nat) (t ty e : TypeId) (z : Value) (bytes : Nat) (ht : P.underlying t = some (.slice e))
    (hi : (P.info? e).map (fun i => (i.zero, i.size, i.bytes)) = some (some z, 2, bytes)) (hz : z.cells.size = 2)
    (v : Value) (l : List Ty) (ho : OwnT B w e v l) (x : Value) (m : List Ty) (hr : RowT w x m)
    (hb : (l.length + m.length) * bytes ≤ 140737488355328) (hb1 : 1 ≤ bytes) (hB : B ≤ w.heap.size) :
    ∃ v' w', (Builtin.append_ #[t, t] ty #[v, x]).run P w = .ok v' w' ∧ OwnT B w' e v' (l ++ m) ∧ w.grownBy w' v.ownBlock ∧ (v'.ownBlock = v.ownBlock ∨ v'.ownBlock = some w.heap.size) := by
  obtain ⟨i, hi1, hi2, hi3, hi4⟩ := info_parts hi
  obtain ⟨A, c, rfl, h2, h3, h4, h5, h6⟩ := hr
  have hfit : ∀ y ∈ l ++ m, y.ok := fun y hy => (List.mem_append.1 hy).elim (ho.2 y) (h5 y)
  have hlen : l.length + m.length ≤ 140737488355328 := Nat.le_trans (Nat.le_mul_of_pos_right _ (by omega)) hb
  rcases A with _ | ad
  · have hc := h4 rfl
    have hm : m = [] := List.eq_nil_of_length_eq_zero (by omega)
    subst hm
    refine ⟨v, w, ?_, by simpa using ho, World.grownBy.refl w _, .inl rfl⟩
    rcases ho.1.2 with ⟨rfl, _⟩ | ⟨g, cap, cur, rfl, _, _, hnc, _⟩
    · simp [Builtin.append_, run_underlying ht, sizeOf, typeInfo, hi1, Builtin.lenOf, Builtin.firstCells]
    · simp [Builtin.append_, run_underlying ht, sizeOf, typeInfo, hi1, Builtin.lenOf, Builtin.firstCells, hnc, storeCells]
  · have hcells : ∀ j u, (m.flatMap fun x => x.vals.toList)[j]? = some u → w.cell? (ad.add j) = some u := by
      intro j u hu
      have hj : j < m.length * 2 := by
        have := (List.getElem?_eq_some_iff.1 hu).1
        rwa [cells_len] at this
      obtain ⟨b, o, hA, _, hc⟩ := h6 (by omega)
      injection hA with hA
      subst hA
      obtain ⟨q, r, hqr, hr2⟩ : ∃ q r, j = q * 2 + r ∧ r < 2 := ⟨j / 2, j % 2, by omega, by omega⟩
      subst hqr
      rw [cells_at m q r (by omega) hr2] at hu
      obtain ⟨a0, a1⟩ := hc q (by omega)
      rw [Addr.add_lit, ← hu, ← Nat.add_assoc]
      match r, hr2 with
      | 0, _ => exact a0
      | 1, _ => exact a1
    obtain ⟨v', w', hrun, k2, k3, _, k5⟩ := run_append_own_at (P := P) w B t ty e i z 2 bytes ht hi1 hi2 hi3 hi4 hz (by omega) v l.length (l.flatMap fun x => x.vals.toList) ho.1 ad m.length c (m.flatMap fun x => x.vals.toList) (cells_len m) hcells (cells_one m) (by simp only [maxLen]; omega) hb hB
    refine ⟨v', w', hrun, ⟨?_, hfit⟩, k3, k5⟩
    rw [List.flatMap_append, List.length_append]
    exact k2
theorem wpList_appT {P : Program} (w : World) {ops : Array Oper} {rest : List Oper} {o : Oper} {a : Act} {Q : Exit → Act → World → Prop} (hgd : Region.wanted o (yielded ops a.tmps) = true) (s y : Operand) (B : Nat) (t e : TypeId) (z : Value) (bytes : Nat)
    (hop : o.op = .call { callee := .builtin .append, args := #[s, y], argTypes := #[t, t] }) (ht : P.underlying t = some (.slice e))
    (hi : (P.info? e).map (fun i => (i.zero, i.size, i.bytes)) = some (some z, 2, bytes)) (hz : z.cells.size = 2) (hb1 : 1 ≤ bytes)
    (v : Value) (l : List Ty) (hs : a.eval s = v) (ho : OwnT B w e v l) (x : Value) (m : List Ty) (hx : a.eval y = x) (hr : RowT w x m)
    (hb : (l.length + m.length) * bytes ≤ 140737488355328) (hB : B ≤ w.heap.size)
    (h : ∀ v' w', OwnT B w' e v' (l ++ m) → w.grownBy w' v.ownBlock → (v'.ownBlock = v.ownBlock ∨ v'.ownBlock = some w.heap.size) → wpList P ops Q rest (a.put o.dst v') w') :
    wpList P ops Q (o :: rest) a w := by
  refine wpList_step fun K hK => ?_
  rw [if_pos hgd]
  obtain ⟨v', w', hrun, h2, h3, h4⟩ := run_appT (P := P) w B t o.type e z bytes ht hi hz v l ho x m hr hb hb1 hB
  unfold Oper.wp execOp
  simp only [hop, resolve, invoke, builtin, Sem.run_bind, Sem.run_pure, Result.andThen_ok, List.map_toArray, List.map_cons, List.map_nil, hs, hx, hrun]
  exact hK _ _ (h v' w' h2 h3 h4)
/-- The same as one step of a region that draws. -/
theorem step_appT {P : Program} {ops : Array Oper} {o : Oper} {a : Act} {w : World} {K : Act → World → Prop} {Q : Exit → Act → World → Prop} {E : Prop} (hgd : o.guard = none) (s y : Operand) (B : Nat) (t e : TypeId) (z : Value) (bytes : Nat)
    (hop : o.op = .call { callee := .builtin .append, args := #[s, y], argTypes := #[t, t] }) (ht : P.underlying t = some (.slice e))
    (hi : (P.info? e).map (fun i => (i.zero, i.size, i.bytes)) = some (some z, 2, bytes)) (hz : z.cells.size = 2) (hb1 : 1 ≤ bytes)
    (v : Value) (l : List Ty) (hs : a.eval s = v) (ho : OwnT B w e v l) (x : Value) (m : List Ty) (hx : a.eval y = x) (hr : RowT w x m)
    (hb : (l.length + m.length) * bytes ≤ 140737488355328) (hB : B ≤ w.heap.size)
    (h : ∀ v' w', OwnT B w' e v' (l ++ m) → w.grownBy w' v.ownBlock → (v'.ownBlock = v.ownBlock ∨ v'.ownBlock = some w.heap.size) → K (a.put o.dst v') w') :
    if Region.wanted o (yielded ops a.tmps) = true then Oper.wp P o a w K Q else E := by
  have hw : Region.wanted o (yielded ops a.tmps) = true := by simp [Region.wanted, hgd]
  rw [if_pos hw]
  obtain ⟨v', w', hrun, h2, h3, h4⟩ := run_appT (P := P) w B t o.type e z bytes ht hi hz v l ho x m hr hb hb1 hB
  unfold Oper.wp execOp
  simp only [hop, resolve, invoke, builtin, Sem.run_bind, Sem.run_pure, Result.andThen_ok, List.map_toArray, List.map_cons, List.map_nil, hs, hx, hrun]
  exact h v' w' h2 h3 h4
/-- Whether two types are the same. -/
def eqT (x y : Ty) : Bool := decide (x = y)
theorem Ty.ext_ {x y : Ty} (h0 : x.k = y.k) (h1 : x.s = y.s) : x = y := by
  cases x; cases y
  simp only at h0 h1
  subst h0 h1
  rfl
theorem run_eqT (x y : Ty) (W : World) : (binOp .eql 23 (.agg x.vals) (.agg y.vals)).run Try.prog W = .ok (.bool (eqT x y)) W := by
  unfold Ty.vals
  go_simp
  simp only [bs_nil]
  by_cases h : x = y
  · subst h
    simp [eqT]
  · rw [show eqT x y = false by simp [eqT, h]]
    (repeat' split) <;> first | rfl | (exact (h (Ty.ext_ ‹x.k = y.k› ‹x.s = y.s›)).elim)
theorem run_neqT (x y : Ty) (W : World) : (binOp .neq 23 (.agg x.vals) (.agg y.vals)).run Try.prog W = .ok (.bool (!eqT x y)) W := by
  unfold Ty.vals
  go_simp
  simp only [bs_nil]
  by_cases h : x = y
  · subst h
    simp [eqT]
  · rw [show eqT x y = false by simp [eqT, h]]
    (repeat' split) <;> first | rfl | (exact (h (Ty.ext_ ‹x.k = y.k› ‹x.s = y.s›)).elim)
end Go.Proofs.Ytibcaienaejgpaa
