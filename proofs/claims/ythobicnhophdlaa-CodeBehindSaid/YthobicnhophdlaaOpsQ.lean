/- The project's reader at work on an instruction: one state for all blocks; the two function literals of a switch. -/
import Derived.Test.YthobicnhophdlaaOpsN2
namespace Go.Proofs.Ythobicnhophdlaa
open Go.RowKit
set_option linter.unusedVariables false

theorem info64 : (Try.prog.info? 3).map (fun i => (i.zero, i.size, i.bytes)) = some (some (.int .i64 0), 1, 8) := by kernel_rfl
theorem wf_i64 {x : Int} (h0 : -9223372036854775808 ≤ x) (h1 : x ≤ 9223372036854775807) : (Lit.int .i64 x).wf = true := by
  simp [Lit.wf, IntKind.min, IntKind.max, IntKind.signed, IntKind.bits]
  omega
/-- append of a list onto a row of the call's own, as one step of a region that draws. -/
theorem step_app {P : Program} {ops : Array Oper} {o : Oper} {a : Act} {w : World} {K : Act → World → Prop} {Q : Exit → Act → World → Prop} {E : Prop} (hgd : o.guard = none) (s y : Operand) (B : Nat) (t e : TypeId) (z : Value) (bytes : Nat) (k : IntKind)
    (hop : o.op = .call { callee := .builtin .append, args := #[s, y], argTypes := #[t, t] }) (ht : P.underlying t = some (.slice e))
    (hi : (P.info? e).map (fun i => (i.zero, i.size, i.bytes)) = some (some z, 1, bytes)) (hz : z.cells.size = 1) (hb1 : 1 ≤ bytes)
    (v : Value) (l : List Int) (hs : a.eval s = v) (ho : Own B w e k v l) (x : Value) (m : List Int) (hx : a.eval y = x) (hr : Row w k x m)
    (hb : (l.length + m.length) * bytes ≤ 140737488355328) (hB : B ≤ w.heap.size)
    (h : ∀ v' w', Own B w' e k v' (l ++ m) → w.grownBy w' v.ownBlock → (v'.ownBlock = v.ownBlock ∨ v'.ownBlock = some w.heap.size) → K (a.put o.dst v') w') :
    if Region.wanted o (yielded ops a.tmps) = true then Oper.wp P o a w K Q else E := by
  have hw : Region.wanted o (yielded ops a.tmps) = true := by simp [Region.wanted, hgd]
  rw [if_pos hw]
  obtain ⟨v', w', hrun, h2, h3, h4⟩ := run_app (P := P) w B t o.type e z bytes k ht hi hz v l ho x m hr hb hb1 hB
  unfold Oper.wp execOp
  simp only [hop, resolve, invoke, builtin, Sem.run_bind, Sem.run_pure, Result.andThen_ok, List.map_toArray, List.map_cons, List.map_nil, hs, hx, hrun]
  exact h v' w' h2 h3 h4
/-- A call of a Go function, by its contract, as one step of a region that draws. -/
theorem step_call {P : Program} {ops : Array Oper} {o : Oper} {a : Act} {w : World} {K : Act → World → Prop} {Q : Exit → Act → World → Prop} {E : Prop} (hgd : o.guard = none) (f : FuncId) (xs : Array Operand) (ats : Array TypeId)
    (hop : o.op = .call { callee := .value (.func f), args := xs, argTypes := ats }) (args : Array Value) (hargs : #[] ++ xs.map a.eval ++ #[] = args) (hrun : (callFunc f args).run P w = .ok (.enter f args) w)
    (h : Calls P f args w fun e w' => ∃ v, e = .returned v ∧ K (a.put o.dst v) w') : if Region.wanted o (yielded ops a.tmps) = true then Oper.wp P o a w K Q else E := by
  have hw : Region.wanted o (yielded ops a.tmps) = true := by simp [Region.wanted, hgd]
  rw [if_pos hw]
  obtain ⟨dst, op, ty, pos, after, guard⟩ := o
  subst hop
  unfold Oper.wp
  rw [execOp_call_go, hargs, hrun, Oper.upon_enter]
  refine h.mono ?_
  rintro e w' ⟨v, rfl, hv⟩
  exact hv
/-- An instruction's block. -/
def XP (w : World) (h : Nat) (x : In) (v1 v2 : Value) : Prop := w.heap[h]? = some (.cells (x.vals v1 v2) 32 (0, 0))
section
variable {w w' : World} {h : Nat} {x : In} {v1 v2 : Value}
theorem XP.cell (H : XP w h x v1 v2) (j : Nat) : w.cell? ⟨h, j, none⟩ = (x.vals v1 v2)[j]? := by rw [cell_of_row w h j _ _ (0, 0) H]
theorem XP.cells (H : XP w h x v1 v2) : w.cell? ⟨h, 0, none⟩ = some (.int .i64 x.a) ∧ w.cell? ⟨h, 1, none⟩ = some (.int .i64 x.o) ∧ w.cell? ⟨h, 2, none⟩ = some (.int .i64 x.n) ∧ w.cell? ⟨h, 3, none⟩ = some (.int .i64 x.m) ∧ w.cell? ⟨h, 4, none⟩ = some v1 ∧ w.cell? ⟨h, 5, none⟩ = some v2 :=
  ⟨H.cell 0, H.cell 1, H.cell 2, H.cell 3, H.cell 4, H.cell 5⟩
theorem XP.free (H : XP w h x v1 v2) (j : Nat) : w.frozen? ⟨h, j, none⟩ = false := by simp [World.frozen?, show w.heap[h]? = _ from H]
theorem XP.lt (H : XP w h x v1 v2) : h < w.heap.size := lt_of_get H
theorem XP.set2 (H : XP w h x v1 v2) (n : Int) : XP (w.setCell ⟨h, 2, none⟩ (.int .i64 n)) h { x with n := n } v1 v2 := by
  have h1 := heap_setCell_same w h 2 _ 32 (.int .i64 n) H
  unfold XP
  rw [h1]
  rfl
theorem XP.set3 (H : XP w h x v1 v2) (n : Int) : XP (w.setCell ⟨h, 3, none⟩ (.int .i64 n)) h { x with m := n } v1 v2 := by
  have h1 := heap_setCell_same w h 3 _ 32 (.int .i64 n) H
  unfold XP
  rw [h1]
  rfl
theorem XP.set4 (H : XP w h x v1 v2) (l : List Int) (u : Value) : XP (w.setCell ⟨h, 4, none⟩ u) h { x with to := l } u v2 := by
  have h1 := heap_setCell_same w h 4 _ 32 u H
  unfold XP
  rw [h1]
  rfl
theorem XP.set5 (H : XP w h x v1 v2) (l : List Int) (u : Value) : XP (w.setCell ⟨h, 5, none⟩ u) h { x with ks := l } v1 u := by
  have h1 := heap_setCell_same w h 5 _ 32 u H
  unfold XP
  rw [h1]
  rfl
end
/-- A row's own block is none of another type. -/
theorem own_ne {B : Nat} {w : World} {e : TypeId} {k : IntKind} {v : Value} {l : List Int} (H : Own B w e k v l) {g : Nat} {c : Array Value} {T : TypeId} {z : Nat × Nat} (hg : w.heap[g]? = some (.cells c T z)) (hT : T ≠ e) : v.ownBlock ≠ some g := by
  obtain ⟨⟨h1, h2⟩, hf⟩ := H
  rcases h2 with ⟨rfl, _⟩ | ⟨b, cap, cur, rfl, hb, hh, _⟩
  · intro e; cases e
  · intro e
    injection e with e
    subst e
    rw [hh] at hg
    injection hg with hg
    injection hg with h1 h2 h3
    exact hT h2.symm
theorem blocks_ne {w : World} {g h : Nat} {c d : Array Value} {T U : TypeId} {y z : Nat × Nat} (hg : w.heap[g]? = some (.cells c T y)) (hh : w.heap[h]? = some (.cells d U z)) (hT : T ≠ U) : g ≠ h := by
  rintro rfl
  rw [hg] at hh
  injection hh with hh
  injection hh with h1 h2 h3
  exact hT h2
/-- All blocks at once: the instruction, its two lists, the captured pointer to the reader, the reader and what is left. -/
structure ST (w0 w : World) (h r g c0 : Nat) (x : In) (v1 v2 v : Value) (q : List Int × Bool) : Prop where
  xb : XP w h x v1 v2
  o1 : Own w0.heap.size w 3 .i64 v1 x.to
  o2 : Own w0.heap.size w 3 .i64 v2 x.ks
  ne : ∀ b, v1.ownBlock = some b → v2.ownBlock ≠ some b
  rb : w.heap[r]? = some (.cells #[.pointer (some ⟨g, 0, none⟩)] 77 (0, 0))
  pr : PR w g v x.a q.2
  row : Row w0 .u8 v q.1
  ext : Ext w0 w
  hg : w0.heap.size ≤ g
  hh : w0.heap.size ≤ h
  hr : w0.heap.size ≤ r
  rc : XP w c0 i0 (.slice none 0 0) (.slice none 0 0)
  hc : c0 ≠ h
  hcc : w0.heap.size ≤ c0
section
variable {w0 w w' : World} {h r g c0 : Nat} {x : In} {v1 v2 v : Value} {q : List Int × Bool}
theorem ST.hg_ne (H : ST w0 w h r g c0 x v1 v2 v q) : h ≠ g := blocks_ne H.xb H.pr (by decide)
theorem ST.rg_ne (H : ST w0 w h r g c0 x v1 v2 v q) : r ≠ g := blocks_ne H.rb H.pr (by decide)
theorem ST.hr_ne (H : ST w0 w h r g c0 x v1 v2 v q) : h ≠ r := blocks_ne H.xb H.rb (by decide)
theorem ST.cg_ne (H : ST w0 w h r g c0 x v1 v2 v q) : c0 ≠ g := blocks_ne H.rc H.pr (by decide)
theorem ST.le (H : ST w0 w h r g c0 x v1 v2 v q) : w0.heap.size ≤ w.heap.size := H.ext.size
theorem ST.later (H : ST w0 w h r g c0 x v1 v2 v q) (e : Ext w w') : ST w0 w' h r g c0 x v1 v2 v q :=
  ⟨(e.block h (lt_of_get H.xb)).trans H.xb, H.o1.ext e, H.o2.ext e, H.ne, (e.block r (lt_of_get H.rb)).trans H.rb, H.pr.ext e, H.row, H.ext.trans e, H.hg, H.hh, H.hr, (e.block c0 (lt_of_get H.rc)).trans H.rc, H.hc, H.hcc⟩
theorem ST.drew (H : ST w0 w h r g c0 x v1 v2 v q) : ST w0 w.drew h r g c0 x v1 v2 v q := H.later (Ext.refl w).drew
theorem ST.drewN (H : ST w0 w h r g c0 x v1 v2 v q) (n : Nat) : ST w0 (w.drewN n) h r g c0 x v1 v2 v q := H.later ((Ext.refl w).drewN n)
theorem ST.alloc (H : ST w0 w h r g c0 x v1 v2 v q) (o : Obj) : ST w0 (w.alloc o) h r g c0 x v1 v2 v q := H.later ((Ext.refl w).alloc o)
theorem ST.rbcell (H : ST w0 w h r g c0 x v1 v2 v q) : w.cell? ⟨r, 0, none⟩ = some (.pointer (some ⟨g, 0, none⟩)) := by
  rw [cell_of_row w r 0 _ _ (0, 0) H.rb]
  rfl
/-- A call of the reader's. -/
theorem ST.read (H : ST w0 w h r g c0 x v1 v2 v q) {rr : Int × List Int × Bool} {e : Ending} (hp : PRet w0 w g x.a rr e w') : e = .returned (.int .i64 rr.1) ∧ ∃ v', ST w0 w' h r g c0 x v1 v2 v' rr.2 := by
  obtain ⟨rfl, ⟨v', hp, hr⟩, hgr⟩ := hp
  refine ⟨rfl, v', ?_⟩
  have hs : Ext w0 w' := H.ext.grown hgr (fun g' hg' => by injection hg' with e; subst e; exact H.hg)
  refine ⟨(hgr.block h (lt_of_get H.xb) (fun e => H.hg_ne (by injection e))).trans H.xb, H.o1.kept hgr ?_, H.o2.kept hgr ?_, H.ne, (hgr.block r (lt_of_get H.rb) (fun e => H.rg_ne (by injection e))).trans H.rb, hp, hr, hs, H.hg, H.hh, H.hr, (hgr.block c0 (lt_of_get H.rc) (fun e => H.cg_ne (by injection e))).trans H.rc, H.hc, H.hcc⟩
  · intro b hb e
    injection e with e
    subst e
    exact own_ne H.o1 H.pr (by decide) hb
  · intro b hb e
    injection e with e
    subst e
    exact own_ne H.o2 H.pr (by decide) hb
/-- What is behind an append onto the first list, before it is stored. -/
theorem ST.app1' (H : ST w0 w h r g c0 x v1 v2 v q) {u : Value} {l : List Int} (ho : Own w0.heap.size w' 3 .i64 u l) (hgr : w.grownBy w' v1.ownBlock) (hb : ∀ b, u.ownBlock = some b → v2.ownBlock ≠ some b) :
    ST w0 (w'.setCell ⟨h, 4, none⟩ u) h r g c0 { x with to := l } u v2 v q ∧ w'.cell? ⟨h, 4, none⟩ = some v1 ∧ w'.cell? ⟨r, 0, none⟩ = some (.pointer (some ⟨g, 0, none⟩)) ∧ w'.frozen? ⟨h, 4, none⟩ = false := by
  have n1 : v1.ownBlock ≠ some h := own_ne H.o1 H.xb (by decide)
  have n2 : v1.ownBlock ≠ some g := own_ne H.o1 H.pr (by decide)
  have n3 : v1.ownBlock ≠ some r := own_ne H.o1 H.rb (by decide)
  have n4 : v1.ownBlock ≠ some c0 := own_ne H.o1 H.rc (by decide)
  have rc' := (hgr.block c0 (lt_of_get H.rc) (fun e => n4 e.symm)).trans H.rc
  have xb' : XP w' h x v1 v2 := (hgr.block h (lt_of_get H.xb) (fun e => n1 e.symm)).trans H.xb
  have rb' := (hgr.block r (lt_of_get H.rb) (fun e => n3 e.symm)).trans H.rb
  have pr' : PR w' g v x.a q.2 := (hgr.block g (lt_of_get H.pr) (fun e => n2 e.symm)).trans H.pr
  have o2' : Own w0.heap.size w' 3 .i64 v2 x.ks := H.o2.kept hgr (fun b hb e => H.ne b e hb)
  have e' : Ext w0 w' := H.ext.grown hgr H.o1.low
  have hset : ∀ i, i ≠ h → (w'.setCell ⟨h, 4, none⟩ u).heap[i]? = w'.heap[i]? := fun i hi => Below.heap_setCell w' ⟨h, 4, none⟩ u i hi
  have hgrow : w'.grownBy (w'.setCell ⟨h, 4, none⟩ u) (some h) := only_set (World.grownBy.refl w' _) 4 u
  refine ⟨⟨xb'.set4 l u, ho.kept hgrow ?_, o2'.kept hgrow ?_, ?_, (hset r (fun e => H.hr_ne e.symm)).trans rb', (hset g (fun e => H.hg_ne e.symm)).trans pr', H.row, e'.set_ H.hh u, H.hg, H.hh, H.hr, (hset c0 H.hc).trans rc', H.hc, H.hcc⟩, xb'.cells.2.2.2.2.1, ?_, xb'.free 4⟩
  · intro b hb e
    injection e with e
    subst e
    exact own_ne ho xb' (by decide) hb
  · intro b hb e
    injection e with e
    subst e
    exact own_ne o2' xb' (by decide) hb
  · exact hb
  · rw [cell_of_row w' r 0 _ _ (0, 0) rb']
    rfl
theorem ST.app1 (H : ST w0 w h r g c0 x v1 v2 v q) {u : Value} {l : List Int} (ho : Own w0.heap.size w' 3 .i64 u l) (hgr : w.grownBy w' v1.ownBlock) (hb : u.ownBlock = v1.ownBlock ∨ u.ownBlock = some w.heap.size) :
    ST w0 (w'.setCell ⟨h, 4, none⟩ u) h r g c0 { x with to := l } u v2 v q ∧ w'.cell? ⟨h, 4, none⟩ = some v1 ∧ w'.cell? ⟨r, 0, none⟩ = some (.pointer (some ⟨g, 0, none⟩)) ∧ w'.frozen? ⟨h, 4, none⟩ = false :=
  H.app1' ho hgr fun b hu hv => by
    rcases hb with hb | hb
    · exact H.ne b (hb ▸ hu) hv
    · rw [hb] at hu
      injection hu with hu
      subst hu
      have := H.o2.high _ hv
      omega
theorem ST.app2 (H : ST w0 w h r g c0 x v1 v2 v q) {u : Value} {l : List Int} (ho : Own w0.heap.size w' 3 .i64 u l) (hgr : w.grownBy w' v2.ownBlock) (hb : u.ownBlock = v2.ownBlock ∨ u.ownBlock = some w.heap.size) :
    ST w0 (w'.setCell ⟨h, 5, none⟩ u) h r g c0 { x with ks := l } v1 u v q ∧ w'.cell? ⟨h, 5, none⟩ = some v2 ∧ w'.cell? ⟨r, 0, none⟩ = some (.pointer (some ⟨g, 0, none⟩)) ∧ w'.frozen? ⟨h, 5, none⟩ = false := by
  have n1 : v2.ownBlock ≠ some h := own_ne H.o2 H.xb (by decide)
  have n2 : v2.ownBlock ≠ some g := own_ne H.o2 H.pr (by decide)
  have n3 : v2.ownBlock ≠ some r := own_ne H.o2 H.rb (by decide)
  have n4 : v2.ownBlock ≠ some c0 := own_ne H.o2 H.rc (by decide)
  have rc' := (hgr.block c0 (lt_of_get H.rc) (fun e => n4 e.symm)).trans H.rc
  have xb' : XP w' h x v1 v2 := (hgr.block h (lt_of_get H.xb) (fun e => n1 e.symm)).trans H.xb
  have rb' := (hgr.block r (lt_of_get H.rb) (fun e => n3 e.symm)).trans H.rb
  have pr' : PR w' g v x.a q.2 := (hgr.block g (lt_of_get H.pr) (fun e => n2 e.symm)).trans H.pr
  have o1' : Own w0.heap.size w' 3 .i64 v1 x.to := H.o1.kept hgr (fun b hb e => H.ne b hb e)
  have e' : Ext w0 w' := H.ext.grown hgr H.o2.low
  have hset : ∀ i, i ≠ h → (w'.setCell ⟨h, 5, none⟩ u).heap[i]? = w'.heap[i]? := fun i hi => Below.heap_setCell w' ⟨h, 5, none⟩ u i hi
  have hgrow : w'.grownBy (w'.setCell ⟨h, 5, none⟩ u) (some h) := only_set (World.grownBy.refl w' _) 5 u
  refine ⟨⟨xb'.set5 l u, o1'.kept hgrow ?_, ho.kept hgrow ?_, ?_, (hset r (fun e => H.hr_ne e.symm)).trans rb', (hset g (fun e => H.hg_ne e.symm)).trans pr', H.row, e'.set_ H.hh u, H.hg, H.hh, H.hr, (hset c0 H.hc).trans rc', H.hc, H.hcc⟩, xb'.cells.2.2.2.2.2, ?_, xb'.free 5⟩
  · intro b hb e
    injection e with e
    subst e
    exact own_ne o1' xb' (by decide) hb
  · intro b hb e
    injection e with e
    subst e
    exact own_ne ho xb' (by decide) hb
  · intro b hu hv
    rcases hb with hb | hb
    · exact H.ne b hu (hb ▸ hv)
    · rw [hb] at hv
      injection hv with hv
      subst hv
      have := H.o1.high _ hu
      omega
  · rw [cell_of_row w' r 0 _ _ (0, 0) rb']
    rfl
/-- A field of the instruction's is set. -/
theorem ST.field (H : ST w0 w h r g c0 x v1 v2 v q) {y : In} {j : Nat} {u : Value} (hx : XP (w.setCell ⟨h, j, none⟩ u) h y v1 v2) (ha : y.a = x.a) (ht : y.to = x.to) (hk : y.ks = x.ks) : ST w0 (w.setCell ⟨h, j, none⟩ u) h r g c0 y v1 v2 v q := by
  have hset : ∀ i, i ≠ h → (w.setCell ⟨h, j, none⟩ u).heap[i]? = w.heap[i]? := fun i hi => Below.heap_setCell w ⟨h, j, none⟩ u i hi
  have hgrow : w.grownBy (w.setCell ⟨h, j, none⟩ u) (some h) := only_set (World.grownBy.refl w _) j u
  have k1 := H.o1.kept hgrow (fun b hb e => by
    injection e with e
    subst e
    exact own_ne H.o1 H.xb (by decide) hb)
  have k2 := H.o2.kept hgrow (fun b hb e => by
    injection e with e
    subst e
    exact own_ne H.o2 H.xb (by decide) hb)
  rw [← ht] at k1
  rw [← hk] at k2
  have k3 : PR (w.setCell ⟨h, j, none⟩ u) g v x.a q.2 := (hset g (fun e => H.hg_ne e.symm)).trans H.pr
  rw [← ha] at k3
  exact ⟨hx, k1, k2, H.ne, (hset r (fun e => H.hr_ne e.symm)).trans H.rb, k3, H.row, H.ext.set_ H.hh u, H.hg, H.hh, H.hr, (hset c0 H.hc).trans H.rc, H.hc, H.hcc⟩
end
theorem Own.one_ {B : Nat} (w : World) {e : TypeId} (k : IntKind) (t : Int) (ht : (Lit.int k t).wf = true) (hB : B ≤ w.heap.size) : Own B (w.alloc (.cells #[.int k t] e)) e k (.slice (some ⟨w.heap.size, 0, none⟩) 1 1) [t] := by
  refine ⟨⟨by simp, .inr ⟨w.heap.size, 1, #[.int k t], rfl, hB, heap_alloc_new w _, Nat.le_refl _, by simp [maxLen], by simp, by simp⟩⟩, fun y hy => ?_⟩
  rw [List.mem_singleton.1 hy]
  exact ht
/-- What the reader's ins leaves. -/
def InsAns (w0 : World) (g : Nat) (r : In × List Int × Bool) (e : Ending) (w' : World) : Prop :=
  ∃ v1 v2 v, e = .returned (.agg (r.1.vals v1 v2)) ∧ Own w0.heap.size w' 3 .i64 v1 r.1.to ∧ Own w0.heap.size w' 3 .i64 v2 r.1.ks ∧ PR w' g v r.1.a r.2.2 ∧ Row w0 .u8 v r.2.1 ∧ Ext w0 w'
theorem ST.out {w0 W : World} {h r g c0 : Nat} {x : In} {v1 v2 v : Value} {q : List Int × Bool} (H : ST w0 W h r g c0 x v1 v2 v q) {w' : World} (hgr : W.grownBy w' (some c0)) : InsAns w0 g (x, q) (.returned (.agg (x.vals v1 v2))) w' := by
  refine ⟨v1, v2, v, rfl, H.o1.kept hgr ?_, H.o2.kept hgr ?_, ?_, H.row, H.ext.grown hgr (fun k hk => by injection hk with hk; subst hk; exact H.hcc)⟩
  · intro b hb e
    injection e with e
    subst e
    exact own_ne H.o1 H.rc (by decide) hb
  · intro b hb e
    injection e with e
    subst e
    exact own_ne H.o2 H.rc (by decide) hb
  · exact (hgr.block g (lt_of_get H.pr) (fun e => H.cg_ne (by injection e with e; exact e.symm))).trans H.pr
theorem six_set {W : World} (c : Nat) (a0 a1 a2 a3 a4 a5 : Value) : W.grownBy ((((((W.setCell ⟨c, 0, none⟩ a0).setCell ⟨c, 1, none⟩ a1).setCell ⟨c, 2, none⟩ a2).setCell ⟨c, 3, none⟩ a3).setCell ⟨c, 4, none⟩ a4).setCell ⟨c, 5, none⟩ a5) (some c) :=
  only_set (only_set (only_set (only_set (only_set (only_set (World.grownBy.refl W _) 0 a0) 1 a1) 2 a2) 3 a3) 4 a4) 5 a5
end Go.Proofs.Ythobicnhophdlaa
