/- Several texts of this proof, one behind the other. -/
import Derived.Test.YtokmeomjdpfknaaGreatDoorZbH
import Derived.LoopN
import Derived.Test.YtokmeomjdpfknaaGreatDoorZbG
import Derived.Deep.WholeRow
namespace Go.Proofs.YtokmeomjdpfknaaGreatDoor
open Go.RowKit
set_option linter.unusedVariables false

theorem info64 : (Tryz.prog.info? 3).map (fun i => (i.zero, i.size, i.bytes)) = some (some (.int .i64 0), 1, 8) := by kernel_rfl
theorem wf_i64 {x : Int} (h0 : -9223372036854775808 ≤ x) (h1 : x ≤ 9223372036854775807) : (Lit.int .i64 x).wf = true := by
  simp [Lit.wf, IntKind.min, IntKind.max, IntKind.signed, IntKind.bits]
  omega
theorem step_app {P : Program} {ops : Array Oper} {o : Oper} {a : Act} {w : World} {K : Act → World → Prop} {Q : Exit → Act → World → Prop} {E : Prop} (hgd : o.guard = none) (s y : Operand) (B : Nat) (t e : TypeId) (z : Value) (bytes : Nat) (k : IntKind)
    (hop : o.op = .call { callee := .builtin .append, args := #[s, y], argTypes := #[t, t] }) (ht : P.underlying t = some (.slice e))
    (hi : (P.info? e).map (fun i => (i.zero, i.size, i.bytes)) = some (some z, 1, bytes)) (hz : z.cells.size = 1) (hb1 : 1 ≤ bytes)
    (v : Value) (l : List Int) (hs : a.eval s = v) (ho : Own B w e k v l) (x : Value) (m : List Int) (hx : a.eval y = x) (hr : Row w k x m)
    (hb : (l.length + m.length) * bytes ≤ 140737488355328) (hB : B ≤ w.heap.size)
    (h : ∀ v' w', Own B w' e k v' (l ++ m) → w.grownBy w' v.ownBlock → (v'.ownBlock = v.ownBlock ∨ v'.ownBlock = some w.heap.size) → K (a.put o.dst v') w') :
    if Region.wanted o (yielded ops a.tmps) = true then Oper.wp P o a w K Q else E := by
  have hw : Region.wanted o (yielded ops a.tmps) = true := by simp [Region.wanted, hgd]
  rw [if_pos hw]
  obtain ⟨v', w', hrun, h2, h3, h4⟩ := run_app (P := P) w B t o.type e z bytes k ht hi hz v l ho x m hr hb hb1 hB
  unfold Oper.wp execOp
  simp only [hop, resolve, invoke, builtin, Sem.run_bind, Sem.run_pure, Result.andThen_ok, List.map_toArray, List.map_cons, List.map_nil, hs, hx, hrun]
  exact h v' w' h2 h3 h4
theorem step_call {P : Program} {ops : Array Oper} {o : Oper} {a : Act} {w : World} {K : Act → World → Prop} {Q : Exit → Act → World → Prop} {E : Prop} (hgd : o.guard = none) (f : FuncId) (xs : Array Operand) (ats : Array TypeId)
    (hop : o.op = .call { callee := .value (.func f), args := xs, argTypes := ats }) (args : Array Value) (hargs : #[] ++ xs.map a.eval ++ #[] = args) (hrun : (callFunc f args).run P w = .ok (.enter f args) w)
    (h : Calls P f args w fun e w' => ∃ v, e = .returned v ∧ K (a.put o.dst v) w') : if Region.wanted o (yielded ops a.tmps) = true then Oper.wp P o a w K Q else E := by
  have hw : Region.wanted o (yielded ops a.tmps) = true := by simp [Region.wanted, hgd]
  rw [if_pos hw]
  obtain ⟨dst, op, ty, pos, after, guard⟩ := o
  subst hop
  unfold Oper.wp
  rw [execOp_call_go, hargs, hrun, Oper.upon_enter]
  refine h.mono ?_
  rintro e w' ⟨v, rfl, hv⟩
  exact hv
def XP (w : World) (h : Nat) (x : In) (v1 v2 : Value) : Prop := w.heap[h]? = some (.cells (x.vals v1 v2) 182 (0, 0))
section
variable {w w' : World} {h : Nat} {x : In} {v1 v2 : Value}
theorem XP.cell (H : XP w h x v1 v2) (j : Nat) : w.cell? ⟨h, j, none⟩ = (x.vals v1 v2)[j]? := by rw [cell_of_row w h j _ _ (0, 0) H]
theorem XP.cells (H : XP w h x v1 v2) : w.cell? ⟨h, 0, none⟩ = some (.int .i64 x.a) ∧ w.cell? ⟨h, 1, none⟩ = some (.int .i64 x.o) ∧ w.cell? ⟨h, 2, none⟩ = some (.int .i64 x.n) ∧ w.cell? ⟨h, 3, none⟩ = some (.int .i64 x.m) ∧ w.cell? ⟨h, 4, none⟩ = some v1 ∧ w.cell? ⟨h, 5, none⟩ = some v2 :=
  ⟨H.cell 0, H.cell 1, H.cell 2, H.cell 3, H.cell 4, H.cell 5⟩
theorem XP.free (H : XP w h x v1 v2) (j : Nat) : w.frozen? ⟨h, j, none⟩ = false := by simp [World.frozen?, show w.heap[h]? = _ from H]
theorem XP.lt (H : XP w h x v1 v2) : h < w.heap.size := lt_of_get H
theorem XP.set2 (H : XP w h x v1 v2) (n : Int) : XP (w.setCell ⟨h, 2, none⟩ (.int .i64 n)) h { x with n := n } v1 v2 := by
  have h1 := heap_setCell_same w h 2 _ 182 (.int .i64 n) H
  unfold XP
  rw [h1]
  rfl
theorem XP.set3 (H : XP w h x v1 v2) (n : Int) : XP (w.setCell ⟨h, 3, none⟩ (.int .i64 n)) h { x with m := n } v1 v2 := by
  have h1 := heap_setCell_same w h 3 _ 182 (.int .i64 n) H
  unfold XP
  rw [h1]
  rfl
theorem XP.set4 (H : XP w h x v1 v2) (l : List Int) (u : Value) : XP (w.setCell ⟨h, 4, none⟩ u) h { x with to := l } u v2 := by
  have h1 := heap_setCell_same w h 4 _ 182 u H
  unfold XP
  rw [h1]
  rfl
theorem XP.set5 (H : XP w h x v1 v2) (l : List Int) (u : Value) : XP (w.setCell ⟨h, 5, none⟩ u) h { x with ks := l } v1 u := by
  have h1 := heap_setCell_same w h 5 _ 182 u H
  unfold XP
  rw [h1]
  rfl
end
theorem own_ne {B : Nat} {w : World} {e : TypeId} {k : IntKind} {v : Value} {l : List Int} (H : Own B w e k v l) {g : Nat} {c : Array Value} {T : TypeId} {z : Nat × Nat} (hg : w.heap[g]? = some (.cells c T z)) (hT : T ≠ e) : v.ownBlock ≠ some g := by
  obtain ⟨⟨h1, h2⟩, hf⟩ := H
  rcases h2 with ⟨rfl, _⟩ | ⟨b, cap, cur, rfl, hb, hh, _⟩
  · intro e; cases e
  · intro e
    injection e with e
    subst e
    rw [hh] at hg
    injection hg with hg
    injection hg with h1 h2 h3
    exact hT h2.symm
theorem blocks_ne {w : World} {g h : Nat} {c d : Array Value} {T U : TypeId} {y z : Nat × Nat} (hg : w.heap[g]? = some (.cells c T y)) (hh : w.heap[h]? = some (.cells d U z)) (hT : T ≠ U) : g ≠ h := by
  rintro rfl
  rw [hg] at hh
  injection hh with hh
  injection hh with h1 h2 h3
  exact hT h2
structure ST (w0 w : World) (h r g c0 : Nat) (x : In) (v1 v2 v : Value) (q : List Int × Bool) : Prop where
  xb : XP w h x v1 v2
  o1 : Own w0.heap.size w 3 .i64 v1 x.to
  o2 : Own w0.heap.size w 3 .i64 v2 x.ks
  ne : ∀ b, v1.ownBlock = some b → v2.ownBlock ≠ some b
  rb : w.heap[r]? = some (.cells #[.pointer (some ⟨g, 0, none⟩)] 283 (0, 0))
  pr : PR w g v x.a q.2
  row : Row w0 .u8 v q.1
  ext : Ext w0 w
  hg : w0.heap.size ≤ g
  hh : w0.heap.size ≤ h
  hr : w0.heap.size ≤ r
  rc : XP w c0 i0 (.slice none 0 0) (.slice none 0 0)
  hc : c0 ≠ h
  hcc : w0.heap.size ≤ c0
section
variable {w0 w w' : World} {h r g c0 : Nat} {x : In} {v1 v2 v : Value} {q : List Int × Bool}
theorem ST.hg_ne (H : ST w0 w h r g c0 x v1 v2 v q) : h ≠ g := blocks_ne H.xb H.pr (by decide)
theorem ST.rg_ne (H : ST w0 w h r g c0 x v1 v2 v q) : r ≠ g := blocks_ne H.rb H.pr (by decide)
theorem ST.hr_ne (H : ST w0 w h r g c0 x v1 v2 v q) : h ≠ r := blocks_ne H.xb H.rb (by decide)
theorem ST.cg_ne (H : ST w0 w h r g c0 x v1 v2 v q) : c0 ≠ g := blocks_ne H.rc H.pr (by decide)
theorem ST.le (H : ST w0 w h r g c0 x v1 v2 v q) : w0.heap.size ≤ w.heap.size := H.ext.size
theorem ST.later (H : ST w0 w h r g c0 x v1 v2 v q) (e : Ext w w') : ST w0 w' h r g c0 x v1 v2 v q :=
  ⟨(e.block h (lt_of_get H.xb)).trans H.xb, H.o1.ext e, H.o2.ext e, H.ne, (e.block r (lt_of_get H.rb)).trans H.rb, H.pr.ext e, H.row, H.ext.trans e, H.hg, H.hh, H.hr, (e.block c0 (lt_of_get H.rc)).trans H.rc, H.hc, H.hcc⟩
theorem ST.drew (H : ST w0 w h r g c0 x v1 v2 v q) : ST w0 w.drew h r g c0 x v1 v2 v q := H.later (Ext.refl w).drew
theorem ST.alloc (H : ST w0 w h r g c0 x v1 v2 v q) (o : Obj) : ST w0 (w.alloc o) h r g c0 x v1 v2 v q := H.later ((Ext.refl w).alloc o)
theorem ST.rbcell (H : ST w0 w h r g c0 x v1 v2 v q) : w.cell? ⟨r, 0, none⟩ = some (.pointer (some ⟨g, 0, none⟩)) := by
  rw [cell_of_row w r 0 _ _ (0, 0) H.rb]
  rfl
theorem ST.read (H : ST w0 w h r g c0 x v1 v2 v q) {rr : Int × List Int × Bool} {e : Ending} (hp : PRet w0 w g x.a rr e w') : e = .returned (.int .i64 rr.1) ∧ ∃ v', ST w0 w' h r g c0 x v1 v2 v' rr.2 := by
  obtain ⟨rfl, ⟨v', hp, hr⟩, hgr⟩ := hp
  refine ⟨rfl, v', ?_⟩
  have hs : Ext w0 w' := H.ext.grown hgr (fun g' hg' => by injection hg' with e; subst e; exact H.hg)
  refine ⟨(hgr.block h (lt_of_get H.xb) (fun e => H.hg_ne (by injection e))).trans H.xb, H.o1.kept hgr ?_, H.o2.kept hgr ?_, H.ne, (hgr.block r (lt_of_get H.rb) (fun e => H.rg_ne (by injection e))).trans H.rb, hp, hr, hs, H.hg, H.hh, H.hr, (hgr.block c0 (lt_of_get H.rc) (fun e => H.cg_ne (by injection e))).trans H.rc, H.hc, H.hcc⟩
  · intro b hb e
    injection e with e
    subst e
    exact own_ne H.o1 H.pr (by decide) hb
  · intro b hb e
    injection e with e
    subst e
    exact own_ne H.o2 H.pr (by decide) hb
theorem ST.app1' (H : ST w0 w h r g c0 x v1 v2 v q) {u : Value} {l : List Int} (ho : Own w0.heap.size w' 3 .i64 u l) (hgr : w.grownBy w' v1.ownBlock) (hb : ∀ b, u.ownBlock = some b → v2.ownBlock ≠ some b) :
    ST w0 (w'.setCell ⟨h, 4, none⟩ u) h r g c0 { x with to := l } u v2 v q ∧ w'.cell? ⟨h, 4, none⟩ = some v1 ∧ w'.cell? ⟨r, 0, none⟩ = some (.pointer (some ⟨g, 0, none⟩)) ∧ w'.frozen? ⟨h, 4, none⟩ = false := by
  have n1 : v1.ownBlock ≠ some h := own_ne H.o1 H.xb (by decide)
  have n2 : v1.ownBlock ≠ some g := own_ne H.o1 H.pr (by decide)
  have n3 : v1.ownBlock ≠ some r := own_ne H.o1 H.rb (by decide)
  have n4 : v1.ownBlock ≠ some c0 := own_ne H.o1 H.rc (by decide)
  have rc' := (hgr.block c0 (lt_of_get H.rc) (fun e => n4 e.symm)).trans H.rc
  have xb' : XP w' h x v1 v2 := (hgr.block h (lt_of_get H.xb) (fun e => n1 e.symm)).trans H.xb
  have rb' := (hgr.block r (lt_of_get H.rb) (fun e => n3 e.symm)).trans H.rb
  have pr' : PR w' g v x.a q.2 := (hgr.block g (lt_of_get H.pr) (fun e => n2 e.symm)).trans H.pr
  have o2' : Own w0.heap.size w' 3 .i64 v2 x.ks := H.o2.kept hgr (fun b hb e => H.ne b e hb)
  have e' : Ext w0 w' := H.ext.grown hgr H.o1.low
  have hset : ∀ i, i ≠ h → (w'.setCell ⟨h, 4, none⟩ u).heap[i]? = w'.heap[i]? := fun i hi => Below.heap_setCell w' ⟨h, 4, none⟩ u i hi
  have hgrow : w'.grownBy (w'.setCell ⟨h, 4, none⟩ u) (some h) := only_set (World.grownBy.refl w' _) 4 u
  refine ⟨⟨xb'.set4 l u, ho.kept hgrow ?_, o2'.kept hgrow ?_, ?_, (hset r (fun e => H.hr_ne e.symm)).trans rb', (hset g (fun e => H.hg_ne e.symm)).trans pr', H.row, e'.set_ H.hh u, H.hg, H.hh, H.hr, (hset c0 H.hc).trans rc', H.hc, H.hcc⟩, xb'.cells.2.2.2.2.1, ?_, xb'.free 4⟩
  · intro b hb e
    injection e with e
    subst e
    exact own_ne ho xb' (by decide) hb
  · intro b hb e
    injection e with e
    subst e
    exact own_ne o2' xb' (by decide) hb
  · exact hb
  · rw [cell_of_row w' r 0 _ _ (0, 0) rb']
    rfl
theorem ST.app1 (H : ST w0 w h r g c0 x v1 v2 v q) {u : Value} {l : List Int} (ho : Own w0.heap.size w' 3 .i64 u l) (hgr : w.grownBy w' v1.ownBlock) (hb : u.ownBlock = v1.ownBlock ∨ u.ownBlock = some w.heap.size) :
    ST w0 (w'.setCell ⟨h, 4, none⟩ u) h r g c0 { x with to := l } u v2 v q ∧ w'.cell? ⟨h, 4, none⟩ = some v1 ∧ w'.cell? ⟨r, 0, none⟩ = some (.pointer (some ⟨g, 0, none⟩)) ∧ w'.frozen? ⟨h, 4, none⟩ = false :=
  H.app1' ho hgr fun b hu hv => by
    rcases hb with hb | hb
    · exact H.ne b (hb ▸ hu) hv
    · rw [hb] at hu
      injection hu with hu
      subst hu
      have := H.o2.high _ hv
      omega
theorem ST.app2 (H : ST w0 w h r g c0 x v1 v2 v q) {u : Value} {l : List Int} (ho : Own w0.heap.size w' 3 .i64 u l) (hgr : w.grownBy w' v2.ownBlock) (hb : u.ownBlock = v2.ownBlock ∨ u.ownBlock = some w.heap.size) :
    ST w0 (w'.setCell ⟨h, 5, none⟩ u) h r g c0 { x with ks := l } v1 u v q ∧ w'.cell? ⟨h, 5, none⟩ = some v2 ∧ w'.cell? ⟨r, 0, none⟩ = some (.pointer (some ⟨g, 0, none⟩)) ∧ w'.frozen? ⟨h, 5, none⟩ = false := by
  have n1 : v2.ownBlock ≠ some h := own_ne H.o2 H.xb (by decide)
  have n2 : v2.ownBlock ≠ some g := own_ne H.o2 H.pr (by decide)
  have n3 : v2.ownBlock ≠ some r := own_ne H.o2 H.rb (by decide)
  have n4 : v2.ownBlock ≠ some c0 := own_ne H.o2 H.rc (by decide)
  have rc' := (hgr.block c0 (lt_of_get H.rc) (fun e => n4 e.symm)).trans H.rc
  have xb' : XP w' h x v1 v2 := (hgr.block h (lt_of_get H.xb) (fun e => n1 e.symm)).trans H.xb
  have rb' := (hgr.block r (lt_of_get H.rb) (fun e => n3 e.symm)).trans H.rb
  have pr' : PR w' g v x.a q.2 := (hgr.block g (lt_of_get H.pr) (fun e => n2 e.symm)).trans H.pr
  have o1' : Own w0.heap.size w' 3 .i64 v1 x.to := H.o1.kept hgr (fun b hb e => H.ne b hb e)
  have e' : Ext w0 w' := H.ext.grown hgr H.o2.low
  have hset : ∀ i, i ≠ h → (w'.setCell ⟨h, 5, none⟩ u).heap[i]? = w'.heap[i]? := fun i hi => Below.heap_setCell w' ⟨h, 5, none⟩ u i hi
  have hgrow : w'.grownBy (w'.setCell ⟨h, 5, none⟩ u) (some h) := only_set (World.grownBy.refl w' _) 5 u
  refine ⟨⟨xb'.set5 l u, o1'.kept hgrow ?_, ho.kept hgrow ?_, ?_, (hset r (fun e => H.hr_ne e.symm)).trans rb', (hset g (fun e => H.hg_ne e.symm)).trans pr', H.row, e'.set_ H.hh u, H.hg, H.hh, H.hr, (hset c0 H.hc).trans rc', H.hc, H.hcc⟩, xb'.cells.2.2.2.2.2, ?_, xb'.free 5⟩
  · intro b hb e
    injection e with e
    subst e
    exact own_ne o1' xb' (by decide) hb
  · intro b hb e
    injection e with e
    subst e
    exact own_ne ho xb' (by decide) hb
  · intro b hu hv
    rcases hb with hb | hb
    · exact H.ne b hu (hb ▸ hv)
    · rw [hb] at hv
      injection hv with hv
      subst hv
      have := H.o1.high _ hu
      omega
  · rw [cell_of_row w' r 0 _ _ (0, 0) rb']
    rfl
theorem ST.field (H : ST w0 w h r g c0 x v1 v2 v q) {y : In} {j : Nat} {u : Value} (hx : XP (w.setCell ⟨h, j, none⟩ u) h y v1 v2) (ha : y.a = x.a) (ht : y.to = x.to) (hk : y.ks = x.ks) : ST w0 (w.setCell ⟨h, j, none⟩ u) h r g c0 y v1 v2 v q := by
  have hset : ∀ i, i ≠ h → (w.setCell ⟨h, j, none⟩ u).heap[i]? = w.heap[i]? := fun i hi => Below.heap_setCell w ⟨h, j, none⟩ u i hi
  have hgrow : w.grownBy (w.setCell ⟨h, j, none⟩ u) (some h) := only_set (World.grownBy.refl w _) j u
  have k1 := H.o1.kept hgrow (fun b hb e => by
    injection e with e
    subst e
    exact own_ne H.o1 H.xb (by decide) hb)
  have k2 := H.o2.kept hgrow (fun b hb e => by
    injection e with e
    subst e
    exact own_ne H.o2 H.xb (by decide) hb)
  rw [← ht] at k1
  rw [← hk] at k2
  have k3 : PR (w.setCell ⟨h, j, none⟩ u) g v x.a q.2 := (hset g (fun e => H.hg_ne e.symm)).trans H.pr
  rw [← ha] at k3
  exact ⟨hx, k1, k2, H.ne, (hset r (fun e => H.hr_ne e.symm)).trans H.rb, k3, H.row, H.ext.set_ H.hh u, H.hg, H.hh, H.hr, (hset c0 H.hc).trans H.rc, H.hc, H.hcc⟩
end
theorem Own.one_ {B : Nat} (w : World) {e : TypeId} (k : IntKind) (t : Int) (ht : (Lit.int k t).wf = true) (hB : B ≤ w.heap.size) : Own B (w.alloc (.cells #[.int k t] e)) e k (.slice (some ⟨w.heap.size, 0, none⟩) 1 1) [t] := by
  refine ⟨⟨by simp, .inr ⟨w.heap.size, 1, #[.int k t], rfl, hB, heap_alloc_new w _, Nat.le_refl _, by simp [maxLen], by simp, by simp⟩⟩, fun y hy => ?_⟩
  rw [List.mem_singleton.1 hy]
  exact ht
def InsAns (w0 : World) (g : Nat) (r : In × List Int × Bool) (e : Ending) (w' : World) : Prop :=
  ∃ v1 v2 v, e = .returned (.agg (r.1.vals v1 v2)) ∧ Own w0.heap.size w' 3 .i64 v1 r.1.to ∧ Own w0.heap.size w' 3 .i64 v2 r.1.ks ∧ PR w' g v r.1.a r.2.2 ∧ Row w0 .u8 v r.2.1 ∧ Ext w0 w'
theorem ST.out {w0 W : World} {h r g c0 : Nat} {x : In} {v1 v2 v : Value} {q : List Int × Bool} (H : ST w0 W h r g c0 x v1 v2 v q) {w' : World} (hgr : W.grownBy w' (some c0)) : InsAns w0 g (x, q) (.returned (.agg (x.vals v1 v2))) w' := by
  refine ⟨v1, v2, v, rfl, H.o1.kept hgr ?_, H.o2.kept hgr ?_, ?_, H.row, H.ext.grown hgr (fun k hk => by injection hk with hk; subst hk; exact H.hcc)⟩
  · intro b hb e
    injection e with e
    subst e
    exact own_ne H.o1 H.rc (by decide) hb
  · intro b hb e
    injection e with e
    subst e
    exact own_ne H.o2 H.rc (by decide) hb
  · exact (hgr.block g (lt_of_get H.pr) (fun e => H.cg_ne (by injection e with e; exact e.symm))).trans H.pr
theorem six_set {W : World} (c : Nat) (a0 a1 a2 a3 a4 a5 : Value) : W.grownBy ((((((W.setCell ⟨c, 0, none⟩ a0).setCell ⟨c, 1, none⟩ a1).setCell ⟨c, 2, none⟩ a2).setCell ⟨c, 3, none⟩ a3).setCell ⟨c, 4, none⟩ a4).setCell ⟨c, 5, none⟩ a5) (some c) :=
  only_set (only_set (only_set (only_set (only_set (only_set (World.grownBy.refl W _) 0 a0) 1 a1) 2 a2) 3 a3) 4 a4) 5 a5
end Go.Proofs.YtokmeomjdpfknaaGreatDoor
namespace Go.Proofs.YtokmeomjdpfknaaGreatDoor
open Go.RowKit
set_option linter.unusedVariables false

def Left (w0 : World) (h r g c0 : Nat) (x : In) (q : List Int × Bool) (e : Ending) (w' : World) : Prop := e = .returned (.tuple #[]) ∧ ∃ v1 v2 v, ST w0 w' h r g c0 x v1 v2 v q
set_option maxRecDepth 100000 in
set_option maxHeartbeats 2000000 in
theorem lit1_any (w0 w : World) (h r g c0 : Nat) (x : In) (v1 v2 v : Value) (q : List Int × Bool) (H : ST w0 w h r g c0 x v1 v2 v q) (ha : 0 ≤ x.a ∧ x.a < 8192) (hl : x.to.length ≤ 100000) :
    Calls Tryz.prog 272 #[.pointer (some ⟨h, 0, none⟩), .pointer (some ⟨r, 0, none⟩)] w
      (Left w0 h r g c0 { x with to := x.to ++ [x.a + (rdN true 2 true q).1] } (rdN true 2 true q).2) := by
  have hb := rdN_bound (st := true) (en := q.2) (s := 2) (sg := true) (by unfold Siz; simp) (bytes_of H.row)
  have hw := fun W (e : Ext w W) => place_any w0 W g q.1 v x.a q.2 (H.pr.ext e) H.row (H.ext.trans e) H.hg ha
  obtain ⟨z4, z5⟩ := H.xb.cells.2.2.2.2
  have y0 := H.rbcell
  obtain ⟨q1, q2⟩ := q
  simp only at hw hb
  obtain ⟨rr, hrr⟩ : ∃ rr, rdN true 2 true (q1, q2) = rr := ⟨_, rfl⟩
  rw [hrr] at hb ⊢
  simp only [hrr] at hw
  obtain ⟨t, q'⟩ := rr
  simp only at hb hw ⊢
  have HW := Lib.hid hw
  have H0 := Lib.hid H
  have hwf := wf_i64 (x := x.a + t) (by omega) (by omega)
  clear hw hrr H
  go_enter Tryz.func272, Tryz.ntmps272
  go_wp2
  go_region_law (first
    | ((refine step_call rfl 270 _ _ rfl #[.pointer (some ⟨g, 0, none⟩)] (by simp [go_sem]) (by simp [go_sem]) ?_); ((with_reducible refine (HW.out _ (Ext.refl w).drew).mono ?_); rintro e w1 hp1); obtain ⟨rfl, u1, hs1⟩ := H0.out.drew.read hp1; refine ⟨_, rfl, ?_⟩; obtain ⟨z41, z51⟩ := hs1.xb.cells.2.2.2.2; have y1 := hs1.rbcell; have z41a := fun o => (hs1.alloc o).xb.cells.2.2.2.2.1)
    | ((refine step_app rfl _ _ w0.heap.size 165 3 _ 8 .i64 rfl Tryz.underlying165 info64 rfl (by omega) v1 x.to rfl (hs1.alloc _).o1 _ [x.a + t] rfl (Row.built1 _ _ _ _ hwf) (by simp only [List.length_singleton]; omega) (by have := hs1.le; simp; omega) ?_); intro v5 w5 ho5 hgr5 hb5; obtain ⟨hs5, z45, y5, f45⟩ := (hs1.alloc _).app1 ho5 hgr5 hb5; obtain ⟨A5, k5, rfl, -⟩ := ho5.row))
  all_goals
    go_end0
    rw [List.length_append] at hs5
    exact ⟨rfl, _, _, _, hs5⟩
set_option maxRecDepth 100000 in
set_option maxHeartbeats 4000000 in
theorem lit2_any (w0 w : World) (h r g c0 : Nat) (x : In) (v1 v2 v : Value) (q : List Int × Bool) (H : ST w0 w h r g c0 x v1 v2 v q) (ha : 0 ≤ x.a ∧ x.a < 8192) (hl : x.to.length ≤ 100000) (hk : x.ks.length ≤ 100000) :
    Calls Tryz.prog 273 #[.pointer (some ⟨h, 0, none⟩), .pointer (some ⟨r, 0, none⟩)] w
      (Left w0 h r g c0 { x with ks := x.ks ++ [(rdN true 4 true q).1], to := x.to ++ [x.a + (rdN true 2 true (rdN true 4 true q).2).1] } (rdN true 2 true (rdN true 4 true q).2).2) := by
  have hb := rdN_bound (st := true) (en := q.2) (s := 4) (sg := true) (by unfold Siz; simp) (bytes_of H.row)
  have hw : ∀ W, Ext w W → Calls Tryz.prog 269 #[.pointer (some ⟨g, 0, none⟩), .int .i64 4] W (PRet w0 W g x.a (rdN true 4 true (q.1, q.2))) := fun W e => signed_any w0 W g q.1 v x.a q.2 4 (H.pr.ext e) H.row (H.ext.trans e) H.hg (by unfold Siz; simp)
  obtain ⟨z4, z5⟩ := H.xb.cells.2.2.2.2
  have y0 := H.rbcell
  obtain ⟨q1, q2⟩ := q
  simp only at hw hb
  obtain ⟨rr, hrr⟩ : ∃ rr, rdN true 4 true (q1, q2) = rr := ⟨_, rfl⟩
  rw [hrr] at hb ⊢
  simp only [hrr] at hw
  obtain ⟨k, q'⟩ := rr
  simp only at hb hw ⊢
  have HW := Lib.hid hw
  have H0 := Lib.hid H
  have hwf := wf_i64 (x := k) (by omega) (by omega)
  clear hw hrr H
  obtain ⟨rr, hrr⟩ : ∃ rr, rdN true 2 true q' = rr := ⟨_, rfl⟩
  rw [hrr]
  have HR := Lib.hid hrr
  clear hrr
  go_enter Tryz.func273, Tryz.ntmps273
  go_wp2
  go_region_law (first
    | ((refine step_call rfl 269 _ _ rfl #[.pointer (some ⟨g, 0, none⟩), .int .i64 4] (by simp [go_sem]) (by simp [go_sem]) ?_); ((with_reducible refine (HW.out _ (Ext.refl w).drew).mono ?_); rintro e w1 hp1); obtain ⟨rfl, u1, hs1⟩ := H0.out.drew.read hp1; refine ⟨_, rfl, ?_⟩; obtain ⟨z41, z51⟩ := hs1.xb.cells.2.2.2.2; have y1 := hs1.rbcell; have z51a := fun o => (hs1.alloc o).xb.cells.2.2.2.2.2)
    | ((refine step_app rfl _ _ w0.heap.size 165 3 _ 8 .i64 rfl Tryz.underlying165 info64 rfl (by omega) v2 x.ks rfl (hs1.alloc _).o2 _ [k] rfl (Row.built1 _ _ _ _ hwf) (by simp only [List.length_singleton]; omega) (by have := hs1.le; simp; omega) ?_); intro v5 w5 ho5 hgr5 hb5; obtain ⟨hs5, z45, y5, f45⟩ := (hs1.alloc _).app2 ho5 hgr5 hb5; obtain ⟨A5, k5, rfl, -⟩ := ho5.row))
  all_goals
    rw [List.length_append] at hs5
    simp only at hs5
    clear hp1 hb5 ho5 hgr5 z41 z51 y1 z51a z45 y5 f45 z4 z5 y0
    obtain ⟨W, hW⟩ : ∃ W, W = w5.setCell ⟨h, 5, none⟩ (.slice A5 (x.ks.length + 1) k5) := ⟨_, rfl⟩
    have hs5' : ST w0 W h r g c0 { x with ks := x.ks ++ [k] } v1 (.slice A5 (x.ks.length + 1) k5) u1 q' := by rw [hW]; exact hs5
    rw [← hW]
    have hb2 := rdN_bound (st := true) (en := q'.2) (s := 2) (sg := true) (by unfold Siz; simp) (bytes_of hs5'.row)
    have hw2 := fun W' (e : Ext W W') => place_any w0 W' g q'.1 u1 x.a q'.2 (hs5'.pr.ext e) hs5'.row (hs5'.ext.trans e) hs5'.hg ha
    rw [show (q'.1, q'.2) = q' from rfl, HR.out] at hb2
    simp only [show (q'.1, q'.2) = q' from rfl, HR.out] at hw2
    obtain ⟨t, q''⟩ := rr
    simp only at hb2 hw2 ⊢
    have HW2 := Lib.hid hw2
    have H2 := Lib.hid hs5'
    have hwf2 := wf_i64 (x := x.a + t) (by omega) (by omega)
    obtain ⟨z4, z5⟩ := hs5'.xb.cells.2.2.2.2
    have y0 := hs5'.rbcell
    clear hw2 hs5 hs5' hs1 hW
    go_wp2
    go_region_law (first
      | ((refine step_call rfl 270 _ _ rfl #[.pointer (some ⟨g, 0, none⟩)] (by simp [go_sem]) (by simp [go_sem]) ?_); ((with_reducible refine (HW2.out _ (Ext.refl W).drew).mono ?_); rintro e w6 hp6); obtain ⟨rfl, u6, hs6⟩ := H2.out.drew.read hp6; refine ⟨_, rfl, ?_⟩; obtain ⟨z46, z56⟩ := hs6.xb.cells.2.2.2.2; have y6 := hs6.rbcell; have z46a := fun o => (hs6.alloc o).xb.cells.2.2.2.2.1)
      | ((refine step_app rfl _ _ w0.heap.size 165 3 _ 8 .i64 rfl Tryz.underlying165 info64 rfl (by omega) v1 x.to rfl (hs6.alloc _).o1 _ [x.a + t] rfl (Row.built1 _ _ _ _ hwf2) (by simp only [List.length_singleton]; omega) (by have := hs6.le; simp; omega) ?_); intro v7 w7 ho7 hgr7 hb7; obtain ⟨hs7, z47, y7, f47⟩ := (hs6.alloc _).app1 ho7 hgr7 hb7; obtain ⟨A7, k7, rfl, -⟩ := ho7.row))
    all_goals
      go_end0
      rw [List.length_append] at hs7
      exact ⟨rfl, _, _, _, hs7⟩
end Go.Proofs.YtokmeomjdpfknaaGreatDoor
namespace Go.Proofs.YtokmeomjdpfknaaGreatDoor
open Go.RowKit
set_option linter.unusedVariables false

theorem rdN_u2 {l : List Int} {en : Bool} (hb : ∀ c ∈ l, B8 c) : 0 ≤ (rdN true 2 false (l, en)).1 ∧ (rdN true 2 false (l, en)).1 ≤ 65535 := by
  unfold rdN
  split
  · simp
  · match l with
    | [] => simp [pk]
    | [_] => simp [pk]
    | p :: q :: l => have := u2_in (hb p (by simp)) (hb q (by simp)); simp [pk]; omega
theorem rdT_step {a : Int} {n : Nat} {q : List Int × Bool} (h : q.2 = false) : rdT true a (n + 1) q = ((a + (rdN true 2 true q).1) :: (rdT true a n (rdN true 2 true q).2).1, (rdT true a n (rdN true 2 true q).2).2) := by
  rw [rdT, if_neg (by simp [h])]
theorem rdK_step {a : Int} {n : Nat} {q : List Int × Bool} (h : q.2 = false) : rdK true a (n + 1) q = ((rdN true 4 true q).1 :: (rdK true a n (rdN true 2 true (rdN true 4 true q).2).2).1, (a + (rdN true 2 true (rdN true 4 true q).2).1) :: (rdK true a n (rdN true 2 true (rdN true 4 true q).2).2).2.1, (rdK true a n (rdN true 2 true (rdN true 4 true q).2).2).2.2) := by
  rw [rdK, if_neg (by simp [h])]
def ComeT (a : Int) (Y : List Int × List Int × Bool) (k : Nat) (l : List Int) (q : List Int × Bool) : Prop := Y = (l ++ (rdT true a k q).1, (rdT true a k q).2)
def ComeK (a : Int) (Y : List Int × List Int × List Int × Bool) (k : Nat) (l m : List Int) (q : List Int × Bool) : Prop := Y = (l ++ (rdK true a k q).1, m ++ (rdK true a k q).2.1, (rdK true a k q).2.2)
theorem ComeT.next {a : Int} {Y : List Int × List Int × Bool} {k : Nat} {l : List Int} {q : List Int × Bool} (h : ComeT a Y (k + 1) l q) (he : q.2 = false) : ComeT a Y k (l ++ [a + (rdN true 2 true q).1]) (rdN true 2 true q).2 := by
  unfold ComeT at *
  rw [rdT_step he] at h
  simpa using h
theorem ComeK.next {a : Int} {Y : List Int × List Int × List Int × Bool} {k : Nat} {l m : List Int} {q : List Int × Bool} (h : ComeK a Y (k + 1) l m q) (he : q.2 = false) :
    ComeK a Y k (l ++ [(rdN true 4 true q).1]) (m ++ [a + (rdN true 2 true (rdN true 4 true q).2).1]) (rdN true 2 true (rdN true 4 true q).2).2 := by
  unfold ComeK at *
  rw [rdK_step he] at h
  simpa using h
theorem ComeT.end_ {a : Int} {Y : List Int × List Int × Bool} {k : Nat} {l : List Int} {q : List Int × Bool} (h : ComeT a Y k l q) (he : k = 0 ∨ q.2 = true) : Y = (l, q) := by
  unfold ComeT at h
  rcases he with rfl | he
  · simpa [rdT] using h
  · rw [rdT_ended he] at h; simpa using h
theorem ComeK.end_ {a : Int} {Y : List Int × List Int × List Int × Bool} {k : Nat} {l m : List Int} {q : List Int × Bool} (h : ComeK a Y k l m q) (he : k = 0 ∨ q.2 = true) : Y = (l, m, q) := by
  unfold ComeK at h
  rcases he with rfl | he
  · simpa [rdK] using h
  · rw [rdK_ended he] at h; simpa using h
set_option maxRecDepth 100000 in
set_option maxHeartbeats 2000000 in
theorem othersT_any (w0 w : World) (h r g c0 : Nat) (x : In) (v1 v2 v : Value) (q : List Int × Bool) (H : ST w0 w h r g c0 x v1 v2 v q) (ha : 0 ≤ x.a ∧ x.a < 8192) (hl : x.to.length ≤ 20000) (Y : List Int × List Int × Bool) (hY : rdT true x.a (rdN true 2 false q).1.toNat (rdN true 2 false q).2 = Y) :
    Calls Tryz.prog 271 #[.pointer (some ⟨g, 0, none⟩), .func (.func 272) #[] #[.pointer (some ⟨h, 0, none⟩), .pointer (some ⟨r, 0, none⟩)]] w
      (Left w0 h r g c0 { x with to := x.to ++ Y.1 } Y.2) := by
  have hb := rdN_u2 (en := q.2) (bytes_of H.row)
  have hw : Calls Tryz.prog 268 #[.pointer (some ⟨g, 0, none⟩), .int .i64 2] w (PRet w0 w g x.a (rdN true 2 false (q.1, q.2))) := plain_any w0 w g q.1 v x.a q.2 2 H.pr H.row H.ext H.hg (by unfold Siz; simp)
  rw [show (q.1, q.2) = q from rfl] at hb hw
  obtain ⟨rr, hrr⟩ : ∃ rr, rdN true 2 false q = rr := ⟨_, rfl⟩
  rw [hrr] at hb hw hY
  obtain ⟨c, q'⟩ := rr
  simp only at hb hw hY
  obtain ⟨n, rfl⟩ : ∃ n : Nat, c = (n : Int) := ⟨c.toNat, by omega⟩
  rw [Int.toNat_natCast] at hY
  have HC : Hid (ComeT x.a Y n [] q') := Lib.hid (by unfold ComeT; rw [← hY]; simp)
  have HW := Lib.hid hw
  have H0 := Lib.hid H
  clear hw hrr H hY
  go_enter Tryz.func271, Tryz.ntmps271
  go_wp2_with (go_at_call 268; refine HW.out.mono ?_; rintro e w1 hp1; obtain ⟨rfl, u1, hs1⟩ := H0.out.read hp1)
  go_loopw [4] (fun i wr => ∃ (k : Nat) (l : List Int) (v1 v2 v : Value) (p : List Int × Bool), i = .int .i64 k ∧ (x.to.length + l.length + k ≤ 90000) ∧ Hid (ST w0 wr h r g c0 { x with to := x.to ++ l } v1 v2 v p) ∧ Hid (ComeT x.a Y k l p)) (fun i _ => (intOf i).toNat)
  case atStart => exact ⟨n, [], v1, v2, u1, q', rfl, by simp; omega, Lib.hid (by simpa using hs1), HC⟩
  case round =>
    obtain ⟨k, l, v1, v2, v, p, rfl, hlen, HS, HCk⟩ := hrel
    by_cases hk0 : k = 0
    · subst hk0
      have HE := Lib.hid (HCk.out.end_ (.inl rfl))
      go_wp2
      go_end0
      rw [HE.out]
      exact ⟨rfl, v1, v2, v, HS.out⟩
    · obtain ⟨j, rfl⟩ : ∃ j, k = j + 1 := ⟨k - 1, by omega⟩
      obtain ⟨d0, d1, d2, f0, f1, f2⟩ := HS.out.pr.cells
      obtain ⟨p1, p2⟩ := p
      cases p2
      · have HN := Lib.hid (HCk.out.next rfl)
        go_wp2_with (go_at_call 272; refine (lit1_any w0 _ h r g c0 _ v1 v2 v (p1, false) HS.out ha (by simp; omega)).mono ?_; rintro e w2 ⟨rfl, u1, u2, u, hs2⟩)
        go_roundw
        case rel => exact ⟨j, _, _, _, _, _, by go_num, by simp; omega, Lib.hid (by simpa using hs2), HN⟩
        case measure => simp [intOf]
      · have HE := Lib.hid (HCk.out.end_ (.inr rfl))
        go_wp2
        go_end0
        rw [HE.out]
        exact ⟨rfl, v1, v2, v, HS.out⟩
set_option maxRecDepth 100000 in
set_option maxHeartbeats 2000000 in
theorem othersK_any (w0 w : World) (h r g c0 : Nat) (x : In) (v1 v2 v : Value) (q : List Int × Bool) (H : ST w0 w h r g c0 x v1 v2 v q) (ha : 0 ≤ x.a ∧ x.a < 8192) (hl : x.to.length ≤ 20000) (hk : x.ks.length ≤ 20000) (Y : List Int × List Int × List Int × Bool) (hY : rdK true x.a (rdN true 2 false q).1.toNat (rdN true 2 false q).2 = Y) :
    Calls Tryz.prog 271 #[.pointer (some ⟨g, 0, none⟩), .func (.func 273) #[] #[.pointer (some ⟨h, 0, none⟩), .pointer (some ⟨r, 0, none⟩)]] w
      (Left w0 h r g c0 { x with ks := x.ks ++ Y.1, to := x.to ++ Y.2.1 } Y.2.2) := by
  have hb := rdN_u2 (en := q.2) (bytes_of H.row)
  have hw : Calls Tryz.prog 268 #[.pointer (some ⟨g, 0, none⟩), .int .i64 2] w (PRet w0 w g x.a (rdN true 2 false (q.1, q.2))) := plain_any w0 w g q.1 v x.a q.2 2 H.pr H.row H.ext H.hg (by unfold Siz; simp)
  rw [show (q.1, q.2) = q from rfl] at hb hw
  obtain ⟨rr, hrr⟩ : ∃ rr, rdN true 2 false q = rr := ⟨_, rfl⟩
  rw [hrr] at hb hw hY
  obtain ⟨c, q'⟩ := rr
  simp only at hb hw hY
  obtain ⟨n, rfl⟩ : ∃ n : Nat, c = (n : Int) := ⟨c.toNat, by omega⟩
  rw [Int.toNat_natCast] at hY
  have HC : Hid (ComeK x.a Y n [] [] q') := Lib.hid (by unfold ComeK; rw [← hY]; simp)
  have HW := Lib.hid hw
  have H0 := Lib.hid H
  clear hw hrr H hY
  go_enter Tryz.func271, Tryz.ntmps271
  go_wp2_with (go_at_call 268; refine HW.out.mono ?_; rintro e w1 hp1; obtain ⟨rfl, u1, hs1⟩ := H0.out.read hp1)
  go_loopw [4] (fun i wr => ∃ (k : Nat) (l m : List Int) (v1 v2 v : Value) (p : List Int × Bool), i = .int .i64 k ∧ (x.to.length + m.length + k ≤ 90000 ∧ x.ks.length + l.length + k ≤ 90000) ∧ Hid (ST w0 wr h r g c0 { x with ks := x.ks ++ l, to := x.to ++ m } v1 v2 v p) ∧ Hid (ComeK x.a Y k l m p)) (fun i _ => (intOf i).toNat)
  case atStart => exact ⟨n, [], [], v1, v2, u1, q', rfl, by simp; omega, Lib.hid (by simpa using hs1), HC⟩
  case round =>
    obtain ⟨k, l, m, v1, v2, v, p, rfl, hlen, HS, HCk⟩ := hrel
    by_cases hk0 : k = 0
    · subst hk0
      have HE := Lib.hid (HCk.out.end_ (.inl rfl))
      go_wp2
      go_end0
      rw [HE.out]
      exact ⟨rfl, v1, v2, v, HS.out⟩
    · obtain ⟨j, rfl⟩ : ∃ j, k = j + 1 := ⟨k - 1, by omega⟩
      obtain ⟨d0, d1, d2, f0, f1, f2⟩ := HS.out.pr.cells
      obtain ⟨p1, p2⟩ := p
      cases p2
      · have HN := Lib.hid (HCk.out.next rfl)
        go_wp2_with (go_at_call 273; refine (lit2_any w0 _ h r g c0 _ v1 v2 v (p1, false) HS.out ha (by simp; omega) (by simp; omega)).mono ?_; rintro e w2 ⟨rfl, u1, u2, u, hs2⟩)
        go_roundw
        case rel => exact ⟨j, _, _, _, _, _, _, by go_num, by simp; omega, Lib.hid (by simpa using hs2), HN⟩
        case measure => simp [intOf]
      · have HE := Lib.hid (HCk.out.end_ (.inr rfl))
        go_wp2
        go_end0
        rw [HE.out]
        exact ⟨rfl, v1, v2, v, HS.out⟩
end Go.Proofs.YtokmeomjdpfknaaGreatDoor
namespace Go.Proofs.YtokmeomjdpfknaaGreatDoor
open Go.RowKit
set_option linter.unusedVariables false

theorem wpList_alloc_row {P : Program} {ops : Array Oper} {rest : List Oper} {o : Oper} {a : Act} {w : World} {Q : Exit → Act → World → Prop} (hg : o.guard = none) (t : TypeId) (hop : o.op = .alloc t) (z : Array Value) (n : Nat)
    (hi : (P.info? t).map (fun i => (i.zero, i.size)) = some (some (.agg z), n)) (hn : z.size = n)
    (h : wpList P ops Q rest (a.put o.dst (.pointer (some ⟨w.heap.size, 0, none⟩))) (w.alloc (.cells z t))) : wpList P ops Q (o :: rest) a w := by
  refine wpList_plain hg fun K hK => ?_
  have hz := (zero_of_info (P := P) hi).1
  have e1 : (Instr.alloc t true (.tuple #[])).run P w = .ok (.pointer (some ⟨w.heap.size, 0, none⟩)) (w.alloc (.cells z t)) := by
    simp [Instr.alloc, hz, go_sem, Value.cells]
  unfold Oper.wp execOp
  simp only [hop, Sem.run_bind, e1, Result.andThen_ok, Sem.run_pure]
  exact hK _ _ h
theorem wpList_call0 {P : Program} {ops : Array Oper} {rest : List Oper} {o : Oper} {a : Act} {w : World} {Q : Exit → Act → World → Prop} (hg : o.guard = none) (f : FuncId)
    (hop : o.op = .call { callee := .value (.func f), args := #[], argTypes := #[] }) (hrun : (callFunc f #[]).run P w = .ok (.enter f #[]) w)
    (h : Calls P f #[] w fun e w' => ∃ v, e = .returned v ∧ wpList P ops Q rest (a.put o.dst v) w') : wpList P ops Q (o :: rest) a w := by
  refine wpList_plain hg fun K hK => ?_
  obtain ⟨dst, op, ty, pos, after, guard⟩ := o
  subst hop
  unfold Oper.wp
  rw [execOp_call_go]
  have e0 : (#[] ++ Array.map a.eval #[] ++ #[] : Array Value) = #[] := by simp
  rw [e0, hrun, Oper.upon_enter]
  refine h.mono ?_
  rintro e w' ⟨v, rfl, hv⟩
  exact hK _ _ hv
theorem Ext.setRow_ {a w : World} (h : Ext a w) {g : Nat} (hg : a.heap.size ≤ g) (cs : Array Value) : Ext a (w.setRow g cs) :=
  Below.trans h ⟨rfl, rfl, rfl, by simp [World.setRow], fun k hk => setRow_other w g k cs (by omega)⟩
end Go.Proofs.YtokmeomjdpfknaaGreatDoor
