/- Several texts of this proof, one behind the other. -/
import Derived.Test.YtkkfkjjmmdpafaaDoorYdD
import Derived.Deep.QuietTactic
import Derived.Deep.RegionHeld3
import Derived.BigQuiet
import Derived.Deep.RegionLaw
import Derived.Test.YtkkfkjjmmdpafaaDoorYdC
import Derived.Test.YtkkfkjjmmdpafaaDoorShelf5
import Derived.Test.YtkkfkjjmmdpafaaDoorProg
import Derived.Lib.SliceRun
namespace Go.Proofs.YtkkfkjjmmdpafaaDoor
open Go.RowKit Go.Maps Go.WideMaps
set_option linter.unusedVariables false

structure KeptT (B : Nat) (w w' : World) : Prop where
  size : w.heap.size ≤ w'.heap.size
  os : w'.os = w.os
  tape : w'.tape = w.tape
  output : w'.output = w.output
  low : ∀ b, b < B → b < w.heap.size → w'.heap[b]? = w.heap[b]?
  same : ∀ (b : Nat) (c : Array Value) (T : TypeId) (z : Nat × Nat), w.heap[b]? = some (.cells c T z) → T ≠ 69 → T ≠ 72 → w'.heap[b]? = some (.cells c T z)
theorem KeptT.refl (B : Nat) (w : World) : KeptT B w w := ⟨Nat.le_refl _, rfl, rfl, rfl, fun _ _ _ => rfl, fun _ _ _ _ h _ _ => h⟩
theorem KeptT.trans {B : Nat} {a b c : World} (h : KeptT B a b) (k : KeptT B b c) : KeptT B a c := ⟨Nat.le_trans h.size k.size, k.os.trans h.os, k.tape.trans h.tape, k.output.trans h.output, fun q h1 h2 => (k.low q h1 (Nat.lt_of_lt_of_le h2 h.size)).trans (h.low q h1 h2), fun q c T z h1 h2 h3 => k.same q c T z (h.same q c T z h1 h2 h3) h2 h3⟩
theorem KeptT.ext {B : Nat} {w w' : World} (e : Ext w w') : KeptT B w w' := ⟨e.size, e.os, e.tape, e.output, fun b _ h => e.block b h, fun b c T z h _ _ => (e.block b (lt_of_get h)).trans h⟩
theorem KeptT.grown {B : Nat} {w w' : World} {row : Option Nat} (h : w.grownBy w' row) (hr : ∀ b, row = some b → B ≤ b ∧ ∀ (c : Array Value) (T : TypeId) (z : Nat × Nat), w.heap[b]? = some (.cells c T z) → T = 69 ∨ T = 72) : KeptT B w w' :=
  ⟨h.size, h.os, h.tape, h.output, fun b h1 h2 => h.block b h2 (fun e => by have := (hr b e.symm).1; omega), fun b c T z hb h2 h3 => (h.block b (lt_of_get hb) (fun e => by
    rcases (hr b e.symm).2 c T z hb with h | h
    · exact h2 h
    · exact h3 h)).trans hb⟩
theorem KeptT.toExt {B : Nat} {w w' : World} (h : KeptT B w w') (hB : w.heap.size ≤ B) : Ext w w' := ⟨h.os, h.tape, h.output, h.size, fun b hb => h.low b (Nat.lt_of_lt_of_le hb hB) hb⟩
theorem Shp.Own.keptT {α : Type} {S : Shp α} {B : Nat} {w w' : World} {v : Value} {l : List α} (h : S.Own B w v l) {Bk : Nat} (k : KeptT Bk w w') (h1 : S.T ≠ 69) (h2 : S.T ≠ 72) (hn : ∀ x, S.nestO B w x → S.nestO B w' x) : S.Own B w' v l := by
  obtain ⟨⟨h3, h4⟩, hf⟩ := h
  refine ⟨⟨h3, ?_⟩, fun x hx => hn x (hf x hx)⟩
  rcases h4 with h4 | ⟨g, cap, cur, hv, hb, hg, hr⟩
  · exact .inl h4
  · exact .inr ⟨g, cap, cur, hv, hb, k.same g _ _ _ hg h1 h2, hr⟩
theorem Own.keptT {B : Nat} {w w' : World} {e : TypeId} {k : IntKind} {v : Value} {l : List Int} (h : Own B w e k v l) {Bk : Nat} (kt : KeptT Bk w w') (h1 : e ≠ 69) (h2 : e ≠ 72) : Own B w' e k v l := by
  obtain ⟨⟨h3, h4⟩, hf⟩ := h
  refine ⟨⟨h3, ?_⟩, hf⟩
  rcases h4 with h4 | ⟨g, cap, cur, hv, hb, hg, hr⟩
  · exact .inl h4
  · exact .inr ⟨g, cap, cur, hv, hb, kt.same g _ _ _ hg h1 h2, hr⟩
theorem NdOk.keptT {B : Nat} {w w' : World} {x : Nd} (h : NdOk B w x) {Bk : Nat} (k : KeptT Bk w w') : NdOk B w' x :=
  ⟨h.vi.keptT k (by decide) (by decide) (fun _ h => h), h.vs.keptT k (by decide) (by decide), h.va.keptT k (by decide) (by decide)⟩
theorem infoN : (Tryd.prog.info? 72).map (fun i => (i.zero, i.size, i.bytes)) = some (some (.agg nd0.vals), ShN.n, 200) := by kernel_rfl
theorem sizeN : (Value.agg nd0.vals).cells.size = ShN.n := by kernel_rfl
theorem SetAt.lt {B s m : Nat} {v : Sl} {D : DataW Unit} {w : World} {ns : List Nd} (h : SetAt B s m v D w ns) : s < w.heap.size ∧ m < w.heap.size := by
  refine ⟨lt_of_get h.blk, ?_⟩
  obtain ⟨es, clock, hb, hr⟩ := h.map
  exact lt_of_get hb
theorem SetAt.snoc {B s m : Nat} {v v' : Sl} {D D' : DataW Unit} {w w1 w2 w3 : World} {ns : List Nd} {nd : Nd} (h : SetAt B s m v D w ns) (hn : NdOk B w nd)
    (hm : w1.ownsMap Tryd.prog 9 (plainElem Tryd.prog 3) m (ns.length + 1) D') (hnum : NumOk D' (ns.map (·.k) ++ [nd.k])) (h1 : w.grownBy w1 (some m))
    (e12 : Ext w1 w2) (ho : ShN.Own B w3 v'.v (ns ++ [nd])) (h3 : w2.grownBy w3 v.v.ownBlock) :
    SetAt B s m v' D' (w3.setCell ⟨s, 0, none⟩ v'.v) (ns ++ [nd]) ∧ KeptT B w (w3.setCell ⟨s, 0, none⟩ v'.v) := by
  have hlt := h.lt
  have hsm : s ≠ m := by
    intro e
    obtain ⟨es, clock, hb, _⟩ := h.map
    have := h.blk
    rw [e, hb] at this
    cases this
  -- the map's block
  have k1 : KeptT B w w1 := KeptT.grown h1 (fun b e => by
    injection e with e
    subst e
    refine ⟨h.bm, fun c T z hb => ?_⟩
    obtain ⟨es, clock, hb2, _⟩ := h.map
    rw [hb2] at hb
    cases hb)
  have k2 : KeptT B w w2 := k1.trans (KeptT.ext e12)
  have blk1 : w1.heap[s]? = some (.cells #[v.v, .map (some m)] 69 (0, 0)) := (h1.block s hlt.1 (fun e => hsm (by injection e with e))).trans h.blk
  have blk2 := (e12.block s (lt_of_get blk1)).trans blk1
  have own2 : ShN.Own B w2 v.v ns := by
    refine (h.own.kept h1 (fun g hv e => ?_) (fun _ _ h => h)).ext e12
    injection e with e
    subst e
    obtain ⟨c, z, hg⟩ := Shp.Own.typed h.own _ hv
    obtain ⟨es, clock, hb2, _⟩ := h.map
    rw [hb2] at hg
    cases hg
  have hvs : v.v.ownBlock ≠ some s := fun e => by
    obtain ⟨c, z, hg⟩ := Shp.Own.typed own2 s e
    rw [blk2] at hg
    injection hg with hg
    injection hg with _ hg _
    exact absurd hg (by decide)
  have blk3 : w3.heap[s]? = some (.cells #[v.v, .map (some m)] 69 (0, 0)) := (h3.block s (lt_of_get blk2) (fun e => hvs e.symm)).trans blk2
  have k3 : KeptT B w w3 := k2.trans (KeptT.grown h3 (fun b e => by
    refine ⟨Shp.Own.low own2 b e, fun c T z hb => ?_⟩
    right
    obtain ⟨c2, z2, hg⟩ := Shp.Own.typed own2 b e
    rw [hb] at hg
    injection hg with hg
    injection hg))
  have g4 := only_set (World.grownBy.refl w3 (some s)) 0 v'.v
  have k4 : KeptT B w (w3.setCell ⟨s, 0, none⟩ v'.v) := k3.trans (KeptT.grown g4 (fun b e => by
    injection e with e
    subst e
    refine ⟨h.bs, fun c T z hb => ?_⟩
    left
    rw [blk3] at hb
    injection hb with hb
    injection hb with _ hb _
    exact hb.symm))
  obtain ⟨es1, cl1, hb1, hr1⟩ := hm
  have mb2 := (e12.block m (lt_of_get hb1)).trans hb1
  have hvm : v.v.ownBlock ≠ some m := fun e => by
    obtain ⟨c, z, hg⟩ := Shp.Own.typed own2 m e
    rw [mb2] at hg
    cases hg
  have mb3 := (h3.block m (lt_of_get mb2) (fun e => hvm e.symm)).trans mb2
  have mb4 := (g4.block m (lt_of_get mb3) (fun e => hsm (by injection e with e; exact e.symm))).trans mb3
  refine ⟨⟨h.bs, h.bm, ?_, ?_, ?_, by simpa using hnum, fun x hx => ?_⟩, k4⟩
  · exact heap_setCell_same w3 s 0 _ _ v'.v blk3
  · refine ho.kept g4 (fun g hv e => ?_) (fun _ _ h => h)
    injection e with e
    subst e
    obtain ⟨c, z, hg⟩ := Shp.Own.typed ho _ hv
    rw [blk3] at hg
    injection hg with hg
    injection hg with _ hg _
    exact absurd hg (by decide)
  · rw [List.length_append]
    exact ⟨es1, cl1, mb4, hr1⟩
  · rcases List.mem_append.1 hx with hx | hx
    · exact (h.ok x hx).keptT k4
    · rw [List.mem_singleton.1 hx]
      exact hn.keptT k4
theorem node_cells {w : World} {b0 : Nat} {T : TypeId} {nd : Nd} (h : w.heap[b0]? = some (.cells nd.vals T (0, 0))) : w.cell? ⟨b0, 0, none⟩ = some (.slice none 0 0) ∧ w.cell? ⟨b0, 1, none⟩ = some (.string nd.k.nm) ∧ w.cell? ⟨b0, 2, none⟩ = some (.string nd.k.sup) ∧ w.cell? ⟨b0, 3, none⟩ = some (.bool nd.k.inf) ∧ w.cell? ⟨b0, 4, none⟩ = some (.slice nd.vi.A nd.vi.n nd.vi.c) ∧ w.cell? ⟨b0, 5, none⟩ = some (.slice none 0 0) ∧ w.cell? ⟨b0, 6, none⟩ = some (.slice none 0 0) ∧ w.cell? ⟨b0, 7, none⟩ = some (.int .i64 nd.su) ∧ w.cell? ⟨b0, 8, none⟩ = some (.slice nd.vs.A nd.vs.n nd.vs.c) ∧ w.cell? ⟨b0, 9, none⟩ = some (.slice nd.va.A nd.va.n nd.va.c) ∧ w.cell? ⟨b0, 10, none⟩ = some (.int .i64 nd.ln) := by
  refine ⟨?_, ?_, ?_, ?_, ?_, ?_, ?_, ?_, ?_, ?_, ?_⟩
  all_goals
    rw [cell_of_row w b0 _ _ _ (0, 0) h]
    rfl
theorem grown_of_ext {a b : World} {row : Option Nat} (e : Ext a b) : a.grownBy b row := ⟨e.os, e.tape, e.output, e.size, fun k hk _ => e.block k hk⟩
theorem tail_facts {B s m b0 : Nat} {v : Sl} {D D' : DataW Unit} {w w3 : World} {ns : List Nd} {nd : Nd} (h : SetAt B s m v D w ns) (hn : NdOk B w nd)
    (hm : w3.ownsMap Tryd.prog 9 (plainElem Tryd.prog 3) m (ns.length + 1) D') (hnum : NumOk D' (ns.map (·.k) ++ [nd.k])) (h1 : w.grownBy w3 (some m)) (hb : w3.heap[b0]? = some (.cells nd.vals 72 (0, 0))) (hv0 : v.v.ownBlock ≠ some b0) :
    ShN.Own B w3 v.v ns ∧ (∀ {w2 : World} (w4 : World), Ext w3 w2 → w2.grownBy w4 v.v.ownBlock → w4.cell? ⟨s, 0, none⟩ = some v.v ∧ w4.frozen? ⟨s, 0, none⟩ = false ∧ w4.heap[b0]? = some (.cells nd.vals 72 (0, 0))) ∧
    (∀ (v' : Sl) (w4 w2 : World), Ext w3 w2 → ShN.Own B w4 v'.v (ns ++ [nd]) → w2.grownBy w4 v.v.ownBlock → SetAt B s m v' D' (w4.setCell ⟨s, 0, none⟩ v'.v) (ns ++ [nd]) ∧ KeptT B w (w4.setCell ⟨s, 0, none⟩ v'.v)) := by
  have hlt := h.lt
  have hsm : s ≠ m := by
    intro e
    obtain ⟨es, clock, hb, _⟩ := h.map
    have := h.blk
    rw [e, hb] at this
    cases this
  have blk1 : w3.heap[s]? = some (.cells #[v.v, .map (some m)] 69 (0, 0)) := (h1.block s hlt.1 (fun e => hsm (by injection e with e))).trans h.blk
  have own3 : ShN.Own B w3 v.v ns := by
    refine h.own.kept h1 (fun g hv e => ?_) (fun _ _ h => h)
    injection e with e
    subst e
    obtain ⟨c, z, hg⟩ := Shp.Own.typed h.own _ hv
    obtain ⟨es, clock, hb2, _⟩ := h.map
    rw [hb2] at hg
    cases hg
  have hvs : v.v.ownBlock ≠ some s := fun e => by
    obtain ⟨c, z, hg⟩ := Shp.Own.typed own3 s e
    rw [blk1] at hg
    injection hg with hg
    injection hg with _ hg _
    exact absurd hg (by decide)
  refine ⟨own3, fun {w2} w4 e12 hg => ?_, fun v' w4 w2 e12 ho hg => h.snoc hn hm hnum h1 e12 ho hg⟩
  have blk2 := (e12.block s (lt_of_get blk1)).trans blk1
  have hb2 := (e12.block b0 (lt_of_get hb)).trans hb
  have blk4 := (hg.block s (lt_of_get blk2) (fun e => hvs e.symm)).trans blk2
  have hb4 := (hg.block b0 (lt_of_get hb2) (fun e => hv0 e.symm)).trans hb2
  exact ⟨by rw [cell_of_row w4 s 0 _ _ (0, 0) blk4]; rfl, by simp [World.frozen?, blk4], hb4⟩
set_option maxRecDepth 100000 in
set_option maxHeartbeats 4000000 in
theorem add_any {B s m : Nat} {v : Sl} {D : DataW Unit} {w : World} {ns : List Nd} {nd : Nd} (h : SetAt B s m v D w ns) (hn : NdOk B w nd) (hz : nd.k.nm.size ≤ 140737488351232) (hl : ns.length ≤ 72) (hB : B ≤ w.heap.size) :
    Calls Tryd.prog 61 #[.pointer (some ⟨s, 0, none⟩), .agg nd.vals] w fun e w' => e = .returned (.tuple #[]) ∧ KeptT B w w' ∧ ∃ v' D', SetAt B s m v' D' w' (ns ++ [nd]) := by
  obtain ⟨vA, vn, vc⟩ := v
  have hvn : vn = ns.length ∧ ns.length ≤ vc := by
    obtain ⟨A', c', h1, h2, _⟩ := h.own.row.cut
    simp only [Sl.v] at h1
    injection h1 with _ e2 e3
    exact ⟨e2, by rw [e3]; exact h2⟩
  obtain ⟨W1, hW1⟩ : ∃ W1, w.alloc (.cells nd.vals 72) = W1 := ⟨_, rfl⟩
  have e1 : Ext w W1 := by rw [← hW1]; exact (Ext.refl w).alloc _
  obtain ⟨b0, hb0⟩ : ∃ b0, w.heap.size = b0 := ⟨_, rfl⟩
  have hnb : W1.heap[b0]? = some (.cells nd.vals 72 (0, 0)) := by rw [← hW1, ← hb0]; exact heap_alloc_new w _
  have HS := Lib.hid (fun W (e : Ext W1 W) => h.ext (e1.trans e))
  have hlk : ∀ n, (Instr.lookup 67 (.map (some m)) (.string nd.k.nm) true).run Tryd.prog (W1.drewN n) = .ok (.tuple #[.int .i64 (if findZ (ns.map (·.k)) nd.k.nm < 0 then 0 else findZ (ns.map (·.k)) nd.k.nm), .bool (decide (0 ≤ findZ (ns.map (·.k)) nd.k.nm))]) (W1.drewN n) := fun n => look_run (HS.out _ ((Ext.refl W1).drewN n)).map h.num hz
  have HNB : Hid (∀ W, Ext W1 W → W.heap[b0]? = some (.cells nd.vals 72 (0, 0))) := Lib.hid fun W e => (e.block b0 (lt_of_get hnb)).trans hnb
  have c0 : W1.cell? ⟨s, 0, none⟩ = some (.slice vA vn vc) := (HS.out W1 (Ext.refl W1)).c0
  have c1 := (HS.out W1 (Ext.refl W1)).c1
  have HVN := Lib.hid hvn
  have n1 : W1.cell? ⟨b0, 1, none⟩ = some (.string nd.k.nm) := by rw [cell_of_row W1 b0 1 _ _ (0, 0) hnb]; rfl
  have HH := Lib.hid h
  have HNO := Lib.hid hn
  have HE1 := Lib.hid e1
  have HB0 := Lib.hid hb0
  obtain ⟨f, hf⟩ : ∃ f, findZ (ns.map (·.k)) nd.k.nm = f := ⟨_, rfl⟩
  rw [hf] at hlk
  have HF := Lib.hid hf
  have HV0 : Hid ((⟨vA, vn, vc⟩ : Sl).v.ownBlock ≠ some b0) := Lib.hid fun e => by
    have := Shp.Own.high h.own b0 e
    omega
  clear h hn e1 hf hnb hvn
  by_cases hneg : f < 0
  · have hlk2 : ∀ n, (Instr.lookup 67 (.map (some m)) (.string nd.k.nm) true).run Tryd.prog (W1.drewN n) = .ok (.tuple #[.int .i64 0, .bool false]) (W1.drewN n) := fun n => by rw [hlk n, if_pos hneg, decide_eq_false (by omega)]
    have HNEG := Lib.hid hneg
    clear hlk hneg
    go_enter Tryd.func61, Tryd.ntmps61
    go_wp2_with fail
    try rw [hW1]
    clear hW1 hb0
    go_quiet (fail)
    obtain ⟨W2, hW2⟩ : ∃ W2, W1.drewN nq = W2 := ⟨_, rfl⟩
    have HX2 : Hid (Ext W1 W2.drew) := Lib.hid (by rw [← hW2]; exact ((Ext.refl W1).drewN nq).drew)
    rw [hW2]
    clear hW2 hlk2
    have HS2 := Lib.hid (HS.out _ HX2.out)
    have f0 : W2.drew.cell? ⟨s, 0, none⟩ = some (.slice vA vn vc) := HS2.out.c0
    have f1 : W2.drew.cell? ⟨s, 1, none⟩ = some (.map (some m)) := HS2.out.c1
    have f2 : W2.drew.cell? ⟨b0, 1, none⟩ = some (.string nd.k.nm) := (node_cells (HNB.out _ HX2.out)).2.1
    have HMM := Lib.hid HS2.out.map
    have hkey := Lib.hid (key_is hz)
    have hnm : Hid (ns.length < maxLen) := Lib.hid (by unfold maxLen; omega)
    have hval : Hid ((plainElem Tryd.prog 3 (.int .i64 vn) : Option (DataW Unit × List MemPlace)) = some (.lit (.int .i64 vn), [])) := Lib.hid (plainElem_int Tryd.underlying3 (by have := HVN.out.1; simp [Lit.wf, IntKind.min, IntKind.max, IntKind.signed, IntKind.bits]; omega))
    have HAF : Hid (∀ w3, W2.drew.grownBy w3 (some m) → w3.cell? ⟨s, 0, none⟩ = some (.slice vA vn vc) ∧ w3.cell? ⟨s, 1, none⟩ = some (.map (some m)) ∧ w3.heap[b0]? = some (.cells nd.vals 72 (0, 0))) := Lib.hid fun w3 hg => by
      have hsm : s ≠ m := by
        intro e
        obtain ⟨es, clock, hb, _⟩ := HS2.out.map
        have := HS2.out.blk
        rw [e, hb] at this
        cases this
      refine ⟨hg.cell f0 (fun e => hsm (by injection e)), hg.cell f1 (fun e => hsm (by injection e)), ?_⟩
      have h1 := HNB.out _ HX2.out
      rw [hg.block b0 (lt_of_get h1) (fun e => ?_)]
      · exact h1
      · injection e with e
        obtain ⟨es, clock, hb, _⟩ := HS2.out.map
        rw [e, hb] at h1
        cases h1
    obtain ⟨w3, hrun, o3, g3⟩ := HMM.out.store (string_keyed Tryd.underlying9) Tryd.underlying67 hnm.out hkey.out hval.out
    have G3 := Lib.hid g3.grown
    have O3 := Lib.hid o3
    obtain ⟨z0, z1, z2⟩ := HAF.out w3 G3.out
    have z3 := (node_cells z2).2.1
    have HZ2 := Lib.hid z2
    clear o3 g3 z2 HMM hnm hkey hval
    go_wp2_with fail
    go_region_held3 (fun w' => w'.cell? ⟨s, 0, none⟩ = some (.slice vA vn vc) ∧ w'.cell? ⟨s, 1, none⟩ = some (.map (some m)) ∧ w'.cell? ⟨b0, 1, none⟩ = some (.string nd.k.nm)) (first | go_keep | assumption) (fail)
    have HM1 : Hid (w3.ownsMap Tryd.prog 9 (plainElem Tryd.prog 3) m (ns.length + 1) (D.put (kL nd.k.nm) (.lit (.int .i64 vn)))) := O3
    have HNUM : Hid (NumOk (D.put (kL nd.k.nm) (.lit (.int .i64 vn))) (ns.map (·.k) ++ [nd.k])) := Lib.hid (by
      have := HH.out.num.new (x := nd.k) (by rw [HF.out]; exact HNEG.out) trivial
      rw [List.length_map] at this
      rw [HVN.out.1]
      exact this)
    have HG1 : Hid (w.grownBy w3 (some m)) := Lib.hid ((grown_of_ext (HE1.out.trans HX2.out)).trans G3.out)
    have HWB : Hid (B ≤ w3.heap.size) := Lib.hid (by have := HG1.out.size; omega)
    have HNX := Lib.hid (tail_facts (v := ⟨vA, vn, vc⟩) HH.out HNO.out HM1.out HNUM.out HG1.out (HZ2.out) HV0.out)
    have hx3 : Ext w3 (w3.alloc (.cells #[.slice none 0 0, .string nd.k.nm, .string nd.k.sup, .bool nd.k.inf, .slice nd.vi.A nd.vi.n nd.vi.c, .slice none 0 0, .slice none 0 0, .int .i64 nd.su, .slice nd.vs.A nd.vs.n nd.vs.c, .slice nd.va.A nd.va.n nd.va.c, .int .i64 nd.ln] 72)).drew := ((Ext.refl w3).alloc _).drew
    have HO3 : Hid (ShN.Own B (w3.alloc (.cells #[.slice none 0 0, .string nd.k.nm, .string nd.k.sup, .bool nd.k.inf, .slice nd.vi.A nd.vi.n nd.vi.c, .slice none 0 0, .slice none 0 0, .int .i64 nd.su, .slice nd.vs.A nd.vs.n nd.vs.c, .slice nd.va.A nd.va.n nd.va.c, .int .i64 nd.ln] 72)).drew (.slice vA vn vc) ns) := Lib.hid (HNX.out.1.ext hx3)
    have HR3 : Hid (ShN.Row (w3.alloc (.cells #[.slice none 0 0, .string nd.k.nm, .string nd.k.sup, .bool nd.k.inf, .slice nd.vi.A nd.vi.n nd.vi.c, .slice none 0 0, .slice none 0 0, .int .i64 nd.su, .slice nd.vs.A nd.vs.n nd.vs.c, .slice nd.va.A nd.va.n nd.va.c, .int .i64 nd.ln] 72)).drew (.slice (some ⟨w3.heap.size, 0, none⟩) 1 1) [nd]) := Lib.hid (Shp.Row.single (S := ShN) (T := 72) (x := nd) (heap_alloc_new w3 (.cells nd.vals 72)) trivial)
    have HX3 := Lib.hid hx3
    have hbl : (ns.length + [nd].length) * 200 ≤ 140737488355328 := by rw [List.length_singleton]; omega
    have HBL := Lib.hid hbl
    have nc := node_cells HZ2.out
    obtain ⟨k0, k1, k2, k3, k4, k5, k6, k7, k8, k9, k10⟩ := nc
    clear hx3 hbl
    have j0 : w3.drew.cell? ⟨s, 0, none⟩ = some (.slice vA vn vc) := z0
    have j1 : (w3.alloc (.cells #[.slice none 0 0, .string nd.k.nm, .string nd.k.sup, .bool nd.k.inf, .slice nd.vi.A nd.vi.n nd.vi.c, .slice none 0 0, .slice none 0 0, .int .i64 nd.su, .slice nd.vs.A nd.vs.n nd.vs.c, .slice nd.va.A nd.va.n nd.va.c, .int .i64 nd.ln] 72)).cell? ⟨s, 0, none⟩ = some (.slice vA vn vc) := (HX3.out.cell (p := ⟨s, 0, none⟩) (show s < w3.heap.size by have := HH.out.lt.1; have := HG1.out.size; omega)).trans z0
    have l0 : w3.drew.cell? ⟨b0, 0, none⟩ = _ := k0
    have l1 : w3.drew.cell? ⟨b0, 1, none⟩ = _ := k1
    have l2 : w3.drew.cell? ⟨b0, 2, none⟩ = _ := k2
    have l3 : w3.drew.cell? ⟨b0, 3, none⟩ = _ := k3
    have l4 : w3.drew.cell? ⟨b0, 4, none⟩ = _ := k4
    have l5 : w3.drew.cell? ⟨b0, 5, none⟩ = _ := k5
    have l6 : w3.drew.cell? ⟨b0, 6, none⟩ = _ := k6
    have l7 : w3.drew.cell? ⟨b0, 7, none⟩ = _ := k7
    have l8 : w3.drew.cell? ⟨b0, 8, none⟩ = _ := k8
    have l9 : w3.drew.cell? ⟨b0, 9, none⟩ = _ := k9
    have l10 : w3.drew.cell? ⟨b0, 10, none⟩ = _ := k10
    clear k0 k1 k2 k3 k4 k5 k6 k7 k8 k9 k10 z0 z3 HZ2
    go_wp2_with fail
    go_region_law (first
      | ((refine Shp.step_app ShN rfl _ _ B 66 (.agg nd0.vals) 200 rfl Tryd.underlying66 infoN sizeN (by omega) (.slice vA vn vc) ns rfl HO3.out (.slice (some ⟨w3.heap.size, 0, none⟩) 1 1) [nd] rfl HR3.out (fun _ _ => trivial) HBL.out (by exact Nat.le_trans HWB.out HX3.out.size) ?_); intro v4 w4 o4 g4 b4; obtain ⟨A4, c4, e4, hc4, hm4⟩ := o4.slice; subst e4; have O4 := Lib.hid o4; have G4 := Lib.hid g4; obtain ⟨y0', yf, yn⟩ := HNX.out.2.1 w4 HX3.out g4; have y0 : w4.cell? ⟨s, 0, none⟩ = some (.slice vA vn vc) := y0'; clear y0' o4 g4 b4 yn)
      | fail)
    all_goals
      have HFIN := Lib.hid (HNX.out.2.2 ⟨A4, (ns ++ [nd]).length, c4⟩ w4 _ HX3.out O4.out G4.out)
      unfold Sl.v at HFIN
      simp only [List.length_append, List.length_singleton] at HFIN
      clear l0 l1 l2 l3 l4 l5 l6 l7 l8 l9 l10 y0 yf z1 j0 j1
      go_wp2
      go_end0
      exact ⟨rfl, HFIN.out.2, _, _, HFIN.out.1⟩
  · have hlk2 : ∀ n, (Instr.lookup 67 (.map (some m)) (.string nd.k.nm) true).run Tryd.prog (W1.drewN n) = .ok (.tuple #[.int .i64 f, .bool true]) (W1.drewN n) := fun n => by rw [hlk n, if_neg hneg, decide_eq_true (by omega)]
    have HNEG := Lib.hid hneg
    clear hlk hneg
    go_enter Tryd.func61, Tryd.ntmps61
    go_wp2_with fail
    try rw [hW1]
    clear hW1 hb0
    go_quiet (fail)
    obtain ⟨w3, hW2⟩ : ∃ w3, W1.drewN nq = w3 := ⟨_, rfl⟩
    have HX2 : Hid (Ext W1 w3) := Lib.hid (by rw [← hW2]; exact (Ext.refl W1).drewN nq)
    rw [hW2]
    clear hW2 hlk2
    have HS2 := Lib.hid (HS.out _ HX2.out)
    have z0 : w3.cell? ⟨s, 0, none⟩ = some (.slice vA vn vc) := HS2.out.c0
    have z1 : w3.cell? ⟨s, 1, none⟩ = some (.map (some m)) := HS2.out.c1
    have HZ2 := Lib.hid (HNB.out w3 HX2.out)
    have z3 := (node_cells HZ2.out).2.1
    have HM1 : Hid (w3.ownsMap Tryd.prog 9 (plainElem Tryd.prog 3) m (ns.length + 1) D) := Lib.hid (by
      obtain ⟨es, clock, hb, F, hs, hD⟩ := HS2.out.map
      exact ⟨es, clock, hb, F, by omega, hD⟩)
    have HNUM : Hid (NumOk D (ns.map (·.k) ++ [nd.k])) := Lib.hid (HH.out.num.old (x := nd.k) (by rw [HF.out]; have := HNEG.out; omega))
    have HG1 : Hid (w.grownBy w3 (some m)) := Lib.hid (grown_of_ext (HE1.out.trans HX2.out))
    have HWB : Hid (B ≤ w3.heap.size) := Lib.hid (by have := HG1.out.size; omega)
    have HNX := Lib.hid (tail_facts (v := ⟨vA, vn, vc⟩) HH.out HNO.out HM1.out HNUM.out HG1.out (HZ2.out) HV0.out)
    have hx3 : Ext w3 (w3.alloc (.cells #[.slice none 0 0, .string nd.k.nm, .string nd.k.sup, .bool nd.k.inf, .slice nd.vi.A nd.vi.n nd.vi.c, .slice none 0 0, .slice none 0 0, .int .i64 nd.su, .slice nd.vs.A nd.vs.n nd.vs.c, .slice nd.va.A nd.va.n nd.va.c, .int .i64 nd.ln] 72)).drew := ((Ext.refl w3).alloc _).drew
    have HO3 : Hid (ShN.Own B (w3.alloc (.cells #[.slice none 0 0, .string nd.k.nm, .string nd.k.sup, .bool nd.k.inf, .slice nd.vi.A nd.vi.n nd.vi.c, .slice none 0 0, .slice none 0 0, .int .i64 nd.su, .slice nd.vs.A nd.vs.n nd.vs.c, .slice nd.va.A nd.va.n nd.va.c, .int .i64 nd.ln] 72)).drew (.slice vA vn vc) ns) := Lib.hid (HNX.out.1.ext hx3)
    have HR3 : Hid (ShN.Row (w3.alloc (.cells #[.slice none 0 0, .string nd.k.nm, .string nd.k.sup, .bool nd.k.inf, .slice nd.vi.A nd.vi.n nd.vi.c, .slice none 0 0, .slice none 0 0, .int .i64 nd.su, .slice nd.vs.A nd.vs.n nd.vs.c, .slice nd.va.A nd.va.n nd.va.c, .int .i64 nd.ln] 72)).drew (.slice (some ⟨w3.heap.size, 0, none⟩) 1 1) [nd]) := Lib.hid (Shp.Row.single (S := ShN) (T := 72) (x := nd) (heap_alloc_new w3 (.cells nd.vals 72)) trivial)
    have HX3 := Lib.hid hx3
    have hbl : (ns.length + [nd].length) * 200 ≤ 140737488355328 := by rw [List.length_singleton]; omega
    have HBL := Lib.hid hbl
    have nc := node_cells HZ2.out
    obtain ⟨k0, k1, k2, k3, k4, k5, k6, k7, k8, k9, k10⟩ := nc
    clear hx3 hbl
    have j0 : w3.drew.cell? ⟨s, 0, none⟩ = some (.slice vA vn vc) := z0
    have j1 : (w3.alloc (.cells #[.slice none 0 0, .string nd.k.nm, .string nd.k.sup, .bool nd.k.inf, .slice nd.vi.A nd.vi.n nd.vi.c, .slice none 0 0, .slice none 0 0, .int .i64 nd.su, .slice nd.vs.A nd.vs.n nd.vs.c, .slice nd.va.A nd.va.n nd.va.c, .int .i64 nd.ln] 72)).cell? ⟨s, 0, none⟩ = some (.slice vA vn vc) := (HX3.out.cell (p := ⟨s, 0, none⟩) (show s < w3.heap.size by have := HH.out.lt.1; have := HG1.out.size; omega)).trans z0
    have l0 : w3.drew.cell? ⟨b0, 0, none⟩ = _ := k0
    have l1 : w3.drew.cell? ⟨b0, 1, none⟩ = _ := k1
    have l2 : w3.drew.cell? ⟨b0, 2, none⟩ = _ := k2
    have l3 : w3.drew.cell? ⟨b0, 3, none⟩ = _ := k3
    have l4 : w3.drew.cell? ⟨b0, 4, none⟩ = _ := k4
    have l5 : w3.drew.cell? ⟨b0, 5, none⟩ = _ := k5
    have l6 : w3.drew.cell? ⟨b0, 6, none⟩ = _ := k6
    have l7 : w3.drew.cell? ⟨b0, 7, none⟩ = _ := k7
    have l8 : w3.drew.cell? ⟨b0, 8, none⟩ = _ := k8
    have l9 : w3.drew.cell? ⟨b0, 9, none⟩ = _ := k9
    have l10 : w3.drew.cell? ⟨b0, 10, none⟩ = _ := k10
    clear k0 k1 k2 k3 k4 k5 k6 k7 k8 k9 k10 z0 z3 HZ2
    go_wp2_with fail
    go_region_law (first
      | ((refine Shp.step_app ShN rfl _ _ B 66 (.agg nd0.vals) 200 rfl Tryd.underlying66 infoN sizeN (by omega) (.slice vA vn vc) ns rfl HO3.out (.slice (some ⟨w3.heap.size, 0, none⟩) 1 1) [nd] rfl HR3.out (fun _ _ => trivial) HBL.out (by exact Nat.le_trans HWB.out HX3.out.size) ?_); intro v4 w4 o4 g4 b4; obtain ⟨A4, c4, e4, hc4, hm4⟩ := o4.slice; subst e4; have O4 := Lib.hid o4; have G4 := Lib.hid g4; obtain ⟨y0', yf, yn⟩ := HNX.out.2.1 w4 HX3.out g4; have y0 : w4.cell? ⟨s, 0, none⟩ = some (.slice vA vn vc) := y0'; clear y0' o4 g4 b4 yn)
      | fail)
    all_goals
      have HFIN := Lib.hid (HNX.out.2.2 ⟨A4, (ns ++ [nd]).length, c4⟩ w4 _ HX3.out O4.out G4.out)
      unfold Sl.v at HFIN
      simp only [List.length_append, List.length_singleton] at HFIN
      clear l0 l1 l2 l3 l4 l5 l6 l7 l8 l9 l10 y0 yf z1 j0 j1
      go_wp2
      go_end0
      exact ⟨rfl, HFIN.out.2, _, _, HFIN.out.1⟩
end Go.Proofs.YtkkfkjjmmdpafaaDoor
namespace Go.Proofs.YtkkfkjjmmdpafaaDoor
open Go.RowKit
set_option linter.unusedVariables false

theorem Shp.made_zero {α : Type} (S : Shp α) (z : Value) (hz : z.cells = S.vals S.zero) (n : Nat) : (madeCells z.cells (n * S.n)).toList = (List.replicate n S.zero).flatMap fun x => (S.vals x).toList := by
  have hp := S.pos
  apply List.ext_getElem?
  intro q
  rcases Nat.lt_or_ge q (n * S.n) with h | h
  · rw [S.flat_some _ q (by rw [List.length_replicate]; exact h)]
    have e : S.el (List.replicate n S.zero) (q / S.n) = S.zero := by
      unfold Shp.el
      rw [List.getD_eq_getElem?_getD, List.getElem?_replicate]
      split <;> rfl
    rw [e, hz]
    simp [madeCells, h, S.size, Nat.mod_lt q hp]
  · rw [List.getElem?_eq_none (by simp [madeCells]; exact h), List.getElem?_eq_none (by rw [S.flat_len, List.length_replicate]; exact h)]
theorem Shp.wpList_make {α : Type} (S : Shp α) {P : Program} (w : World) {ops : Array Oper} {rest : List Oper} {o : Oper} {a : Act} {Q : Exit → Act → World → Prop} (hg : o.guard = none) (y u : Operand) (B : Nat) (t : TypeId) (z : Value) (bytes : Nat)
    (hop : o.op = Op.makeSlice t y u) (ht : P.underlying t = some (.slice S.T)) (hi : (P.info? S.T).map (fun i => (i.zero, i.size, i.bytes)) = some (some z, S.n, bytes)) (hz : z.cells = S.vals S.zero) (hno : ∀ w, S.nestO B w S.zero)
    (kl kc : IntKind) (L C : Int) (n : Nat) (hl : a.eval y = .int kl L) (hc : a.eval u = .int kc C) (hL : L = (n : Int)) (hC : C = (n : Int)) (b2 : bytes * n ≤ 281474976710656) (hb1 : 1 ≤ bytes) (b4 : B ≤ w.heap.size)
    (hK : ∀ w', S.Own B w' (.slice (some ⟨w.heap.size, 0, none⟩) n n) (List.replicate n S.zero) → w.grownBy w' none → wpList P ops Q rest (a.put o.dst (.slice (some ⟨w.heap.size, 0, none⟩) n n)) w') :
    wpList P ops Q (o :: rest) a w := by
  obtain ⟨i, hi1, hi2, hi3, hi4⟩ := info_parts hi
  have hn : n ≤ 281474976710656 := Nat.le_trans (Nat.le_mul_of_pos_left _ (by omega)) b2
  refine wpList_make_full w hg y u t hop B S.T i z S.n ht hi1 hi2 hi3 kl kc L C n hl hc hL hC (by rw [hi4]; exact b2) (by simp only [maxLen]; omega) b4 fun w' h1 h2 => hK w' ⟨?_, fun x hx => ?_⟩ h2
  · rw [S.made_zero z hz n] at h1
    rw [List.length_replicate]
    exact h1
  · rw [List.eq_of_mem_replicate hx]
    exact hno w'
end Go.Proofs.YtkkfkjjmmdpafaaDoor
namespace Go.Proofs.YtkkfkjjmmdpafaaDoor
open Go.RowKit
set_option linter.unusedVariables false

set_option maxRecDepth 100000 in
theorem sclone_any (s : ByteArray) (w : World) (hs : s.size ≤ 140737488351232) : Calls Tryd.prog 51 #[.string s] w fun e w' => e = .returned (.string s) ∧ Ext w w' := by
  go_enter Tryd.func51, Tryd.ntmps51
  go_wp2_with fail
  refine (Tryd.stringslite_Clone s _ (by omega)).mono ?_
  rintro e w1 ⟨rfl, h1⟩
  have h1 : Ext w w1 := h1
  go_wp2
  go_ret
  exact ⟨rfl, h1⟩
set_option maxRecDepth 100000 in
theorem eachC_nil (w : World) (f : Value) : Calls Tryd.prog 75 #[.slice none 0 0, f] w fun e w' => e = .returned (.slice none 0 0) ∧ w' = w := by
  have hq := Lib.run_eql_slice_nil (P := Tryd.prog) w 31 98 none 0 0 0 0 Tryd.underlying31
  go_enter Tryd.func75, Tryd.ntmps75
  go_wp2
  go_ret
  exact ⟨rfl, rfl⟩
set_option maxRecDepth 100000 in
theorem eachF_nil (w : World) (f : Value) : Calls Tryd.prog 78 #[.slice none 0 0, f] w fun e w' => e = .returned (.slice none 0 0) ∧ w' = w := by
  have hq := Lib.run_eql_slice_nil (P := Tryd.prog) w 33 103 none 0 0 0 0 Tryd.underlying33
  go_enter Tryd.func78, Tryd.ntmps78
  go_wp2
  go_ret
  exact ⟨rfl, rfl⟩
set_option maxRecDepth 100000 in
theorem eachM_nil (w : World) (f : Value) : Calls Tryd.prog 80 #[.slice none 0 0, f] w fun e w' => e = .returned (.slice none 0 0) ∧ w' = w := by
  have hq := Lib.run_eql_slice_nil (P := Tryd.prog) w 34 112 none 0 0 0 0 Tryd.underlying34
  go_enter Tryd.func80, Tryd.ntmps80
  go_wp2
  go_ret
  exact ⟨rfl, rfl⟩
theorem Shp.Own.base' {α : Type} {S : Shp α} {B B' : Nat} {w : World} {v : Value} {l : List α} (h : S.Own B w v l) (hB : B' ≤ B) (hn : ∀ x, S.nestO B w x → S.nestO B' w x := by exact fun _ h => h) : S.Own B' w v l := by
  obtain ⟨⟨h1, h2⟩, hf⟩ := h
  refine ⟨⟨h1, ?_⟩, fun x hx => hn x (hf x hx)⟩
  rcases h2 with h2 | ⟨g, cap, cur, hv, hb, hr⟩
  · exact .inl h2
  · exact .inr ⟨g, cap, cur, hv, by omega, hr⟩
theorem infoS : (Tryd.prog.info? 9).map (fun i => (i.zero, i.size, i.bytes)) = some (some (.string ⟨#[]⟩), ShS.n, 16) := by kernel_rfl
theorem rep_set {α : Type} {l : List α} {z x : α} {k n : Nat} (h : l[k]? = some x) (hn : l.length = n) : (l.take k ++ List.replicate (n - k) z).set k x = l.take (k + 1) ++ List.replicate (n - (k + 1)) z := by
  obtain ⟨hk, rfl⟩ := List.getElem?_eq_some_iff.1 h
  have hl : (l.take k).length = k := by simp; omega
  rw [List.take_succ_eq_append_getElem hk, show n - k = (n - (k + 1)) + 1 by omega, List.replicate_succ, List.set_append_right _ _ (by omega), hl, Nat.sub_self, List.set_cons_zero, List.append_assoc]
  rfl
set_option maxRecDepth 100000 in
set_option maxHeartbeats 4000000 in
theorem eachS_any {w : World} {v : Value} {l : List ByteArray} (h : ShS.Row w v l) (hz : ∀ x ∈ l, x.size ≤ 140737488351232) (hl : l.length * 16 ≤ 140737488351232) :
    Calls Tryd.prog 77 #[v, .func (.func 51) #[] #[]] w fun e w' => ∃ A' n' c', e = .returned (.slice A' n' c') ∧ ShS.Own w.heap.size w' (.slice A' n' c') l ∧ Ext w w' := by
  obtain ⟨A, c, rfl, hc, hm, hn⟩ := h.cut
  rcases A with _ | ad
  · have hc0 := hn rfl
    subst hc0
    have hl0 : l = [] := List.eq_nil_of_length_eq_zero (by omega)
    subst hl0
    clear h hz hl hc hm hn
    have hq := Lib.run_eql_slice_nil (P := Tryd.prog) w 32 9 none 0 0 0 0 Tryd.underlying32
    go_enter Tryd.func77, Tryd.ntmps77
    go_wp2
    go_ret
    exact ⟨none, 0, 0, rfl, Shp.Own.nil _ _ _, Ext.refl _⟩
  · have HR := Lib.hid h
    have HZ := Lib.hid hz
    obtain ⟨n, hnl⟩ : ∃ n, l.length = n := ⟨_, rfl⟩
    have HN := Lib.hid hnl
    rw [hnl] at hc HR hl ⊢
    unfold maxLen at hm
    clear h hz hn hnl
    have hq := Lib.run_eql_slice_nil (P := Tryd.prog) w 32 9 (some ad) n c 0 0 Tryd.underlying32
    go_enter Tryd.func77, Tryd.ntmps77
    go_wp2_with (at_make; refine ShS.wpList_make _ rfl _ _ w.heap.size 32 _ 16 rfl Tryd.underlying32 infoS rfl (fun _ => trivial) _ _ _ _ n rfl rfl rfl rfl (by omega) (by decide) (Nat.le_refl _) ?_; intro w1 ho1 hg1)
    have HO1 : Hid (ShS.Own w.heap.size w1 (.slice (some ⟨w.heap.size, 0, none⟩) n n) (l.take 0 ++ List.replicate (n - 0) ShS.zero)) := Lib.hid (by simpa using ho1)
    have HX1 := Lib.hid ((Ext.refl w).grown hg1 (fun g h => by cases h))
    clear ho1 hg1
    obtain ⟨b0, hb0⟩ : ∃ b0, w.heap.size = b0 := ⟨_, rfl⟩
    have HB0 := Lib.hid hb0
    rw [hb0] at HO1 ⊢
    clear hb0
    go_loopw [15] (fun iv wr => ∃ k : Nat, iv = .int .i64 k ∧ k ≤ n ∧ Hid (ShS.Own b0 wr (.slice (some ⟨b0, 0, none⟩) n n) (l.take k ++ List.replicate (n - k) ShS.zero)) ∧ Hid (Ext w wr)) (fun iv _ => n - (intOf iv).toNat)
    case atStart => exact ⟨0, rfl, by omega, HO1, HX1⟩
    case round =>
      obtain ⟨k, rfl, hk, HO, HX⟩ := hrel
      rename World => wr
      clear HO1 HX1
      by_cases hlt : k < n
      · have hltz : (k : Int) < (n : Int) := by omega
        have hkl : k < l.length := by have := HN.out; omega
        obtain ⟨b, o, hA, hat⟩ := rowS_at HR.out (by omega)
        injection hA with hA
        subst hA
        have y0 := hat wr HX.out k hkl
        obtain ⟨x, hx⟩ : ∃ x, l[k]? = some x := ⟨l[k], List.getElem?_eq_getElem hkl⟩
        have hgs : gs l k = x := by unfold gs; rw [ShS.el_get hkl]; exact (List.getElem?_eq_some_iff.1 hx).2
        rw [hgs] at y0
        have HC := Lib.hid (sclone_any x wr (HZ.out x (List.mem_of_getElem? hx)))
        have HSET := Lib.hid (rep_set (z := ShS.zero) hx HN.out)
        have hlen : (l.take k ++ List.replicate (n - k) ShS.zero).length = n := by have := HN.out; simp; omega
        have HLEN := Lib.hid hlen
        clear hat hkl hx hgs hlen
        go_wp2_with fail
        refine HC.out.mono ?_
        rintro e0 w5 ⟨rfl, x5⟩
        have O5 := HO.out.ext x5
        have hfr : w5.frozen? ⟨b0, k, none⟩ = false := by
          obtain ⟨c5, z5, h5⟩ := Shp.Own.typed O5 b0 rfl
          rcases O5.1.2 with ⟨e1, _⟩ | ⟨g, cap, cur, e1, _, hg, _⟩
          · cases e1
          · injection e1 with e1
            injection e1 with e1
            injection e1 with e1
            subst e1
            simp [World.frozen?, hg]
        have hce : ∃ u, w5.cell? ⟨b0, k, none⟩ = some u := by
          obtain ⟨b, o, hA, hat⟩ := rowS_at O5.row (by rw [HLEN.out]; omega)
          injection hA with hA
          injection hA with h1 h2
          subst h1 h2
          have := hat w5 (Ext.refl _) k (by rw [HLEN.out]; exact hlt)
          rw [Nat.zero_add] at this
          exact ⟨_, this⟩
        obtain ⟨uu, hce⟩ := hce
        have O6 := O5.setCell k 0 (by rw [HLEN.out]; exact hlt) (by decide) (.string x) x (by simp [ShS, flat]) trivial
        rw [HSET.out, show k * ShS.n + 0 = k by rw [show ShS.n = 1 from rfl]; omega] at O6
        have HO6 := Lib.hid O6
        have HX6 := Lib.hid ((HX.out.trans x5).set_ (p := ⟨b0, k, none⟩) (by show w.heap.size ≤ b0; rw [HB0.out]; exact Nat.le_refl _) (.string x))
        clear O5 O6 x5 HC HSET y0
        go_wp2_with fail
        go_roundw
        case rel => exact ⟨k + 1, by go_num, by omega, HO6, HX6⟩
        case measure => first | (simp [intOf]; omega) | simp [intOf]
      · have hltz : ¬ (k : Int) < (n : Int) := by omega
        go_wp2
        go_ret
        have h1 := HO.out
        have h2 := HN.out
        rw [List.take_of_length_le (by omega), show n - k = 0 by omega] at h1
        exact ⟨some ⟨b0, 0, none⟩, n, n, rfl, by rw [HB0.out]; simpa using h1, HX.out⟩
def sets7 (w : World) (b : Nat) (v0 v1 v2 v3 v4 v5 v6 : Value) : World := ((((((w.setCell ⟨b, 0, none⟩ v0).setCell ⟨b, 1, none⟩ v1).setCell ⟨b, 2, none⟩ v2).setCell ⟨b, 3, none⟩ v3).setCell ⟨b, 4, none⟩ v4).setCell ⟨b, 5, none⟩ v5).setCell ⟨b, 6, none⟩ v6
theorem sets7_heap {w : World} {b : Nat} {T : TypeId} {u0 u1 u2 u3 u4 u5 u6 : Value} (h : w.heap[b]? = some (.cells #[u0, u1, u2, u3, u4, u5, u6] T (0, 0))) (v0 v1 v2 v3 v4 v5 v6 : Value) : (sets7 w b v0 v1 v2 v3 v4 v5 v6).heap[b]? = some (.cells #[v0, v1, v2, v3, v4, v5, v6] T (0, 0)) := by
  have h0 : (w.setCell ⟨b, 0, none⟩ v0).heap[b]? = some (.cells #[v0, u1, u2, u3, u4, u5, u6] T (0, 0)) := heap_setCell_same w b 0 _ _ v0 h
  have h1 : ((w.setCell ⟨b, 0, none⟩ v0).setCell ⟨b, 1, none⟩ v1).heap[b]? = some (.cells #[v0, v1, u2, u3, u4, u5, u6] T (0, 0)) := heap_setCell_same _ b 1 _ _ v1 h0
  have h2 := heap_setCell_same _ b 2 _ _ v2 h1
  simp only [List.setIfInBounds_toArray, List.set_cons_succ, List.set_cons_zero] at h2
  have h3 := heap_setCell_same _ b 3 _ _ v3 h2
  simp only [List.setIfInBounds_toArray, List.set_cons_succ, List.set_cons_zero] at h3
  have h4 := heap_setCell_same _ b 4 _ _ v4 h3
  simp only [List.setIfInBounds_toArray, List.set_cons_succ, List.set_cons_zero] at h4
  have h5 := heap_setCell_same _ b 5 _ _ v5 h4
  simp only [List.setIfInBounds_toArray, List.set_cons_succ, List.set_cons_zero] at h5
  have h6 := heap_setCell_same _ b 6 _ _ v6 h5
  simp only [List.setIfInBounds_toArray, List.set_cons_succ, List.set_cons_zero] at h6
  exact h6
theorem sets7_grown {a w : World} {b : Nat} (h : a.grownBy w (some b)) (v0 v1 v2 v3 v4 v5 v6 : Value) : a.grownBy (sets7 w b v0 v1 v2 v3 v4 v5 v6) (some b) :=
  only_set (only_set (only_set (only_set (only_set (only_set (only_set h _ _) _ _) _ _) _ _) _ _) _ _) _ _
set_option maxRecDepth 100000 in
set_option maxHeartbeats 4000000 in
theorem own_any {w : World} (k : Kl) (A : Option Addr) (n c : Nat) (h : ShS.Row w (.slice A n c) k.ifs) (hn : k.nm.size ≤ 140737488351232) (hs : k.sup.size ≤ 140737488351232) (hz : ∀ x ∈ k.ifs, x.size ≤ 140737488351232) (hl : k.ifs.length * 16 ≤ 140737488351232) :
    Calls Tryd.prog 49 #[.agg #[.slice none 0 0, .string k.nm, .string k.sup, .bool k.inf, .slice A n c, .slice none 0 0, .slice none 0 0]] w fun e w' => ∃ A' n' c', e = .returned (.agg #[.slice none 0 0, .string k.nm, .string k.sup, .bool k.inf, .slice A' n' c', .slice none 0 0, .slice none 0 0]) ∧ ShS.Own w.heap.size w' (.slice A' n' c') k.ifs ∧ Ext w w' := by
  obtain ⟨nm, sup, inf, ifs⟩ := k
  simp only at h hn hs hz hl
  obtain ⟨b0, hb0⟩ : ∃ b0, w.heap.size = b0 := ⟨_, rfl⟩
  have HB0 := Lib.hid hb0
  have H1 := Lib.hid (fun W => sclone_any nm W hn)
  have H2 := Lib.hid (fun W => sclone_any sup W hs)
  have H3 := Lib.hid (fun W (e : Ext w W) => eachS_any (h.ext e) hz hl)
  have H4 := Lib.hid (fun W => eachC_nil W (.func (.func 76) #[] #[]))
  have H5 := Lib.hid (fun W => eachF_nil W (.func (.func 79) #[] #[]))
  have H6 := Lib.hid (fun W => eachM_nil W (.func (.func 81) #[] #[]))
  obtain ⟨W, hW⟩ : ∃ W, ((w.alloc (.cells #[.slice none 0 0, .string nm, .string sup, .bool inf, .slice A n c, .slice none 0 0, .slice none 0 0] 36)).alloc (.cells #[.slice none 0 0, .string ⟨#[]⟩, .string ⟨#[]⟩, .bool false, .slice none 0 0, .slice none 0 0, .slice none 0 0] 36)) = W := ⟨_, rfl⟩
  have hp : W.heap[b0]? = some (.cells #[.slice none 0 0, .string nm, .string sup, .bool inf, .slice A n c, .slice none 0 0, .slice none 0 0] 36 (0, 0)) := by
    rw [← hW, ← hb0, heap_alloc_old _ _ (by simp)]
    exact heap_alloc_new w _
  have hr : W.heap[b0 + 1]? = some (.cells #[.slice none 0 0, .string ⟨#[]⟩, .string ⟨#[]⟩, .bool false, .slice none 0 0, .slice none 0 0, .slice none 0 0] 36 (0, 0)) := by
    rw [← hW, ← hb0]
    have := heap_alloc_new (w.alloc (.cells #[.slice none 0 0, .string nm, .string sup, .bool inf, .slice A n c, .slice none 0 0, .slice none 0 0] 36)) (.cells #[.slice none 0 0, .string ⟨#[]⟩, .string ⟨#[]⟩, .bool false, .slice none 0 0, .slice none 0 0, .slice none 0 0] 36)
    simpa using this
  have HX : Hid (Ext w W) := Lib.hid (by rw [← hW]; exact ((Ext.refl w).alloc _).alloc _)
  have HS : Hid (∀ W', Ext W W' → (W'.cell? ⟨b0, 0, none⟩ = some (.slice none 0 0) ∧ W'.cell? ⟨b0, 1, none⟩ = some (.string nm) ∧ W'.cell? ⟨b0, 2, none⟩ = some (.string sup) ∧ W'.cell? ⟨b0, 3, none⟩ = some (.bool inf) ∧ W'.cell? ⟨b0, 4, none⟩ = some (.slice A n c) ∧ W'.cell? ⟨b0, 5, none⟩ = some (.slice none 0 0) ∧ W'.cell? ⟨b0, 6, none⟩ = some (.slice none 0 0))) := Lib.hid fun W' e => by
    have h1 := (e.block _ (lt_of_get hp)).trans hp
    refine ⟨?_, ?_, ?_, ?_, ?_, ?_, ?_⟩
    all_goals
      rw [cell_of_row W' b0 _ _ _ (0, 0) h1]
      rfl
  have HR : Hid (∀ W', Ext W W' → (W'.cell? ⟨b0 + 1, 0, none⟩ = some (.slice none 0 0) ∧ W'.cell? ⟨b0 + 1, 1, none⟩ = some (.string ⟨#[]⟩) ∧ W'.cell? ⟨b0 + 1, 2, none⟩ = some (.string ⟨#[]⟩) ∧ W'.cell? ⟨b0 + 1, 3, none⟩ = some (.bool false) ∧ W'.cell? ⟨b0 + 1, 4, none⟩ = some (.slice none 0 0) ∧ W'.cell? ⟨b0 + 1, 5, none⟩ = some (.slice none 0 0) ∧ W'.cell? ⟨b0 + 1, 6, none⟩ = some (.slice none 0 0) ∧ ∀ j, W'.frozen? ⟨b0 + 1, j, none⟩ = false)) := Lib.hid fun W' e => by
    have h1 := (e.block _ (lt_of_get hr)).trans hr
    refine ⟨?_, ?_, ?_, ?_, ?_, ?_, ?_, fun j => by simp [World.frozen?, h1]⟩
    all_goals
      rw [cell_of_row W' (b0 + 1) _ _ _ (0, 0) h1]
      rfl
  have HRB : Hid (∀ W', Ext W W' → W'.heap[b0 + 1]? = some (.cells #[.slice none 0 0, .string ⟨#[]⟩, .string ⟨#[]⟩, .bool false, .slice none 0 0, .slice none 0 0, .slice none 0 0] 36 (0, 0))) := Lib.hid fun W' e => (e.block _ (lt_of_get hr)).trans hr
  have e1 := (Ext.refl W).drew
  have f1 := HS.out _ e1
  clear h hn hs hz hl hp hr
  go_enter Tryd.func49, Tryd.ntmps49
  go_wp2_with fail
  try rw [hW]
  clear hW hb0
  go_region_held3 (fun w' => w'.cell? ⟨b0, 0, none⟩ = some (.slice none 0 0) ∧ w'.cell? ⟨b0, 1, none⟩ = some (.string nm) ∧ w'.cell? ⟨b0, 2, none⟩ = some (.string sup) ∧ w'.cell? ⟨b0, 3, none⟩ = some (.bool inf) ∧ w'.cell? ⟨b0, 4, none⟩ = some (.slice A n c) ∧ w'.cell? ⟨b0, 5, none⟩ = some (.slice none 0 0) ∧ w'.cell? ⟨b0, 6, none⟩ = some (.slice none 0 0)) (first | go_keep | with_reducible assumption | assumption) (first
    | (go_at_call 75; (with_reducible refine (H4.out _).mono ?_); rintro e2 w2 ⟨rfl, rfl⟩)
    | (go_at_call 51; (with_reducible refine (H1.out _).mono ?_); rintro e2 w2 ⟨rfl, x2⟩; have X2 := Lib.hid (e1.trans x2); have f2 := HS.out w2 X2.out)
    | (go_at_call 51; (with_reducible refine (H2.out _).mono ?_); rintro e2 w3 ⟨rfl, x3⟩; have X3 := Lib.hid (X2.out.trans x3); have f3 := HS.out w3 X3.out)
    | (go_at_call 77; (with_reducible refine (H3.out w3 (HX.out.trans X3.out)).mono ?_); rintro e2 w4 ⟨A4, n4, c4, rfl, o4, x4⟩; have X4 := Lib.hid (X3.out.trans x4); have O4 := Lib.hid o4; have f4 := HS.out w4 X4.out; have r4 := HR.out w4 X4.out)
    | (go_at_call 78; (with_reducible refine (H5.out _).mono ?_); rintro e2 w5 ⟨rfl, rfl⟩)
    | (go_at_call 80; (with_reducible refine (H6.out _).mono ?_); rintro e2 w6 ⟨rfl, rfl⟩))
  rename World => w6
  have hH := sets7_heap (HRB.out w6 X4.out) (.slice none 0 0) (.string nm) (.string sup) (.bool inf) (.slice A4 n4 c4) (.slice none 0 0) (.slice none 0 0)
  have hG := sets7_grown (World.grownBy.refl w6 (some (b0 + 1))) (.slice none 0 0) (.string nm) (.string sup) (.bool inf) (.slice A4 n4 c4) (.slice none 0 0) (.slice none 0 0)
  have hO : ShS.Own w.heap.size (sets7 w6 (b0 + 1) (.slice none 0 0) (.string nm) (.string sup) (.bool inf) (.slice A4 n4 c4) (.slice none 0 0) (.slice none 0 0)) (.slice A4 n4 c4) ifs := by
    have h1 := O4.out.base' (show w.heap.size ≤ w3.heap.size from (HX.out.trans X3.out).size)
    refine h1.kept hG (fun g hv e => ?_) (fun _ _ h => h)
    injection e with e
    subst e
    obtain ⟨c5, z5, h5⟩ := Shp.Own.typed h1 _ hv
    have h6 := HRB.out w6 X4.out
    rw [h6] at h5
    injection h5 with h5
    injection h5 with _ h5 _
    exact absurd h5 (by decide)
  have hE : Ext w (sets7 w6 (b0 + 1) (.slice none 0 0) (.string nm) (.string sup) (.bool inf) (.slice A4 n4 c4) (.slice none 0 0) (.slice none 0 0)) := (HX.out.trans X4.out).grown hG (fun g e => by injection e with e; rw [← e, HB0.out]; omega)
  obtain ⟨Wz, hWz⟩ : ∃ Wz, sets7 w6 (b0 + 1) (.slice none 0 0) (.string nm) (.string sup) (.bool inf) (.slice A4 n4 c4) (.slice none 0 0) (.slice none 0 0) = Wz := ⟨_, rfl⟩
  rw [hWz] at hH hO hE
  unfold sets7 at hWz
  rw [hWz]
  have HZ := Lib.hid (And.intro hO hE)
  have y0 : Wz.cell? ⟨b0 + 1, 0, none⟩ = some (.slice none 0 0) := by rw [cell_of_row Wz _ 0 _ _ (0, 0) hH]; rfl
  have y1 : Wz.cell? ⟨b0 + 1, 1, none⟩ = some (.string nm) := by rw [cell_of_row Wz _ 1 _ _ (0, 0) hH]; rfl
  have y2 : Wz.cell? ⟨b0 + 1, 2, none⟩ = some (.string sup) := by rw [cell_of_row Wz _ 2 _ _ (0, 0) hH]; rfl
  have y3 : Wz.cell? ⟨b0 + 1, 3, none⟩ = some (.bool inf) := by rw [cell_of_row Wz _ 3 _ _ (0, 0) hH]; rfl
  have y4 : Wz.cell? ⟨b0 + 1, 4, none⟩ = some (.slice A4 n4 c4) := by rw [cell_of_row Wz _ 4 _ _ (0, 0) hH]; rfl
  have y5 : Wz.cell? ⟨b0 + 1, 5, none⟩ = some (.slice none 0 0) := by rw [cell_of_row Wz _ 5 _ _ (0, 0) hH]; rfl
  have y6 : Wz.cell? ⟨b0 + 1, 6, none⟩ = some (.slice none 0 0) := by rw [cell_of_row Wz _ 6 _ _ (0, 0) hH]; rfl
  clear hH hG hO hE hWz f1 f2 f3 f4 r4
  go_wp2
  refine bodyPost_ret (v := .agg #[.slice none 0 0, .string nm, .string sup, .bool inf, .slice A4 n4 c4, .slice none 0 0, .slice none 0 0]) (by simp [results, Tryd.results49, go_sem, y0, y1, y2, y3, y4, y5, y6]; try rfl) rfl ?_
  exact ⟨A4, n4, c4, rfl, HZ.out.1, HZ.out.2⟩
end Go.Proofs.YtkkfkjjmmdpafaaDoor
namespace Go.Proofs.YtkkfkjjmmdpafaaDoor
open Go.RowKit
set_option linter.unusedVariables false

set_option maxRecDepth 100000 in
theorem supB_any (w : World) (i : Int) : Calls Tryd.prog 62 #[.int .i64 i] w fun e w' => e = .returned (.int .i64 (if i = 0 then -1 else if i = 1 then 0 else 1)) ∧ w' = w := by
  by_cases h0 : i = 0
  · subst h0
    go_enter Tryd.func62, Tryd.ntmps62
    go_wp2
    go_ret
    exact ⟨rfl, rfl⟩
  by_cases h1 : i = 1
  · subst h1
    go_enter Tryd.func62, Tryd.ntmps62
    go_wp2
    go_ret
    exact ⟨rfl, rfl⟩
  rw [if_neg h0, if_neg h1]
  go_enter Tryd.func62, Tryd.ntmps62
  go_wp2
  go_ret
  exact ⟨rfl, rfl⟩
theorem infoK : (Tryd.prog.info? 36).map (fun i => (i.zero, i.size, i.bytes)) = some (some (.agg klv0.vals), 7, 136) := by kernel_rfl
theorem Shp.Own.made {α : Type} (S : Shp α) (B : Nat) (w : World) (hB : B ≤ w.heap.size) : S.Own B (w.alloc (.cells #[] S.T)) (.slice (some ⟨w.heap.size, 0, none⟩) 0 0) [] := by
  exact ⟨World.ownsRow_made w #[] 0 hB (by simp [maxLen]) (by simp), fun _ h => by cases h⟩
set_option maxRecDepth 100000 in
theorem cloneK_any {w : World} {v : Value} {l : List KlV} (h : ShK.Row w v l) (hl : l.length ≤ 64) :
    Calls Tryd.prog 63 #[v] w fun e w' => ∃ A' c', e = .returned (.slice A' l.length c') ∧ (ShKW w).Own w.heap.size w' (.slice A' l.length c') l ∧ Ext w w' := by
  obtain ⟨A, c, rfl, hc, hm, hn⟩ := h.cut
  rcases A with _ | ad
  · have hc0 := hn rfl
    subst hc0
    have hl0 : l = [] := List.eq_nil_of_length_eq_zero (by omega)
    subst hl0
    clear h hl hc hm hn
    have hq := Lib.run_eql_slice_nil (P := Tryd.prog) w 22 36 none 0 0 0 0 Tryd.underlying22
    go_enter Tryd.func63, Tryd.ntmps63
    go_wp2
    go_ret
    exact ⟨none, 0, rfl, Shp.Own.nil _ _ _, Ext.refl _⟩
  · have HR := Lib.hid (rowKW h)
    obtain ⟨n, hnl⟩ : ∃ n, l.length = n := ⟨_, rfl⟩
    have HN := Lib.hid hnl
    rw [hnl] at hc HR hl ⊢
    unfold maxLen at hm
    clear h hn hnl
    have hq := Lib.run_eql_slice_nil (P := Tryd.prog) w 22 36 (some ad) n c 0 0 Tryd.underlying22
    go_enter Tryd.func63, Tryd.ntmps63
    go_wp2_with (at_builtin; go_loud (refine Shp.wpList_app (ShKW w) _ rfl _ _ w.heap.size 22 (.agg klv0.vals) 136 rfl Tryd.underlying22 infoK (by kernel_rfl) (by omega) _ [] rfl (Shp.Own.made (ShKW w) _ _ (Nat.le_refl _)) _ l rfl ?hh (fun x hx => HR.out.low x hx) (by have := HN.out; simp only [List.length_nil]; omega) (by simp) ?_))
    case hh => exact HR.out.ext ((Ext.refl _).alloc _)
    intro v' w' ho hg _
    obtain ⟨A4, c4, e4, hc4, hm4⟩ := ho.slice
    subst e4
    rw [HN.out] at ho
    have HO := Lib.hid ho
    have HG := Lib.hid (((Ext.refl w).alloc _).grown hg (fun g hg => by simp [Value.ownBlock] at hg; omega))
    clear ho hg
    rw [HN.out]
    go_wp2
    go_ret
    exact ⟨_, _, rfl, HO.out, HG.out⟩
end Go.Proofs.YtkkfkjjmmdpafaaDoor
namespace Go.Proofs.YtkkfkjjmmdpafaaDoor
open Go.RowKit Go.Maps
set_option linter.unusedVariables false

structure SzOk (ns : List Nd) : Prop where
  nm : ∀ x ∈ ns, x.k.nm.size ≤ 140737488351232
  sup : ∀ x ∈ ns, x.k.sup.size ≤ 140737488351232
  ifs : ∀ x ∈ ns, ∀ y ∈ x.k.ifs, y.size ≤ 140737488351232
abbrev kls (ns : List Nd) : List Kl := ns.map (·.k)
def Told (ns : List Nd) : Prop := ∀ (i : Nat) (x : Nd), ns[i]? = some x → x.su = supI (kls ns) i ∧ x.is = ifsI (kls ns) i
theorem gk_of {ns : List Nd} {i : Nat} {x : Nd} (h : ns[i]? = some x) : gk (kls ns) i = x.k := by
  unfold gk kls
  rw [List.getD_eq_getElem?_getD, List.getElem?_map, h]
  rfl
def fv (f : Flt) : Value := match f with
  | none => .tuple #[.string ⟨#[]⟩, .int .i64 0]
  | some (n, e) => .tuple #[.string n, .int .i64 e]
section
variable {s m g n c : Nat} {w : World} {ns : List Nd}
set_option maxRecDepth 100000 in
set_option maxHeartbeats 4000000 in
theorem twice_any (h : SetG s m g n c w ns) (hz : SzOk ns) (i : Nat) (x : Nd) (hx : ns[i]? = some x) (h72 : n ≤ 72) :
    Calls Tryd.prog 67 #[.pointer (some ⟨s, 0, none⟩), .int .i64 i] w fun e w' => e = .returned (fv (flt1 (kls ns) i)) ∧ w' = w := by
  obtain ⟨_, x1, _⟩ := h.node i x hx
  have hi : i < n := by rw [h.len]; exact (List.getElem?_eq_some_iff.1 hx).1
  have HN := Lib.hid (node_in h i hi h72)
  have HM := Lib.hid (named_any h x.k.nm (hz.nm x (List.mem_of_getElem? hx)))
  have HE : Hid (flt1 (kls ns) i = if (!decide (findZ (kls ns) x.k.nm = (i : Int))) then some (x.k.nm, 92) else none) := Lib.hid (by unfold flt1; rw [gk_of hx]; by_cases e : findZ (kls ns) x.k.nm = (i : Int) <;> simp [e])
  obtain ⟨f, hf⟩ : ∃ f, findZ (kls ns) x.k.nm = f := ⟨_, rfl⟩
  rw [hf] at HE
  rw [show findZ (ns.map (·.k)) x.k.nm = f from hf] at HM
  have HF := Lib.hid (fun bb => fails_at (w := w) (g := g) (i * 11) x.k.nm bb 92 x1)
  obtain ⟨R, hR⟩ : ∃ R, flt1 (kls ns) i = R := ⟨_, rfl⟩
  rw [hR] at HE ⊢
  obtain ⟨nm, hnm⟩ : ∃ nm, x.k.nm = nm := ⟨_, rfl⟩
  rw [hnm] at x1 HM HF HE
  clear h hx hz hf hR hnm
  by_cases e : f = (i : Int)
  · have HE2 : Hid (R = none) := Lib.hid (by rw [HE.out]; simp [e])
    subst e
    clear HE
    go_enter Tryd.func67, Tryd.ntmps67
    go_wp2_with fail
    refine HN.out.mono ?_
    rintro e0 w' ⟨rfl, rfl⟩
    go_wp2_with fail
    refine HM.out.mono ?_
    rintro e0 w' ⟨rfl, rfl⟩
    go_wp2_with fail
    refine (HF.out false).mono ?_
    rintro e0 w' ⟨rfl, rfl⟩
    go_wp2
    go_ret2
    exact ⟨by rw [HE2.out]; rfl, rfl⟩
  · have eb : (f != (i : Int)) = true := by rw [bne_iff_ne]; exact e
    have HE2 : Hid (R = some (nm, 92)) := Lib.hid (by rw [HE.out]; simp [e])
    clear HE e
    go_enter Tryd.func67, Tryd.ntmps67
    go_wp2_with fail
    refine HN.out.mono ?_
    rintro e0 w' ⟨rfl, rfl⟩
    go_wp2_with fail
    refine HM.out.mono ?_
    rintro e0 w' ⟨rfl, rfl⟩
    go_wp2_with fail
    refine (HF.out true).mono ?_
    rintro e0 w' ⟨rfl, rfl⟩
    go_wp2
    go_ret2
    exact ⟨by rw [HE2.out]; rfl, rfl⟩
structure NdR (w : World) (x : Nd) : Prop where
  vs : Row w .i64 x.vs.v x.is
  vi : ShS.Row w x.vi.v x.k.ifs
theorem idx_find (N : List Kl) : ∀ (l : List ByteArray) (k : Nat), (l.find? (fun x => decide (findZ N x < 0)) = none ∧ idxI (-1) (l.map (findZ N)) k = -1) ∨ (∃ y j, l.find? (fun x => decide (findZ N x < 0)) = some y ∧ idxI (-1) (l.map (findZ N)) k = ((k + j : Nat) : Int) ∧ l[j]? = some y)
  | [], k => .inl ⟨rfl, rfl⟩
  | y :: l, k => by
    rw [List.map_cons, idxI, List.find?_cons]
    by_cases e : findZ N y < 0
    · have e1 : findZ N y = -1 := by
        rcases findZ_cases N y with ⟨h1, _⟩ | ⟨j, _, h1, _⟩
        · exact h1
        · omega
      exact .inr ⟨y, 0, by simp [e], by rw [e1]; simp, rfl⟩
    · have e1 : ¬ (-1 : Int) = findZ N y := by omega
      rw [if_neg e1]
      rcases idx_find N l (k + 1) with ⟨h1, h2⟩ | ⟨z, j, h1, h2, h3⟩
      · exact .inl ⟨by simp [e, h1], h2⟩
      · exact .inr ⟨z, j + 1, by simp [e, h1], by rw [h2]; congr 1; omega, by simpa using h3⟩
set_option maxRecDepth 100000 in
set_option maxHeartbeats 4000000 in
theorem unknown_any (h : SetG s m g n c w ns) (ht : Told ns) (i : Nat) (h8 : 8 ≤ i) (x : Nd) (hx : ns[i]? = some x) (hr : NdR w x) (h72 : n ≤ 72) :
    Calls Tryd.prog 68 #[.pointer (some ⟨s, 0, none⟩), .int .i64 i] w fun e w' => e = .returned (fv (flt2 (kls ns) i)) ∧ w' = w := by
  obtain ⟨_, _, x2, _, x4, x7, x8, _⟩ := h.node i x hx
  have hi : i < n := by rw [h.len]; exact (List.getElem?_eq_some_iff.1 hx).1
  have HN := Lib.hid (node_in h i hi h72)
  obtain ⟨t1, t2⟩ := ht i x hx
  have hsu : x.su = findZ (kls ns) x.k.sup := by rw [t1, supI_own (by omega), gk_of hx]
  have his : x.is = x.k.ifs.map (findZ (kls ns)) := by rw [t2]; unfold ifsI; rw [gk_of hx]
  have HI := Lib.hid (index_any hr.vs (-1))
  have hfl : flt2 (kls ns) i = if x.su < 0 then some (x.k.sup, 90) else (x.k.ifs.find? (fun y => decide (findZ (kls ns) y < 0))).map (fun y => (y, 90)) := by unfold flt2; rw [gk_of hx, hsu]
  have hm1 : x.su < 0 → x.su = -1 := fun hh => by
    rcases findZ_cases (kls ns) x.k.sup with ⟨h1, _⟩ | ⟨j, _, h1, _⟩
    · rw [hsu]; exact h1
    · omega
  have hix := idx_find (kls ns) x.k.ifs 0
  rw [← his] at hix
  obtain ⟨R, hR⟩ : ∃ R, flt2 (kls ns) i = R := ⟨_, rfl⟩
  rw [hR] at hfl ⊢
  have HFL := Lib.hid hfl
  have HVI := Lib.hid hr.vi
  unfold Sl.v at HI
  clear h hx t1 t2 hsu his hfl hR hr
  by_cases e : x.su < 0
  · have e1 := hm1 e
    have HE : Hid (R = some (x.k.sup, 90)) := Lib.hid (by rw [HFL.out, if_pos e])
    rw [e1] at x7
    clear hm1 e e1 hix HFL
    go_enter Tryd.func68, Tryd.ntmps68
    go_wp2_with fail
    refine HN.out.mono ?_
    rintro e0 w' ⟨rfl, rfl⟩
    go_wp2
    go_ret2
    exact ⟨by rw [HE.out]; rfl, rfl⟩
  · have e1 : (x.su == -1) = false := by rw [beq_eq_false_iff_ne]; omega
    obtain ⟨su, hsu⟩ : ∃ su, x.su = su := ⟨_, rfl⟩
    rw [hsu] at x7 e1
    rcases hix with ⟨h1, h2⟩ | ⟨y, j, h1, h2, h3⟩
    · have HE : Hid (R = none) := Lib.hid (by rw [HFL.out, if_neg e, h1]; rfl)
      rw [h2] at HI
      clear hm1 e h1 h2 HFL hsu
      go_enter Tryd.func68, Tryd.ntmps68
      go_wp2_with fail
      refine HN.out.mono ?_
      rintro e0 w' ⟨rfl, rfl⟩
      go_wp2_with fail
      refine HI.out.mono ?_
      rintro e0 w' ⟨rfl, rfl⟩
      go_wp2
      go_ret2
      exact ⟨by rw [HE.out]; rfl, rfl⟩
    · have HE : Hid (R = some (y, 90)) := Lib.hid (by rw [HFL.out, if_neg e, h1]; rfl)
      rw [h2, Nat.zero_add] at HI
      obtain ⟨hj, hj2⟩ := List.getElem?_eq_some_iff.1 h3
      have hvi := HVI.out
      unfold Sl.v at hvi
      obtain ⟨bI, oI, hA, hat⟩ := rowS_at hvi (by omega)
      have y0 := hat w (Ext.refl w) j hj
      have ey : gs x.k.ifs j = y := by unfold gs; rw [ShS.el_get hj, hj2]
      rw [ey] at y0
      obtain ⟨A', c', e5, e6, _⟩ := hvi.cut
      injection e5 with _ e5 _
      have hjl : (j : Int) < (x.vi.n : Int) := by omega
      rw [hA] at x4
      have j0 : ¬ (j : Int) < 0 := by omega
      clear hm1 e h1 h2 HFL hsu h3 hj hj2 hvi hat ey e5 e6 hA HVI
      go_enter Tryd.func68, Tryd.ntmps68
      go_wp2_with fail
      refine HN.out.mono ?_
      rintro e0 w' ⟨rfl, rfl⟩
      go_wp2_with fail
      refine HI.out.mono ?_
      rintro e0 w' ⟨rfl, rfl⟩
      go_wp2
      go_ret2
      exact ⟨by rw [HE.out]; rfl, rfl⟩
set_option maxRecDepth 100000 in
set_option maxHeartbeats 4000000 in
theorem superUnfit_any (h : SetG s m g n c w ns) (ht : Told ns) (r : List Kl) (hb : kls ns = builtZ ++ r) (i : Nat) (h8 : 8 ≤ i) (x : Nd) (hx : ns[i]? = some x) (h2 : flt2 (kls ns) i = none) (h72 : n ≤ 72) :
    Calls Tryd.prog 69 #[.pointer (some ⟨s, 0, none⟩), .int .i64 i] w fun e w' => e = .returned (fv (flt3 (kls ns) i)) ∧ w' = w := by
  obtain ⟨_, x1, _, x3, _, x7, _, _⟩ := h.node i x hx
  have hi : i < n := by rw [h.len]; exact (List.getElem?_eq_some_iff.1 hx).1
  have HN := Lib.hid (node_in h i hi h72)
  obtain ⟨t1, -⟩ := ht i x hx
  have hsu : x.su = findZ (kls ns) x.k.sup := by rw [t1, supI_own (by omega), gk_of hx]
  have hnn : ¬ findZ (kls ns) x.k.sup < 0 := by
    unfold flt2 at h2
    rw [gk_of hx] at h2
    split at h2
    · cases h2
    · assumption
  obtain ⟨j, hj, hj2, hj3⟩ := findZ_nn hnn
  obtain ⟨z, hzj⟩ : ∃ z, ns[j]? = some z := ⟨ns[j]'(by simpa [kls] using hj), List.getElem?_eq_getElem _⟩
  have HI := Lib.hid (isIface_in h j z hzj h72)
  have hob : (x.k.sup = nObj) ↔ j = 0 := by
    constructor
    · intro e
      have := find_obj r
      rw [← hb, ← e, hj2] at this
      omega
    · intro e
      subst e
      rw [← hj3, hb]
      rfl
  have hfl : flt3 (kls ns) i = if (z.k.inf || (x.k.inf && !decide (j = 0))) then some (x.k.nm, 90) else none := by
    unfold flt3
    rw [gk_of hx, hj2, Int.toNat_natCast, gk_of hzj]
    by_cases e : j = 0
    · simp [e, hob.2 e]
    · have : ¬ x.k.sup = nObj := fun h => e (hob.1 h)
      simp [e, this]
  have HF := Lib.hid (fun bb => fails_at (w := w) (g := g) (i * 11) x.k.nm bb 90 x1)
  obtain ⟨R, hR⟩ : ∃ R, flt3 (kls ns) i = R := ⟨_, rfl⟩
  rw [hR] at hfl ⊢
  have HFL := Lib.hid hfl
  rw [hsu, hj2] at x7
  clear h hx t1 hsu hfl hR hob hj3 hj2 hj hzj hnn h2 hb
  obtain ⟨zi, hzi⟩ : ∃ zi, z.k.inf = zi := ⟨_, rfl⟩
  obtain ⟨xi, hxi⟩ : ∃ xi, x.k.inf = xi := ⟨_, rfl⟩
  obtain ⟨nm, hnm⟩ : ∃ nm, x.k.nm = nm := ⟨_, rfl⟩
  rw [hzi] at HI HFL
  rw [hxi] at x3 HFL
  rw [hnm] at x1 HF HFL
  clear hzi hxi hnm
  cases zi
  case true =>
    go_enter Tryd.func69, Tryd.ntmps69
    go_wp2_with fail
    refine HN.out.mono ?_
    rintro e0 w' ⟨rfl, rfl⟩
    go_wp2_with fail
    refine HI.out.mono ?_
    rintro e0 w' ⟨rfl, rfl⟩
    go_wp2_with fail
    refine (HF.out true).mono ?_
    rintro e0 w' ⟨rfl, rfl⟩
    go_wp2
    go_ret2
    exact ⟨by rw [HFL.out]; rfl, rfl⟩
  case false =>
    cases xi
    case false =>
      go_enter Tryd.func69, Tryd.ntmps69
      go_wp2_with fail
      refine HN.out.mono ?_
      rintro e0 w' ⟨rfl, rfl⟩
      go_wp2_with fail
      refine HI.out.mono ?_
      rintro e0 w' ⟨rfl, rfl⟩
      go_wp2_with fail
      refine (HF.out false).mono ?_
      rintro e0 w' ⟨rfl, rfl⟩
      go_wp2
      go_ret2
      exact ⟨by rw [HFL.out]; rfl, rfl⟩
    case true =>
      by_cases ej : j = 0
      · subst ej
        go_enter Tryd.func69, Tryd.ntmps69
        go_wp2_with fail
        refine HN.out.mono ?_
        rintro e0 w' ⟨rfl, rfl⟩
        go_wp2_with fail
        refine HI.out.mono ?_
        rintro e0 w' ⟨rfl, rfl⟩
        go_wp2_with fail
        refine (HF.out false).mono ?_
        rintro e0 w' ⟨rfl, rfl⟩
        go_wp2
        go_ret2
        exact ⟨by rw [HFL.out]; rfl, rfl⟩
      · have ejb : ((j : Int) != 0) = true := by rw [bne_iff_ne]; omega
        have HFL2 : Hid (R = some (nm, 90)) := Lib.hid (by rw [HFL.out]; simp [ej])
        clear HFL ej
        go_enter Tryd.func69, Tryd.ntmps69
        go_wp2_with fail
        refine HN.out.mono ?_
        rintro e0 w' ⟨rfl, rfl⟩
        go_wp2_with fail
        refine HI.out.mono ?_
        rintro e0 w' ⟨rfl, rfl⟩
        go_wp2_with fail
        refine (HF.out true).mono ?_
        rintro e0 w' ⟨rfl, rfl⟩
        go_wp2
        go_ret2
        exact ⟨by rw [HFL2.out]; rfl, rfl⟩
end
end Go.Proofs.YtkkfkjjmmdpafaaDoor
