/- Several texts of this proof, one behind the other. -/
import Derived.Test.YtladeaofhdaloaaDoorYaD
import Derived.Test.YtladeaofhdaloaaDoorYaE
import Derived.Deep.QuietTactic
import Derived.Deep.RegionHeld3
import Derived.BigQuiet
import Derived.Deep.RegionLaw
namespace Go.Proofs.YtladeaofhdaloaaDoor
open Go.RowKit Go.Maps Go.WideMaps
set_option linter.unusedVariables false

structure KeptT (B : Nat) (w w' : World) : Prop where
  size : w.heap.size ≤ w'.heap.size
  os : w'.os = w.os
  tape : w'.tape = w.tape
  output : w'.output = w.output
  low : ∀ b, b < B → b < w.heap.size → w'.heap[b]? = w.heap[b]?
  same : ∀ (b : Nat) (c : Array Value) (T : TypeId) (z : Nat × Nat), w.heap[b]? = some (.cells c T z) → T ≠ 69 → T ≠ 72 → w'.heap[b]? = some (.cells c T z)
theorem KeptT.refl (B : Nat) (w : World) : KeptT B w w := ⟨Nat.le_refl _, rfl, rfl, rfl, fun _ _ _ => rfl, fun _ _ _ _ h _ _ => h⟩
theorem KeptT.trans {B : Nat} {a b c : World} (h : KeptT B a b) (k : KeptT B b c) : KeptT B a c := ⟨Nat.le_trans h.size k.size, k.os.trans h.os, k.tape.trans h.tape, k.output.trans h.output, fun q h1 h2 => (k.low q h1 (Nat.lt_of_lt_of_le h2 h.size)).trans (h.low q h1 h2), fun q c T z h1 h2 h3 => k.same q c T z (h.same q c T z h1 h2 h3) h2 h3⟩
theorem KeptT.ext {B : Nat} {w w' : World} (e : Ext w w') : KeptT B w w' := ⟨e.size, e.os, e.tape, e.output, fun b _ h => e.block b h, fun b c T z h _ _ => (e.block b (lt_of_get h)).trans h⟩
theorem KeptT.grown {B : Nat} {w w' : World} {row : Option Nat} (h : w.grownBy w' row) (hr : ∀ b, row = some b → B ≤ b ∧ ∀ (c : Array Value) (T : TypeId) (z : Nat × Nat), w.heap[b]? = some (.cells c T z) → T = 69 ∨ T = 72) : KeptT B w w' :=
  ⟨h.size, h.os, h.tape, h.output, fun b h1 h2 => h.block b h2 (fun e => by have := (hr b e.symm).1; omega), fun b c T z hb h2 h3 => (h.block b (lt_of_get hb) (fun e => by
    rcases (hr b e.symm).2 c T z hb with h | h
    · exact h2 h
    · exact h3 h)).trans hb⟩
theorem KeptT.toExt {B : Nat} {w w' : World} (h : KeptT B w w') (hB : w.heap.size ≤ B) : Ext w w' := ⟨h.os, h.tape, h.output, h.size, fun b hb => h.low b (Nat.lt_of_lt_of_le hb hB) hb⟩
theorem Shp.Own.keptT {α : Type} {S : Shp α} {B : Nat} {w w' : World} {v : Value} {l : List α} (h : S.Own B w v l) {Bk : Nat} (k : KeptT Bk w w') (h1 : S.T ≠ 69) (h2 : S.T ≠ 72) (hn : ∀ x, S.nestO B w x → S.nestO B w' x) : S.Own B w' v l := by
  obtain ⟨⟨h3, h4⟩, hf⟩ := h
  refine ⟨⟨h3, ?_⟩, fun x hx => hn x (hf x hx)⟩
  rcases h4 with h4 | ⟨g, cap, cur, hv, hb, hg, hr⟩
  · exact .inl h4
  · exact .inr ⟨g, cap, cur, hv, hb, k.same g _ _ _ hg h1 h2, hr⟩
theorem Own.keptT {B : Nat} {w w' : World} {e : TypeId} {k : IntKind} {v : Value} {l : List Int} (h : Own B w e k v l) {Bk : Nat} (kt : KeptT Bk w w') (h1 : e ≠ 69) (h2 : e ≠ 72) : Own B w' e k v l := by
  obtain ⟨⟨h3, h4⟩, hf⟩ := h
  refine ⟨⟨h3, ?_⟩, hf⟩
  rcases h4 with h4 | ⟨g, cap, cur, hv, hb, hg, hr⟩
  · exact .inl h4
  · exact .inr ⟨g, cap, cur, hv, hb, kt.same g _ _ _ hg h1 h2, hr⟩
theorem NdOk.keptT {B : Nat} {w w' : World} {x : Nd} (h : NdOk B w x) {Bk : Nat} (k : KeptT Bk w w') : NdOk B w' x :=
  ⟨h.vi.keptT k (by decide) (by decide) (fun _ h => h), h.vs.keptT k (by decide) (by decide), h.va.keptT k (by decide) (by decide)⟩
theorem infoN : (Tryd.prog.info? 72).map (fun i => (i.zero, i.size, i.bytes)) = some (some (.agg nd0.vals), ShN.n, 200) := by kernel_rfl
theorem sizeN : (Value.agg nd0.vals).cells.size = ShN.n := by kernel_rfl
theorem SetAt.lt {B s m : Nat} {v : Sl} {D : DataW Unit} {w : World} {ns : List Nd} (h : SetAt B s m v D w ns) : s < w.heap.size ∧ m < w.heap.size := by
  refine ⟨lt_of_get h.blk, ?_⟩
  obtain ⟨es, clock, hb, hr⟩ := h.map
  exact lt_of_get hb
theorem SetAt.snoc {B s m : Nat} {v v' : Sl} {D D' : DataW Unit} {w w1 w2 w3 : World} {ns : List Nd} {nd : Nd} (h : SetAt B s m v D w ns) (hn : NdOk B w nd)
    (hm : w1.ownsMap Tryd.prog 9 (plainElem Tryd.prog 3) m (ns.length + 1) D') (hnum : NumOk D' (ns.map (·.k) ++ [nd.k])) (h1 : w.grownBy w1 (some m))
    (e12 : Ext w1 w2) (ho : ShN.Own B w3 v'.v (ns ++ [nd])) (h3 : w2.grownBy w3 v.v.ownBlock) :
    SetAt B s m v' D' (w3.setCell ⟨s, 0, none⟩ v'.v) (ns ++ [nd]) ∧ KeptT B w (w3.setCell ⟨s, 0, none⟩ v'.v) := by
  have hlt := h.lt
  have hsm : s ≠ m := by
    intro e
    obtain ⟨es, clock, hb, _⟩ := h.map
    have := h.blk
    rw [e, hb] at this
    cases this
  -- the map's block
  have k1 : KeptT B w w1 := KeptT.grown h1 (fun b e => by
    injection e with e
    subst e
    refine ⟨h.bm, fun c T z hb => ?_⟩
    obtain ⟨es, clock, hb2, _⟩ := h.map
    rw [hb2] at hb
    cases hb)
  have k2 : KeptT B w w2 := k1.trans (KeptT.ext e12)
  have blk1 : w1.heap[s]? = some (.cells #[v.v, .map (some m)] 69 (0, 0)) := (h1.block s hlt.1 (fun e => hsm (by injection e with e))).trans h.blk
  have blk2 := (e12.block s (lt_of_get blk1)).trans blk1
  have own2 : ShN.Own B w2 v.v ns := by
    refine (h.own.kept h1 (fun g hv e => ?_) (fun _ _ h => h)).ext e12
    injection e with e
    subst e
    obtain ⟨c, z, hg⟩ := Shp.Own.typed h.own _ hv
    obtain ⟨es, clock, hb2, _⟩ := h.map
    rw [hb2] at hg
    cases hg
  have hvs : v.v.ownBlock ≠ some s := fun e => by
    obtain ⟨c, z, hg⟩ := Shp.Own.typed own2 s e
    rw [blk2] at hg
    injection hg with hg
    injection hg with _ hg _
    exact absurd hg (by decide)
  have blk3 : w3.heap[s]? = some (.cells #[v.v, .map (some m)] 69 (0, 0)) := (h3.block s (lt_of_get blk2) (fun e => hvs e.symm)).trans blk2
  have k3 : KeptT B w w3 := k2.trans (KeptT.grown h3 (fun b e => by
    refine ⟨Shp.Own.low own2 b e, fun c T z hb => ?_⟩
    right
    obtain ⟨c2, z2, hg⟩ := Shp.Own.typed own2 b e
    rw [hb] at hg
    injection hg with hg
    injection hg))
  have g4 := only_set (World.grownBy.refl w3 (some s)) 0 v'.v
  have k4 : KeptT B w (w3.setCell ⟨s, 0, none⟩ v'.v) := k3.trans (KeptT.grown g4 (fun b e => by
    injection e with e
    subst e
    refine ⟨h.bs, fun c T z hb => ?_⟩
    left
    rw [blk3] at hb
    injection hb with hb
    injection hb with _ hb _
    exact hb.symm))
  obtain ⟨es1, cl1, hb1, hr1⟩ := hm
  have mb2 := (e12.block m (lt_of_get hb1)).trans hb1
  have hvm : v.v.ownBlock ≠ some m := fun e => by
    obtain ⟨c, z, hg⟩ := Shp.Own.typed own2 m e
    rw [mb2] at hg
    cases hg
  have mb3 := (h3.block m (lt_of_get mb2) (fun e => hvm e.symm)).trans mb2
  have mb4 := (g4.block m (lt_of_get mb3) (fun e => hsm (by injection e with e; exact e.symm))).trans mb3
  refine ⟨⟨h.bs, h.bm, ?_, ?_, ?_, by simpa using hnum, fun x hx => ?_⟩, k4⟩
  · exact heap_setCell_same w3 s 0 _ _ v'.v blk3
  · refine ho.kept g4 (fun g hv e => ?_) (fun _ _ h => h)
    injection e with e
    subst e
    obtain ⟨c, z, hg⟩ := Shp.Own.typed ho _ hv
    rw [blk3] at hg
    injection hg with hg
    injection hg with _ hg _
    exact absurd hg (by decide)
  · rw [List.length_append]
    exact ⟨es1, cl1, mb4, hr1⟩
  · rcases List.mem_append.1 hx with hx | hx
    · exact (h.ok x hx).keptT k4
    · rw [List.mem_singleton.1 hx]
      exact hn.keptT k4
theorem node_cells {w : World} {b0 : Nat} {T : TypeId} {nd : Nd} (h : w.heap[b0]? = some (.cells nd.vals T (0, 0))) : w.cell? ⟨b0, 0, none⟩ = some (.slice none 0 0) ∧ w.cell? ⟨b0, 1, none⟩ = some (.string nd.k.nm) ∧ w.cell? ⟨b0, 2, none⟩ = some (.string nd.k.sup) ∧ w.cell? ⟨b0, 3, none⟩ = some (.bool nd.k.inf) ∧ w.cell? ⟨b0, 4, none⟩ = some (.slice nd.vi.A nd.vi.n nd.vi.c) ∧ w.cell? ⟨b0, 5, none⟩ = some (.slice none 0 0) ∧ w.cell? ⟨b0, 6, none⟩ = some (.slice none 0 0) ∧ w.cell? ⟨b0, 7, none⟩ = some (.int .i64 nd.su) ∧ w.cell? ⟨b0, 8, none⟩ = some (.slice nd.vs.A nd.vs.n nd.vs.c) ∧ w.cell? ⟨b0, 9, none⟩ = some (.slice nd.va.A nd.va.n nd.va.c) ∧ w.cell? ⟨b0, 10, none⟩ = some (.int .i64 nd.ln) := by
  refine ⟨?_, ?_, ?_, ?_, ?_, ?_, ?_, ?_, ?_, ?_, ?_⟩
  all_goals
    rw [cell_of_row w b0 _ _ _ (0, 0) h]
    rfl
theorem grown_of_ext {a b : World} {row : Option Nat} (e : Ext a b) : a.grownBy b row := ⟨e.os, e.tape, e.output, e.size, fun k hk _ => e.block k hk⟩
theorem tail_facts {B s m b0 : Nat} {v : Sl} {D D' : DataW Unit} {w w3 : World} {ns : List Nd} {nd : Nd} (h : SetAt B s m v D w ns) (hn : NdOk B w nd)
    (hm : w3.ownsMap Tryd.prog 9 (plainElem Tryd.prog 3) m (ns.length + 1) D') (hnum : NumOk D' (ns.map (·.k) ++ [nd.k])) (h1 : w.grownBy w3 (some m)) (hb : w3.heap[b0]? = some (.cells nd.vals 72 (0, 0))) (hv0 : v.v.ownBlock ≠ some b0) :
    ShN.Own B w3 v.v ns ∧ (∀ {w2 : World} (w4 : World), Ext w3 w2 → w2.grownBy w4 v.v.ownBlock → w4.cell? ⟨s, 0, none⟩ = some v.v ∧ w4.frozen? ⟨s, 0, none⟩ = false ∧ w4.heap[b0]? = some (.cells nd.vals 72 (0, 0))) ∧
    (∀ (v' : Sl) (w4 w2 : World), Ext w3 w2 → ShN.Own B w4 v'.v (ns ++ [nd]) → w2.grownBy w4 v.v.ownBlock → SetAt B s m v' D' (w4.setCell ⟨s, 0, none⟩ v'.v) (ns ++ [nd]) ∧ KeptT B w (w4.setCell ⟨s, 0, none⟩ v'.v)) := by
  have hlt := h.lt
  have hsm : s ≠ m := by
    intro e
    obtain ⟨es, clock, hb, _⟩ := h.map
    have := h.blk
    rw [e, hb] at this
    cases this
  have blk1 : w3.heap[s]? = some (.cells #[v.v, .map (some m)] 69 (0, 0)) := (h1.block s hlt.1 (fun e => hsm (by injection e with e))).trans h.blk
  have own3 : ShN.Own B w3 v.v ns := by
    refine h.own.kept h1 (fun g hv e => ?_) (fun _ _ h => h)
    injection e with e
    subst e
    obtain ⟨c, z, hg⟩ := Shp.Own.typed h.own _ hv
    obtain ⟨es, clock, hb2, _⟩ := h.map
    rw [hb2] at hg
    cases hg
  have hvs : v.v.ownBlock ≠ some s := fun e => by
    obtain ⟨c, z, hg⟩ := Shp.Own.typed own3 s e
    rw [blk1] at hg
    injection hg with hg
    injection hg with _ hg _
    exact absurd hg (by decide)
  refine ⟨own3, fun {w2} w4 e12 hg => ?_, fun v' w4 w2 e12 ho hg => h.snoc hn hm hnum h1 e12 ho hg⟩
  have blk2 := (e12.block s (lt_of_get blk1)).trans blk1
  have hb2 := (e12.block b0 (lt_of_get hb)).trans hb
  have blk4 := (hg.block s (lt_of_get blk2) (fun e => hvs e.symm)).trans blk2
  have hb4 := (hg.block b0 (lt_of_get hb2) (fun e => hv0 e.symm)).trans hb2
  exact ⟨by rw [cell_of_row w4 s 0 _ _ (0, 0) blk4]; rfl, by simp [World.frozen?, blk4], hb4⟩
set_option maxRecDepth 100000 in
set_option maxHeartbeats 4000000 in
theorem add_any {B s m : Nat} {v : Sl} {D : DataW Unit} {w : World} {ns : List Nd} {nd : Nd} (h : SetAt B s m v D w ns) (hn : NdOk B w nd) (hz : nd.k.nm.size ≤ 140737488351232) (hl : ns.length ≤ 72) (hB : B ≤ w.heap.size) :
    Calls Tryd.prog 61 #[.pointer (some ⟨s, 0, none⟩), .agg nd.vals] w fun e w' => e = .returned (.tuple #[]) ∧ KeptT B w w' ∧ ∃ v' D', SetAt B s m v' D' w' (ns ++ [nd]) := by
  obtain ⟨vA, vn, vc⟩ := v
  have hvn : vn = ns.length ∧ ns.length ≤ vc := by
    obtain ⟨A', c', h1, h2, _⟩ := h.own.row.cut
    simp only [Sl.v] at h1
    injection h1 with _ e2 e3
    exact ⟨e2, by rw [e3]; exact h2⟩
  obtain ⟨W1, hW1⟩ : ∃ W1, w.alloc (.cells nd.vals 72) = W1 := ⟨_, rfl⟩
  have e1 : Ext w W1 := by rw [← hW1]; exact (Ext.refl w).alloc _
  obtain ⟨b0, hb0⟩ : ∃ b0, w.heap.size = b0 := ⟨_, rfl⟩
  have hnb : W1.heap[b0]? = some (.cells nd.vals 72 (0, 0)) := by rw [← hW1, ← hb0]; exact heap_alloc_new w _
  have HS := Lib.hid (fun W (e : Ext W1 W) => h.ext (e1.trans e))
  have hlk : ∀ n, (Instr.lookup 67 (.map (some m)) (.string nd.k.nm) true).run Tryd.prog (W1.drewN n) = .ok (.tuple #[.int .i64 (if findZ (ns.map (·.k)) nd.k.nm < 0 then 0 else findZ (ns.map (·.k)) nd.k.nm), .bool (decide (0 ≤ findZ (ns.map (·.k)) nd.k.nm))]) (W1.drewN n) := fun n => look_run (HS.out _ ((Ext.refl W1).drewN n)).map h.num hz
  have HNB : Hid (∀ W, Ext W1 W → W.heap[b0]? = some (.cells nd.vals 72 (0, 0))) := Lib.hid fun W e => (e.block b0 (lt_of_get hnb)).trans hnb
  have c0 : W1.cell? ⟨s, 0, none⟩ = some (.slice vA vn vc) := (HS.out W1 (Ext.refl W1)).c0
  have c1 := (HS.out W1 (Ext.refl W1)).c1
  have HVN := Lib.hid hvn
  have n1 : W1.cell? ⟨b0, 1, none⟩ = some (.string nd.k.nm) := by rw [cell_of_row W1 b0 1 _ _ (0, 0) hnb]; rfl
  have HH := Lib.hid h
  have HNO := Lib.hid hn
  have HE1 := Lib.hid e1
  have HB0 := Lib.hid hb0
  obtain ⟨f, hf⟩ : ∃ f, findZ (ns.map (·.k)) nd.k.nm = f := ⟨_, rfl⟩
  rw [hf] at hlk
  have HF := Lib.hid hf
  have HV0 : Hid ((⟨vA, vn, vc⟩ : Sl).v.ownBlock ≠ some b0) := Lib.hid fun e => by
    have := Shp.Own.high h.own b0 e
    omega
  clear h hn e1 hf hnb hvn
  by_cases hneg : f < 0
  · have hlk2 : ∀ n, (Instr.lookup 67 (.map (some m)) (.string nd.k.nm) true).run Tryd.prog (W1.drewN n) = .ok (.tuple #[.int .i64 0, .bool false]) (W1.drewN n) := fun n => by rw [hlk n, if_pos hneg, decide_eq_false (by omega)]
    have HNEG := Lib.hid hneg
    clear hlk hneg
    go_enter Tryd.func61, Tryd.ntmps61
    go_wp2_with fail
    try rw [hW1]
    clear hW1 hb0
    go_quiet (fail)
    obtain ⟨W2, hW2⟩ : ∃ W2, W1.drewN nq = W2 := ⟨_, rfl⟩
    have HX2 : Hid (Ext W1 W2.drew) := Lib.hid (by rw [← hW2]; exact ((Ext.refl W1).drewN nq).drew)
    rw [hW2]
    clear hW2 hlk2
    have HS2 := Lib.hid (HS.out _ HX2.out)
    have f0 : W2.drew.cell? ⟨s, 0, none⟩ = some (.slice vA vn vc) := HS2.out.c0
    have f1 : W2.drew.cell? ⟨s, 1, none⟩ = some (.map (some m)) := HS2.out.c1
    have f2 : W2.drew.cell? ⟨b0, 1, none⟩ = some (.string nd.k.nm) := (node_cells (HNB.out _ HX2.out)).2.1
    have HMM := Lib.hid HS2.out.map
    have hkey := Lib.hid (key_is hz)
    have hnm : Hid (ns.length < maxLen) := Lib.hid (by unfold maxLen; omega)
    have hval : Hid ((plainElem Tryd.prog 3 (.int .i64 vn) : Option (DataW Unit × List MemPlace)) = some (.lit (.int .i64 vn), [])) := Lib.hid (plainElem_int Tryd.underlying3 (by have := HVN.out.1; simp [Lit.wf, IntKind.min, IntKind.max, IntKind.signed, IntKind.bits]; omega))
    have HAF : Hid (∀ w3, W2.drew.grownBy w3 (some m) → w3.cell? ⟨s, 0, none⟩ = some (.slice vA vn vc) ∧ w3.cell? ⟨s, 1, none⟩ = some (.map (some m)) ∧ w3.heap[b0]? = some (.cells nd.vals 72 (0, 0))) := Lib.hid fun w3 hg => by
      have hsm : s ≠ m := by
        intro e
        obtain ⟨es, clock, hb, _⟩ := HS2.out.map
        have := HS2.out.blk
        rw [e, hb] at this
        cases this
      refine ⟨hg.cell f0 (fun e => hsm (by injection e)), hg.cell f1 (fun e => hsm (by injection e)), ?_⟩
      have h1 := HNB.out _ HX2.out
      rw [hg.block b0 (lt_of_get h1) (fun e => ?_)]
      · exact h1
      · injection e with e
        obtain ⟨es, clock, hb, _⟩ := HS2.out.map
        rw [e, hb] at h1
        cases h1
    obtain ⟨w3, hrun, o3, g3⟩ := HMM.out.store (string_keyed Tryd.underlying9) Tryd.underlying67 hnm.out hkey.out hval.out
    have G3 := Lib.hid g3.grown
    have O3 := Lib.hid o3
    obtain ⟨z0, z1, z2⟩ := HAF.out w3 G3.out
    have z3 := (node_cells z2).2.1
    have HZ2 := Lib.hid z2
    clear o3 g3 z2 HMM hnm hkey hval
    go_wp2_with fail
    go_region_held3 (fun w' => w'.cell? ⟨s, 0, none⟩ = some (.slice vA vn vc) ∧ w'.cell? ⟨s, 1, none⟩ = some (.map (some m)) ∧ w'.cell? ⟨b0, 1, none⟩ = some (.string nd.k.nm)) (first | go_keep | assumption) (fail)
    have HM1 : Hid (w3.ownsMap Tryd.prog 9 (plainElem Tryd.prog 3) m (ns.length + 1) (D.put (kL nd.k.nm) (.lit (.int .i64 vn)))) := O3
    have HNUM : Hid (NumOk (D.put (kL nd.k.nm) (.lit (.int .i64 vn))) (ns.map (·.k) ++ [nd.k])) := Lib.hid (by
      have := HH.out.num.new (x := nd.k) (by rw [HF.out]; exact HNEG.out) trivial
      rw [List.length_map] at this
      rw [HVN.out.1]
      exact this)
    have HG1 : Hid (w.grownBy w3 (some m)) := Lib.hid ((grown_of_ext (HE1.out.trans HX2.out)).trans G3.out)
    have HWB : Hid (B ≤ w3.heap.size) := Lib.hid (by have := HG1.out.size; omega)
    have HNX := Lib.hid (tail_facts (v := ⟨vA, vn, vc⟩) HH.out HNO.out HM1.out HNUM.out HG1.out (HZ2.out) HV0.out)
    have hx3 : Ext w3 (w3.alloc (.cells #[.slice none 0 0, .string nd.k.nm, .string nd.k.sup, .bool nd.k.inf, .slice nd.vi.A nd.vi.n nd.vi.c, .slice none 0 0, .slice none 0 0, .int .i64 nd.su, .slice nd.vs.A nd.vs.n nd.vs.c, .slice nd.va.A nd.va.n nd.va.c, .int .i64 nd.ln] 72)).drew := ((Ext.refl w3).alloc _).drew
    have HO3 : Hid (ShN.Own B (w3.alloc (.cells #[.slice none 0 0, .string nd.k.nm, .string nd.k.sup, .bool nd.k.inf, .slice nd.vi.A nd.vi.n nd.vi.c, .slice none 0 0, .slice none 0 0, .int .i64 nd.su, .slice nd.vs.A nd.vs.n nd.vs.c, .slice nd.va.A nd.va.n nd.va.c, .int .i64 nd.ln] 72)).drew (.slice vA vn vc) ns) := Lib.hid (HNX.out.1.ext hx3)
    have HR3 : Hid (ShN.Row (w3.alloc (.cells #[.slice none 0 0, .string nd.k.nm, .string nd.k.sup, .bool nd.k.inf, .slice nd.vi.A nd.vi.n nd.vi.c, .slice none 0 0, .slice none 0 0, .int .i64 nd.su, .slice nd.vs.A nd.vs.n nd.vs.c, .slice nd.va.A nd.va.n nd.va.c, .int .i64 nd.ln] 72)).drew (.slice (some ⟨w3.heap.size, 0, none⟩) 1 1) [nd]) := Lib.hid (Shp.Row.single (S := ShN) (T := 72) (x := nd) (heap_alloc_new w3 (.cells nd.vals 72)) trivial)
    have HX3 := Lib.hid hx3
    have hbl : (ns.length + [nd].length) * 200 ≤ 140737488355328 := by rw [List.length_singleton]; omega
    have HBL := Lib.hid hbl
    have nc := node_cells HZ2.out
    obtain ⟨k0, k1, k2, k3, k4, k5, k6, k7, k8, k9, k10⟩ := nc
    clear hx3 hbl
    have j0 : w3.drew.cell? ⟨s, 0, none⟩ = some (.slice vA vn vc) := z0
    have j1 : (w3.alloc (.cells #[.slice none 0 0, .string nd.k.nm, .string nd.k.sup, .bool nd.k.inf, .slice nd.vi.A nd.vi.n nd.vi.c, .slice none 0 0, .slice none 0 0, .int .i64 nd.su, .slice nd.vs.A nd.vs.n nd.vs.c, .slice nd.va.A nd.va.n nd.va.c, .int .i64 nd.ln] 72)).cell? ⟨s, 0, none⟩ = some (.slice vA vn vc) := (HX3.out.cell (p := ⟨s, 0, none⟩) (show s < w3.heap.size by have := HH.out.lt.1; have := HG1.out.size; omega)).trans z0
    have l0 : w3.drew.cell? ⟨b0, 0, none⟩ = _ := k0
    have l1 : w3.drew.cell? ⟨b0, 1, none⟩ = _ := k1
    have l2 : w3.drew.cell? ⟨b0, 2, none⟩ = _ := k2
    have l3 : w3.drew.cell? ⟨b0, 3, none⟩ = _ := k3
    have l4 : w3.drew.cell? ⟨b0, 4, none⟩ = _ := k4
    have l5 : w3.drew.cell? ⟨b0, 5, none⟩ = _ := k5
    have l6 : w3.drew.cell? ⟨b0, 6, none⟩ = _ := k6
    have l7 : w3.drew.cell? ⟨b0, 7, none⟩ = _ := k7
    have l8 : w3.drew.cell? ⟨b0, 8, none⟩ = _ := k8
    have l9 : w3.drew.cell? ⟨b0, 9, none⟩ = _ := k9
    have l10 : w3.drew.cell? ⟨b0, 10, none⟩ = _ := k10
    clear k0 k1 k2 k3 k4 k5 k6 k7 k8 k9 k10 z0 z3 HZ2
    go_wp2_with fail
    go_region_law (first
      | ((refine Shp.step_app ShN rfl _ _ B 66 (.agg nd0.vals) 200 rfl Tryd.underlying66 infoN sizeN (by omega) (.slice vA vn vc) ns rfl HO3.out (.slice (some ⟨w3.heap.size, 0, none⟩) 1 1) [nd] rfl HR3.out (fun _ _ => trivial) HBL.out (by exact Nat.le_trans HWB.out HX3.out.size) ?_); intro v4 w4 o4 g4 b4; obtain ⟨A4, c4, e4, hc4, hm4⟩ := o4.slice; subst e4; have O4 := Lib.hid o4; have G4 := Lib.hid g4; obtain ⟨y0', yf, yn⟩ := HNX.out.2.1 w4 HX3.out g4; have y0 : w4.cell? ⟨s, 0, none⟩ = some (.slice vA vn vc) := y0'; clear y0' o4 g4 b4 yn)
      | fail)
    all_goals
      have HFIN := Lib.hid (HNX.out.2.2 ⟨A4, (ns ++ [nd]).length, c4⟩ w4 _ HX3.out O4.out G4.out)
      unfold Sl.v at HFIN
      simp only [List.length_append, List.length_singleton] at HFIN
      clear l0 l1 l2 l3 l4 l5 l6 l7 l8 l9 l10 y0 yf z1 j0 j1
      go_wp2
      go_end0
      exact ⟨rfl, HFIN.out.2, _, _, HFIN.out.1⟩
  · have hlk2 : ∀ n, (Instr.lookup 67 (.map (some m)) (.string nd.k.nm) true).run Tryd.prog (W1.drewN n) = .ok (.tuple #[.int .i64 f, .bool true]) (W1.drewN n) := fun n => by rw [hlk n, if_neg hneg, decide_eq_true (by omega)]
    have HNEG := Lib.hid hneg
    clear hlk hneg
    go_enter Tryd.func61, Tryd.ntmps61
    go_wp2_with fail
    try rw [hW1]
    clear hW1 hb0
    go_quiet (fail)
    obtain ⟨w3, hW2⟩ : ∃ w3, W1.drewN nq = w3 := ⟨_, rfl⟩
    have HX2 : Hid (Ext W1 w3) := Lib.hid (by rw [← hW2]; exact (Ext.refl W1).drewN nq)
    rw [hW2]
    clear hW2 hlk2
    have HS2 := Lib.hid (HS.out _ HX2.out)
    have z0 : w3.cell? ⟨s, 0, none⟩ = some (.slice vA vn vc) := HS2.out.c0
    have z1 : w3.cell? ⟨s, 1, none⟩ = some (.map (some m)) := HS2.out.c1
    have HZ2 := Lib.hid (HNB.out w3 HX2.out)
    have z3 := (node_cells HZ2.out).2.1
    have HM1 : Hid (w3.ownsMap Tryd.prog 9 (plainElem Tryd.prog 3) m (ns.length + 1) D) := Lib.hid (by
      obtain ⟨es, clock, hb, F, hs, hD⟩ := HS2.out.map
      exact ⟨es, clock, hb, F, by omega, hD⟩)
    have HNUM : Hid (NumOk D (ns.map (·.k) ++ [nd.k])) := Lib.hid (HH.out.num.old (x := nd.k) (by rw [HF.out]; have := HNEG.out; omega))
    have HG1 : Hid (w.grownBy w3 (some m)) := Lib.hid (grown_of_ext (HE1.out.trans HX2.out))
    have HWB : Hid (B ≤ w3.heap.size) := Lib.hid (by have := HG1.out.size; omega)
    have HNX := Lib.hid (tail_facts (v := ⟨vA, vn, vc⟩) HH.out HNO.out HM1.out HNUM.out HG1.out (HZ2.out) HV0.out)
    have hx3 : Ext w3 (w3.alloc (.cells #[.slice none 0 0, .string nd.k.nm, .string nd.k.sup, .bool nd.k.inf, .slice nd.vi.A nd.vi.n nd.vi.c, .slice none 0 0, .slice none 0 0, .int .i64 nd.su, .slice nd.vs.A nd.vs.n nd.vs.c, .slice nd.va.A nd.va.n nd.va.c, .int .i64 nd.ln] 72)).drew := ((Ext.refl w3).alloc _).drew
    have HO3 : Hid (ShN.Own B (w3.alloc (.cells #[.slice none 0 0, .string nd.k.nm, .string nd.k.sup, .bool nd.k.inf, .slice nd.vi.A nd.vi.n nd.vi.c, .slice none 0 0, .slice none 0 0, .int .i64 nd.su, .slice nd.vs.A nd.vs.n nd.vs.c, .slice nd.va.A nd.va.n nd.va.c, .int .i64 nd.ln] 72)).drew (.slice vA vn vc) ns) := Lib.hid (HNX.out.1.ext hx3)
    have HR3 : Hid (ShN.Row (w3.alloc (.cells #[.slice none 0 0, .string nd.k.nm, .string nd.k.sup, .bool nd.k.inf, .slice nd.vi.A nd.vi.n nd.vi.c, .slice none 0 0, .slice none 0 0, .int .i64 nd.su, .slice nd.vs.A nd.vs.n nd.vs.c, .slice nd.va.A nd.va.n nd.va.c, .int .i64 nd.ln] 72)).drew (.slice (some ⟨w3.heap.size, 0, none⟩) 1 1) [nd]) := Lib.hid (Shp.Row.single (S := ShN) (T := 72) (x := nd) (heap_alloc_new w3 (.cells nd.vals 72)) trivial)
    have HX3 := Lib.hid hx3
    have hbl : (ns.length + [nd].length) * 200 ≤ 140737488355328 := by rw [List.length_singleton]; omega
    have HBL := Lib.hid hbl
    have nc := node_cells HZ2.out
    obtain ⟨k0, k1, k2, k3, k4, k5, k6, k7, k8, k9, k10⟩ := nc
    clear hx3 hbl
    have j0 : w3.drew.cell? ⟨s, 0, none⟩ = some (.slice vA vn vc) := z0
    have j1 : (w3.alloc (.cells #[.slice none 0 0, .string nd.k.nm, .string nd.k.sup, .bool nd.k.inf, .slice nd.vi.A nd.vi.n nd.vi.c, .slice none 0 0, .slice none 0 0, .int .i64 nd.su, .slice nd.vs.A nd.vs.n nd.vs.c, .slice nd.va.A nd.va.n nd.va.c, .int .i64 nd.ln] 72)).cell? ⟨s, 0, none⟩ = some (.slice vA vn vc) := (HX3.out.cell (p := ⟨s, 0, none⟩) (show s < w3.heap.size by have := HH.out.lt.1; have := HG1.out.size; omega)).trans z0
    have l0 : w3.drew.cell? ⟨b0, 0, none⟩ = _ := k0
    have l1 : w3.drew.cell? ⟨b0, 1, none⟩ = _ := k1
    have l2 : w3.drew.cell? ⟨b0, 2, none⟩ = _ := k2
    have l3 : w3.drew.cell? ⟨b0, 3, none⟩ = _ := k3
    have l4 : w3.drew.cell? ⟨b0, 4, none⟩ = _ := k4
    have l5 : w3.drew.cell? ⟨b0, 5, none⟩ = _ := k5
    have l6 : w3.drew.cell? ⟨b0, 6, none⟩ = _ := k6
    have l7 : w3.drew.cell? ⟨b0, 7, none⟩ = _ := k7
    have l8 : w3.drew.cell? ⟨b0, 8, none⟩ = _ := k8
    have l9 : w3.drew.cell? ⟨b0, 9, none⟩ = _ := k9
    have l10 : w3.drew.cell? ⟨b0, 10, none⟩ = _ := k10
    clear k0 k1 k2 k3 k4 k5 k6 k7 k8 k9 k10 z0 z3 HZ2
    go_wp2_with fail
    go_region_law (first
      | ((refine Shp.step_app ShN rfl _ _ B 66 (.agg nd0.vals) 200 rfl Tryd.underlying66 infoN sizeN (by omega) (.slice vA vn vc) ns rfl HO3.out (.slice (some ⟨w3.heap.size, 0, none⟩) 1 1) [nd] rfl HR3.out (fun _ _ => trivial) HBL.out (by exact Nat.le_trans HWB.out HX3.out.size) ?_); intro v4 w4 o4 g4 b4; obtain ⟨A4, c4, e4, hc4, hm4⟩ := o4.slice; subst e4; have O4 := Lib.hid o4; have G4 := Lib.hid g4; obtain ⟨y0', yf, yn⟩ := HNX.out.2.1 w4 HX3.out g4; have y0 : w4.cell? ⟨s, 0, none⟩ = some (.slice vA vn vc) := y0'; clear y0' o4 g4 b4 yn)
      | fail)
    all_goals
      have HFIN := Lib.hid (HNX.out.2.2 ⟨A4, (ns ++ [nd]).length, c4⟩ w4 _ HX3.out O4.out G4.out)
      unfold Sl.v at HFIN
      simp only [List.length_append, List.length_singleton] at HFIN
      clear l0 l1 l2 l3 l4 l5 l6 l7 l8 l9 l10 y0 yf z1 j0 j1
      go_wp2
      go_end0
      exact ⟨rfl, HFIN.out.2, _, _, HFIN.out.1⟩
end Go.Proofs.YtladeaofhdaloaaDoor
namespace Go.Proofs.YtladeaofhdaloaaDoor
open Go.RowKit
set_option linter.unusedVariables false

theorem Shp.made_zero {α : Type} (S : Shp α) (z : Value) (hz : z.cells = S.vals S.zero) (n : Nat) : (madeCells z.cells (n * S.n)).toList = (List.replicate n S.zero).flatMap fun x => (S.vals x).toList := by
  have hp := S.pos
  apply List.ext_getElem?
  intro q
  rcases Nat.lt_or_ge q (n * S.n) with h | h
  · rw [S.flat_some _ q (by rw [List.length_replicate]; exact h)]
    have e : S.el (List.replicate n S.zero) (q / S.n) = S.zero := by
      unfold Shp.el
      rw [List.getD_eq_getElem?_getD, List.getElem?_replicate]
      split <;> rfl
    rw [e, hz]
    simp [madeCells, h, S.size, Nat.mod_lt q hp]
  · rw [List.getElem?_eq_none (by simp [madeCells]; exact h), List.getElem?_eq_none (by rw [S.flat_len, List.length_replicate]; exact h)]
theorem Shp.wpList_make {α : Type} (S : Shp α) {P : Program} (w : World) {ops : Array Oper} {rest : List Oper} {o : Oper} {a : Act} {Q : Exit → Act → World → Prop} (hg : o.guard = none) (y u : Operand) (B : Nat) (t : TypeId) (z : Value) (bytes : Nat)
    (hop : o.op = Op.makeSlice t y u) (ht : P.underlying t = some (.slice S.T)) (hi : (P.info? S.T).map (fun i => (i.zero, i.size, i.bytes)) = some (some z, S.n, bytes)) (hz : z.cells = S.vals S.zero) (hno : ∀ w, S.nestO B w S.zero)
    (kl kc : IntKind) (L C : Int) (n : Nat) (hl : a.eval y = .int kl L) (hc : a.eval u = .int kc C) (hL : L = (n : Int)) (hC : C = (n : Int)) (b2 : bytes * n ≤ 281474976710656) (hb1 : 1 ≤ bytes) (b4 : B ≤ w.heap.size)
    (hK : ∀ w', S.Own B w' (.slice (some ⟨w.heap.size, 0, none⟩) n n) (List.replicate n S.zero) → w.grownBy w' none → wpList P ops Q rest (a.put o.dst (.slice (some ⟨w.heap.size, 0, none⟩) n n)) w') :
    wpList P ops Q (o :: rest) a w := by
  obtain ⟨i, hi1, hi2, hi3, hi4⟩ := info_parts hi
  have hn : n ≤ 281474976710656 := Nat.le_trans (Nat.le_mul_of_pos_left _ (by omega)) b2
  refine wpList_make_full w hg y u t hop B S.T i z S.n ht hi1 hi2 hi3 kl kc L C n hl hc hL hC (by rw [hi4]; exact b2) (by simp only [maxLen]; omega) b4 fun w' h1 h2 => hK w' ⟨?_, fun x hx => ?_⟩ h2
  · rw [S.made_zero z hz n] at h1
    rw [List.length_replicate]
    exact h1
  · rw [List.eq_of_mem_replicate hx]
    exact hno w'
end Go.Proofs.YtladeaofhdaloaaDoor
