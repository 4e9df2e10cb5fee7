/- Several texts of this proof, one behind the other. -/
import Derived.Test.YtkkfkjjmmdpafaaDoorYdC
import Derived.Maps.OwnSet
import Derived.Maps.Views
import Derived.Test.YtkkfkjjmmdpafaaDoorProg
import Derived.StringKeys
import Derived.Deep.RegionHeld3
import Derived.Lib.Bytealg
namespace Go.Proofs.YtkkfkjjmmdpafaaDoor
open Go.Maps
set_option linter.unusedVariables false

theorem findA_app (nm : ByteArray) (x : Kl) : ∀ (N : List Kl) (k : Nat), findA nm k (N ++ [x]) = if findA nm k N < 0 then (if x.nm = nm then ((k + N.length : Nat) : Int) else -1) else findA nm k N
  | [], k => by simp [findA]
  | h :: t, k => by
    rw [List.cons_append, findA, findA]
    by_cases e : h.nm = nm
    · rw [if_pos e, if_pos e, if_neg (by omega)]
    · rw [if_neg e, if_neg e, findA_app nm x t (k + 1)]
      have : k + 1 + t.length = k + (h :: t).length := by simp; omega
      rw [this]
theorem findZ_snoc (N : List Kl) (x : Kl) (nm : ByteArray) : findZ (N ++ [x]) nm = if findZ N nm < 0 then (if x.nm = nm then (N.length : Int) else -1) else findZ N nm := by
  unfold findZ
  rw [findA_app]
  simp
def kL (nm : ByteArray) : Lit := .string nm.data.toList
theorem kL_inj {a b : ByteArray} (h : kL a = kL b) : a = b := by
  unfold kL at h
  injection h with h
  obtain ⟨⟨la⟩⟩ := a
  obtain ⟨⟨lb⟩⟩ := b
  simpa using h
structure NumOk (D : DataW Unit) (N : List Kl) : Prop where
  isMap : IsMap D
  has_ : ∀ nm, Maps.has D (kL nm) = decide (¬ findZ N nm < 0)
  at_ : ∀ nm, ¬ findZ N nm < 0 → ∀ z, D.atKey (kL nm) z = .lit (.int .i64 (findZ N nm))
  no_ : ∀ nm, findZ N nm < 0 → ∀ z, D.atKey (kL nm) z = z
theorem numOk_nil : NumOk (.map []) [] := by
  refine ⟨isMap_empty, fun nm => ?_, fun nm h => ?_, fun nm h z => ?_⟩
  · simp [findZ, findA, Maps.has]
  · simp [findZ, findA] at h
  · exact atKey_of_not_has (by simp [Maps.has]) z
theorem NumOk.old {D : DataW Unit} {N : List Kl} {x : Kl} (h : NumOk D N) (hx : ¬ findZ N x.nm < 0) : NumOk D (N ++ [x]) := by
  have e : ∀ nm, findZ (N ++ [x]) nm = findZ N nm := fun nm => by
    rw [findZ_snoc]
    split
    · rename_i h1
      split
      · rename_i h2; rw [h2] at hx; exact absurd h1 hx
      · rcases findZ_cases N nm with ⟨h3, _⟩ | ⟨j, _, h3, _⟩
        · exact h3.symm
        · rw [h3] at h1; omega
    · rfl
  exact ⟨h.isMap, fun nm => by rw [e]; exact h.has_ nm, fun nm h1 => by rw [e] at h1 ⊢; exact h.at_ nm h1, fun nm h1 => by rw [e] at h1; exact h.no_ nm h1⟩
theorem NumOk.new {D : DataW Unit} {N : List Kl} {x : Kl} (h : NumOk D N) (hx : findZ N x.nm < 0) (hk : WideAt.IsKeyLit (kL x.nm)) : NumOk (D.put (kL x.nm) (.lit (.int .i64 (N.length : Int)))) (N ++ [x]) := by
  have e0 : findZ (N ++ [x]) x.nm = (N.length : Int) := by rw [findZ_snoc, if_pos hx, if_pos rfl]
  have e : ∀ nm, nm ≠ x.nm → findZ (N ++ [x]) nm = findZ N nm := fun nm hn => by
    rw [findZ_snoc]
    split
    · rename_i h1
      rw [if_neg (fun h => hn h.symm)]
      rcases findZ_cases N nm with ⟨h3, _⟩ | ⟨j, _, h3, _⟩
      · exact h3.symm
      · rw [h3] at h1; omega
    · rfl
  refine ⟨h.isMap.put _ _, fun nm => ?_, fun nm h1 z => ?_, fun nm h1 z => ?_⟩
  · by_cases hn : nm = x.nm
    · rw [hn, has_put_same h.isMap hk, e0]
      simp
    · rw [has_put_other (fun h => hn (kL_inj h)), e nm hn]; exact h.has_ nm
  · by_cases hn : nm = x.nm
    · rw [hn, atKey_put_same h.isMap hk, e0]
    · rw [e nm hn] at h1 ⊢
      rw [atKey_put_other (fun h => hn (kL_inj h))]; exact h.at_ nm h1 z
  · by_cases hn : nm = x.nm
    · rw [hn, e0] at h1; omega
    · rw [e nm hn] at h1
      rw [atKey_put_other (fun h => hn (kL_inj h))]; exact h.no_ nm h1 z
end Go.Proofs.YtkkfkjjmmdpafaaDoor
namespace Go.Proofs.YtkkfkjjmmdpafaaDoor
open Go.RowKit Go.Maps
set_option linter.unusedVariables false

structure Nd where
  k : Kl
  vi : Sl
  su : Int
  is : List Int
  vs : Sl
  ab : List Int
  va : Sl
  ln : Int
def Nd.vals (x : Nd) : Array Value := #[.slice none 0 0, .string x.k.nm, .string x.k.sup, .bool x.k.inf, x.vi.v, .slice none 0 0, .slice none 0 0, .int .i64 x.su, x.vs.v, x.va.v, .int .i64 x.ln]
def nd0 : Nd := ⟨kl0, sl0, 0, [], sl0, [], sl0, 0⟩
def ShN : Shp Nd := flat 72 11 Nd.vals nd0 (by decide) (fun _ => rfl) (fun x u hu => by
  have h : u = .slice none 0 0 ∨ u = .string x.k.nm ∨ u = .string x.k.sup ∨ u = .bool x.k.inf ∨ u = x.vi.v ∨ u = .slice none 0 0 ∨ u = .slice none 0 0 ∨ u = .int .i64 x.su ∨ u = x.vs.v ∨ u = x.va.v ∨ u = .int .i64 x.ln := by simpa [Nd.vals] using hu
  rcases h with rfl | rfl | rfl | rfl | rfl | rfl | rfl | rfl | rfl | rfl | rfl <;> rfl)
structure NdOk (B : Nat) (w : World) (x : Nd) : Prop where
  vi : ShS.Own B w x.vi.v x.k.ifs
  vs : Own B w 3 .i64 x.vs.v x.is
  va : Own B w 3 .i64 x.va.v x.ab
theorem NdOk.ext {B : Nat} {w w' : World} {x : Nd} (h : NdOk B w x) (e : Ext w w') : NdOk B w' x := ⟨h.vi.ext e, h.vs.ext e, h.va.ext e⟩
theorem own_typed {B : Nat} {w : World} {e : TypeId} {k : IntKind} {v : Value} {l : List Int} (h : Own B w e k v l) : ∀ g, v.ownBlock = some g → ∃ c z, w.heap[g]? = some (.cells c e z) := by
  intro g hg
  rcases h.1.2 with ⟨rfl, _⟩ | ⟨g', cap, cur, rfl, _, hg', _⟩
  · cases hg
  · injection hg with hg
    subst hg
    exact ⟨_, _, hg'⟩
theorem NdOk.kept {B : Nat} {w w' : World} {x : Nd} {row : Option Nat} (h : NdOk B w x) (hg : w.grownBy w' row) (hr : ∀ g, row = some g → ∃ o, w.heap[g]? = some o ∧ (∀ c z, o ≠ .cells c ShS.T z) ∧ (∀ c z, o ≠ .cells c 3 z)) : NdOk B w' x := by
  refine ⟨h.vi.kept hg (fun g hv e => ?_) (fun _ _ h => h), h.vs.kept hg (fun g hv e => ?_), h.va.kept hg (fun g hv e => ?_)⟩
  · obtain ⟨o, h1, h2, h3⟩ := hr g e
    obtain ⟨c, z, h4⟩ := h.vi.typed g hv
    rw [h1] at h4; injection h4 with h4; exact h2 _ _ h4
  · obtain ⟨o, h1, h2, h3⟩ := hr g e
    obtain ⟨c, z, h4⟩ := own_typed h.vs g hv
    rw [h1] at h4; injection h4 with h4; exact h3 _ _ h4
  · obtain ⟨o, h1, h2, h3⟩ := hr g e
    obtain ⟨c, z, h4⟩ := own_typed h.va g hv
    rw [h1] at h4; injection h4 with h4; exact h3 _ _ h4
structure SetAt (B s m : Nat) (v : Sl) (D : DataW Unit) (w : World) (ns : List Nd) : Prop where
  bs : B ≤ s
  bm : B ≤ m
  blk : w.heap[s]? = some (.cells #[v.v, .map (some m)] 69 (0, 0))
  own : ShN.Own B w v.v ns
  map : w.ownsMap Tryd.prog 9 (plainElem Tryd.prog 3) m ns.length D
  num : NumOk D (ns.map (·.k))
  ok : ∀ x ∈ ns, NdOk B w x
theorem SetAt.ext {B s m : Nat} {v : Sl} {D : DataW Unit} {w w' : World} {ns : List Nd} (h : SetAt B s m v D w ns) (e : Ext w w') : SetAt B s m v D w' ns := by
  have hs := lt_of_get h.blk
  refine ⟨h.bs, h.bm, (e.block s hs).trans h.blk, h.own.ext e, ?_, h.num, fun x hx => (h.ok x hx).ext e⟩
  obtain ⟨es, clock, hb, hr⟩ := h.map
  exact ⟨es, clock, (e.block m (lt_of_get hb)).trans hb, hr⟩
theorem SetAt.put {B s m g n c : Nat} {D : DataW Unit} {w : World} {ns : List Nd} (h : SetAt B s m ⟨some ⟨g, 0, none⟩, n, c⟩ D w ns) (j i : Nat) (hj : j < ns.length) (hi : i < 11) (u : Value) (x' : Nd)
    (hv : x'.vals = (ShN.el ns j).vals.setIfInBounds i u) (hk : x'.k = (ShN.el ns j).k) (hx : NdOk B w x') :
    SetAt B s m ⟨some ⟨g, 0, none⟩, n, c⟩ D (w.setCell ⟨g, j * 11 + i, none⟩ u) (ns.set j x') := by
  have gs := set_grownK w g (j * 11 + i) u
  obtain ⟨c0, z0, hg⟩ := h.own.typed g rfl
  have hr : ∀ q, some g = some q → ∃ o, w.heap[q]? = some o ∧ (∀ c z, o ≠ .cells c ShS.T z) ∧ (∀ c z, o ≠ .cells c 3 z) := fun q hq => by
    injection hq with hq
    subst hq
    refine ⟨_, hg, fun c z e => ?_, fun c z e => ?_⟩
    · injection e with _ e _; exact absurd e (by decide)
    · injection e with _ e _; exact absurd e (by decide)
  refine ⟨h.bs, h.bm, ?_, h.own.setCell j i hj hi u x' hv trivial, ?_, ?_, fun x hm => ?_⟩
  · refine (gs.block s (lt_of_get h.blk) (fun e => ?_)).trans h.blk
    injection e with e
    subst e
    have := h.blk
    rw [hg] at this
    injection this with this
    injection this with _ e _
    exact absurd e (by decide)
  · rw [List.length_set]
    refine h.map.kept gs (fun e => ?_)
    injection e with e
    subst e
    obtain ⟨es, clock, hb, _⟩ := h.map
    rw [hg] at hb
    injection hb with hb
    cases hb
  · have e : (ns.set j x').map (·.k) = ns.map (·.k) := by
      rw [List.map_set, hk]
      apply List.ext_getElem?
      intro q
      rw [List.getElem?_set]
      by_cases hq : j = q
      · subst hq
        rw [if_pos rfl, List.getElem?_map, List.getElem?_eq_getElem hj]
        simp only [List.length_map, hj, if_true, Option.map_some]
        rw [ShN.el_get hj]
      · rw [if_neg hq]
    rw [e]; exact h.num
  · rcases List.mem_or_eq_of_mem_set hm with hm | rfl
    · exact (h.ok x hm).kept gs hr
    · exact hx.kept gs hr
end Go.Proofs.YtkkfkjjmmdpafaaDoor
namespace Go.Proofs.YtkkfkjjmmdpafaaDoor
open Go.RowKit Go.Maps Go.WideMaps
set_option linter.unusedVariables false

theorem findZ_b {N : List Kl} (h : N.length ≤ 72) (nm : ByteArray) : -1 ≤ findZ N nm ∧ findZ N nm < 72 := by
  rcases findZ_cases N nm with ⟨h1, _⟩ | ⟨j, h1, h2, _⟩
  · omega
  · omega
theorem key_is {nm : ByteArray} (hs : nm.size ≤ 140737488351232) : keyOf Tryd.prog 9 (.string nm) = some (kL nm) := keyOf_string_mk Tryd.underlying9 (by unfold maxLen; omega)
theorem zero_int (w : World) : (zeroValue 3).run Tryd.prog w = .ok (.int .i64 0) w := by go_simp
theorem look_run {w : World} {m n : Nat} {D : DataW Unit} {N : List Kl} (h : w.ownsMap Tryd.prog 9 (plainElem Tryd.prog 3) m n D) (hn : NumOk D N) {nm : ByteArray} (hs : nm.size ≤ 140737488351232) :
    (Instr.lookup 67 (.map (some m)) (.string nm) true).run Tryd.prog w = .ok (.tuple #[.int .i64 (if findZ N nm < 0 then 0 else findZ N nm), .bool (decide (0 ≤ findZ N nm))]) w := by
  obtain ⟨v, ps, h1, h2⟩ := World.ownsMap.look_ok h (string_keyed Tryd.underlying9) Tryd.underlying67 (zero_int w) (plainElem_int (H := Unit) Tryd.underlying3 (by decide)) (key_is hs)
  have hb : Maps.has D (kL nm) = decide (0 ≤ findZ N nm) := by rw [hn.has_ nm]; simp
  rw [h1, hb]
  obtain ⟨c, rfl, hc⟩ := plainElem_int_inv Tryd.underlying3 h2
  by_cases hf : findZ N nm < 0
  · rw [hn.no_ nm hf] at hc
    have hc := congrArg Prod.fst hc.1
    simp at hc
    rw [if_pos hf, ← hc]
  · rw [hn.at_ nm hf] at hc
    have hc := congrArg Prod.fst hc.1
    simp at hc
    rw [if_neg hf, hc]
def NodeAt (w : World) (b o : Nat) (x : Nd) : Prop :=
  w.cell? ⟨b, o, none⟩ = some (.slice none 0 0) ∧ w.cell? ⟨b, o + 1, none⟩ = some (.string x.k.nm) ∧ w.cell? ⟨b, o + 2, none⟩ = some (.string x.k.sup) ∧ w.cell? ⟨b, o + 3, none⟩ = some (.bool x.k.inf) ∧ w.cell? ⟨b, o + 4, none⟩ = some (.slice x.vi.A x.vi.n x.vi.c) ∧
  w.cell? ⟨b, o + 7, none⟩ = some (.int .i64 x.su) ∧ w.cell? ⟨b, o + 8, none⟩ = some (.slice x.vs.A x.vs.n x.vs.c) ∧ w.cell? ⟨b, o + 9, none⟩ = some (.slice x.va.A x.va.n x.va.c) ∧ w.cell? ⟨b, o + 10, none⟩ = some (.int .i64 x.ln)
structure SetG (s m g : Nat) (n c : Nat) (w : World) (ns : List Nd) : Prop where
  c0 : w.cell? ⟨s, 0, none⟩ = some (.slice (some ⟨g, 0, none⟩) n c)
  c1 : w.cell? ⟨s, 1, none⟩ = some (.map (some m))
  len : n = ns.length
  cap : n ≤ c
  look : ∀ nm : ByteArray, nm.size ≤ 140737488351232 → (Instr.lookup 67 (.map (some m)) (.string nm) true).run Tryd.prog w = .ok (.tuple #[.int .i64 (if findZ (ns.map (·.k)) nm < 0 then 0 else findZ (ns.map (·.k)) nm), .bool (decide (0 ≤ findZ (ns.map (·.k)) nm))]) w
  node : ∀ (i : Nat) (x : Nd), ns[i]? = some x → NodeAt w g (i * 11) x
theorem SetAt.c0 {B s m : Nat} {v : Sl} {D : DataW Unit} {w : World} {ns : List Nd} (h : SetAt B s m v D w ns) : w.cell? ⟨s, 0, none⟩ = some (.slice v.A v.n v.c) := by
  rw [cell_of_row w s 0 _ _ (0, 0) h.blk]; rfl
theorem SetAt.c1 {B s m : Nat} {v : Sl} {D : DataW Unit} {w : World} {ns : List Nd} (h : SetAt B s m v D w ns) : w.cell? ⟨s, 1, none⟩ = some (.map (some m)) := by
  rw [cell_of_row w s 1 _ _ (0, 0) h.blk]; rfl
theorem SetAt.g {B s m : Nat} {v : Sl} {D : DataW Unit} {w : World} {ns : List Nd} (h : SetAt B s m v D w ns) (hl : 0 < ns.length) : ∃ g, v = ⟨some ⟨g, 0, none⟩, ns.length, v.c⟩ ∧ ns.length ≤ v.c ∧ B ≤ g ∧ g < w.heap.size := by
  obtain ⟨A, n, c⟩ := v
  rcases h.own.1.2 with ⟨h1, h2⟩ | ⟨g, cap, cur, h1, hb, hg, hn, hm, hs, ht⟩
  · omega
  · injection h1 with e1 e2 e3
    have e1 : A = some ⟨g, 0, none⟩ := e1
    have e2 : n = ns.length := e2
    have e3 : c = cap := e3
    subst e1 e2 e3
    exact ⟨g, rfl, hn, hb, lt_of_get hg⟩
theorem SetAt.get {B s m g n c : Nat} {D : DataW Unit} {w : World} {ns : List Nd} (h : SetAt B s m ⟨some ⟨g, 0, none⟩, n, c⟩ D w ns) : SetG s m g n c w ns := by
  refine ⟨h.c0, h.c1, ?_, ?_, fun nm hs => look_run h.map h.num hs, fun i x hx => ?_⟩
  · obtain ⟨A, c', h1, _⟩ := h.own.row.cut
    injection h1
  · obtain ⟨A, c', h1, h2, _⟩ := h.own.row.cut
    simp only [Sl.v] at h1
    injection h1 with _ e2 e3
    rw [e2, e3]
    exact h2
  · have hi : i < ns.length := by
      rcases Nat.lt_or_ge i ns.length with h | h
      · exact h
      · rw [List.getElem?_eq_none h] at hx; cases hx
    obtain ⟨b, o, hA, hat⟩ := h.own.row.at (by omega)
    injection hA with hA
    injection hA with h1 h2
    subst h1 h2
    have h3 := (hat w (Ext.refl w) i hi).1
    have e : ShN.el ns i = x := by
      unfold Shp.el
      rw [List.getD_eq_getElem?_getD, hx]
      rfl
    rw [e, Nat.zero_add] at h3
    exact ⟨h3 0 (by decide), h3 1 (by decide), h3 2 (by decide), h3 3 (by decide), h3 4 (by decide), h3 7 (by decide), h3 8 (by decide), h3 9 (by decide), h3 10 (by decide)⟩
section
variable {s m g n c : Nat} {w : World} {ns : List Nd}
set_option maxRecDepth 100000 in
theorem len_any (h : SetG s m g n c w ns) : Calls Tryd.prog 15 #[.pointer (some ⟨s, 0, none⟩)] w fun e w' => e = .returned (.int .i64 n) ∧ w' = w := by
  have c0 := h.c0
  clear h
  go_enter Tryd.func15, Tryd.ntmps15
  go_wp2
  go_ret
  exact ⟨rfl, rfl⟩
set_option maxRecDepth 100000 in
theorem named_any (h : SetG s m g n c w ns) (nm : ByteArray) (hs : nm.size ≤ 140737488351232) : Calls Tryd.prog 60 #[.pointer (some ⟨s, 0, none⟩), .string nm] w fun e w' => e = .returned (.int .i64 (findZ (ns.map (·.k)) nm)) ∧ w' = w := by
  have c1 := h.c1
  have hlk := h.look nm hs
  have hm1 : findZ (ns.map (·.k)) nm < 0 → findZ (ns.map (·.k)) nm = -1 := fun hh => by
    rcases findZ_cases (ns.map (·.k)) nm with ⟨h1, _⟩ | ⟨j, _, h1, _⟩
    · exact h1
    · omega
  generalize findZ (ns.map (·.k)) nm = f at hlk hm1 ⊢
  clear h hs
  by_cases hf : f < 0
  · have e := hm1 hf
    subst e
    have hlk2 : (Instr.lookup 67 (.map (some m)) (.string nm) true).run Tryd.prog w = .ok (.tuple #[.int .i64 0, .bool false]) w := by rw [hlk]; rfl
    clear hlk hm1
    go_enter Tryd.func60, Tryd.ntmps60
    go_wp2
    go_ret
    exact ⟨rfl, rfl⟩
  · have hlk2 : (Instr.lookup 67 (.map (some m)) (.string nm) true).run Tryd.prog w = .ok (.tuple #[.int .i64 f, .bool true]) w := by rw [hlk, if_neg hf, decide_eq_true (by omega)]
    clear hlk hm1
    go_enter Tryd.func60, Tryd.ntmps60
    go_wp2
    go_ret
    exact ⟨rfl, rfl⟩
set_option maxRecDepth 100000 in
theorem node_in (h : SetG s m g n c w ns) (i : Nat) (hi : i < n) (h72 : n ≤ 72) : Calls Tryd.prog 52 #[.pointer (some ⟨s, 0, none⟩), .int .i64 i] w fun e w' => e = .returned (.pointer (some ⟨g, i * 11, none⟩)) ∧ w' = w := by
  have c0 := h.c0
  have hcap := h.cap
  have HL := Lib.hid (len_any h)
  have i0 : ¬ (i : Int) < 0 := by omega
  have i1 : ¬ (n : Int) ≤ (i : Int) := by omega
  have i2 : (i : Int) < (n : Int) := by omega
  clear h
  go_enter Tryd.func52, Tryd.ntmps52
  go_wp2_with fail
  refine HL.out.mono ?_
  rintro e w' ⟨rfl, rfl⟩
  go_wp2
  go_ret
  exact ⟨rfl, rfl⟩
set_option maxRecDepth 100000 in
theorem isIface_in (h : SetG s m g n c w ns) (i : Nat) (x : Nd) (hx : ns[i]? = some x) (h72 : n ≤ 72) : Calls Tryd.prog 27 #[.pointer (some ⟨s, 0, none⟩), .int .i64 i] w fun e w' => e = .returned (.bool x.k.inf) ∧ w' = w := by
  obtain ⟨_, _, _, x3, _⟩ := h.node i x hx
  have hi : i < n := by rw [h.len]; exact (List.getElem?_eq_some_iff.1 hx).1
  have HN := Lib.hid (node_in h i hi h72)
  clear h hx
  go_enter Tryd.func27, Tryd.ntmps27
  go_wp2_with fail
  refine HN.out.mono ?_
  rintro e w' ⟨rfl, rfl⟩
  go_wp2
  go_ret
  exact ⟨rfl, rfl⟩
set_option maxRecDepth 100000 in
theorem fails_at (o : Nat) (nm : ByteArray) (bb : Bool) (er : Int) (hn : w.cell? ⟨g, o + 1, none⟩ = some (.string nm)) : Calls Tryd.prog 86 #[.pointer (some ⟨g, o, none⟩), .bool bb, .int .i64 er] w fun e w' => e = .returned (.tuple (if bb then #[.string nm, .int .i64 er] else #[.string ⟨#[]⟩, .int .i64 0])) ∧ w' = w := by
  cases bb
  all_goals
    go_enter Tryd.func86, Tryd.ntmps86
    go_wp2
    go_ret2
    exact ⟨rfl, rfl⟩
end
def idxI (x : Int) : List Int → Nat → Int
  | [], _ => -1
  | y :: l, k => if x = y then (k : Int) else idxI x l (k + 1)
theorem idxI_has (x : Int) : ∀ (l : List Int) (k : Nat), decide (0 ≤ idxI x l k) = l.contains x
  | [], k => by simp [idxI]
  | y :: l, k => by
    unfold idxI
    by_cases e : x = y
    · subst e; simp
    · rw [if_neg e, idxI_has x l (k + 1)]
      simp [e]
theorem idxI_next {x : Int} {l : List Int} {k : Nat} (h : k < l.length) (hne : ¬ x = gi l k) : idxI x (l.drop k) k = idxI x (l.drop (k + 1)) (k + 1) := by
  have e : gi l k = l[k] := by simp [gi, h]
  rw [List.drop_eq_getElem_cons h, idxI, if_neg (by rw [← e]; exact hne)]
theorem idxI_here {x : Int} {l : List Int} {k : Nat} (h : k < l.length) (he : x = gi l k) : idxI x (l.drop k) k = k := by
  have e : gi l k = l[k] := by simp [gi, h]
  rw [List.drop_eq_getElem_cons h, idxI, if_pos (by rw [← e]; exact he)]
set_option maxRecDepth 100000 in
theorem index_any {w : World} {v : Value} {l : List Int} (h : Row w .i64 v l) (x : Int) : Calls Tryd.prog 83 #[v, .int .i64 x] w fun e w' => e = .returned (.int .i64 (idxI x l 0)) ∧ w = w' := by
  obtain ⟨A, c, rfl, hc, hm, -, -, hcell⟩ := h
  unfold maxLen at hm
  obtain ⟨n, hn⟩ : ∃ n, n = l.length := ⟨_, rfl⟩
  rw [← hn] at hc hcell ⊢
  have Hn := Lib.hid hn
  obtain ⟨R, hR⟩ : ∃ R, idxI x l 0 = R := ⟨_, rfl⟩
  have HR := Lib.hid hR
  rw [hR]
  clear hn hR
  go_enter Tryd.func83, Tryd.ntmps83
  go_wp2
  go_loopw [8] (fun i wr => ∃ (k : Nat), i = .int .i64 k ∧ k ≤ n ∧ Hid (R = idxI x (l.drop k) k) ∧ w = wr) (fun i _ => n - (intOf i).toNat)
  case atStart => exact ⟨0, rfl, by omega, Lib.hid HR.out.symm, rfl⟩
  case round =>
    obtain ⟨k, rfl, hk, HP, rfl⟩ := hrel
    by_cases hlt : k < n
    · obtain ⟨b, o, rfl, hb, hx⟩ := hcell (by omega)
      have y0 := hx k hlt
      have hkl : k < l.length := by have := Hn.out; omega
      have hnx := idxI_next (x := x) hkl
      have hhr := idxI_here (x := x) hkl
      obtain ⟨t, ht⟩ : ∃ t, gi l k = t := ⟨_, rfl⟩
      rw [ht] at y0 hnx hhr
      by_cases he : x = t
      · subst he
        have HE := Lib.hid (HP.out.trans (hhr rfl))
        clear hx hcell ht hnx hhr
        go_wp2
        go_ret
        exact ⟨by rw [HE.out]; rfl, rfl⟩
      · have HE := Lib.hid (HP.out.trans (hnx he))
        clear hx hcell ht hnx hhr
        go_wp2
        go_roundw
        case rel => exact ⟨k + 1, by go_num, hlt, HE, by first | rfl | trivial⟩
        case measure => simp [intOf]; omega
    · have HE : Hid (R = -1) := Lib.hid (by
        have h1 := HP.out
        rw [List.drop_of_length_le (by have := Hn.out; omega)] at h1
        exact h1)
      go_wp2
      go_ret
      exact ⟨by rw [HE.out]; rfl, rfl⟩
set_option maxRecDepth 100000 in
theorem contains_any {w : World} {v : Value} {l : List Int} (h : Row w .i64 v l) (x : Int) : Calls Tryd.prog 56 #[v, .int .i64 x] w fun e w' => e = .returned (.bool (l.contains x)) ∧ w = w' := by
  have HI := Lib.hid (index_any h x)
  have hb := idxI_has x l 0
  obtain ⟨f, hf⟩ : ∃ f, idxI x l 0 = f := ⟨_, rfl⟩
  rw [hf] at HI hb
  rw [← hb]
  clear h hb hf
  go_enter Tryd.func56, Tryd.ntmps56
  go_wp2_with fail
  refine HI.out.mono ?_
  rintro e w' ⟨rfl, rfl⟩
  go_wp2
  go_ret
  exact ⟨rfl, rfl⟩
end Go.Proofs.YtkkfkjjmmdpafaaDoor
namespace Go.Proofs.YtkkfkjjmmdpafaaDoor
open Go.RowKit
set_option linter.unusedVariables false

def st7 (w : World) (g o : Nat) (x : KlV) : World := ((((((w.setCell ⟨g, o, none⟩ (.slice x.vp.A x.vp.n x.vp.c)).setCell ⟨g, o + 1, none⟩ (.string x.k.nm)).setCell ⟨g, o + 2, none⟩ (.string x.k.sup)).setCell ⟨g, o + 3, none⟩ (.bool x.k.inf)).setCell ⟨g, o + 4, none⟩ (.slice x.vi.A x.vi.n x.vi.c)).setCell ⟨g, o + 5, none⟩ (.slice x.vf.A x.vf.n x.vf.c)).setCell ⟨g, o + 6, none⟩ (.slice x.vm.A x.vm.n x.vm.c)
theorem st7_only {a w : World} {g : Nat} (h : a.grownBy w (some g)) (o : Nat) (x : KlV) : a.grownBy (st7 w g o x) (some g) :=
  only_set (only_set (only_set (only_set (only_set (only_set (only_set h _ _) _ _) _ _) _ _) _ _) _ _) _ _
theorem el_set {α : Type} {S : Shp α} {l : List α} {j : Nat} {x : α} (hj : j < l.length) : S.el (l.set j x) j = x := by
  unfold Shp.el
  rw [List.getD_eq_getElem?_getD, List.getElem?_set_self hj]
  rfl
theorem st7_own {W0 w : World} {B g n c : Nat} {l : List KlV} (h : (ShKW W0).Own B w (.slice (some ⟨g, 0, none⟩) n c) l) (j : Nat) (hj : j < l.length) (x : KlV) (hx : NestK W0 x) :
    (ShKW W0).Own B (st7 w g (j * 7) x) (.slice (some ⟨g, 0, none⟩) n c) (l.set j x) := by
  obtain ⟨y, hy⟩ : ∃ y, (ShKW W0).el l j = y := ⟨_, rfl⟩
  have ny : NestK W0 y := by rw [← hy]; exact h.2 _ ((ShKW W0).el_mem hj)
  have step : ∀ {w : World} {y z : KlV} (i : Nat) (u : Value), (ShKW W0).Own B w (.slice (some ⟨g, 0, none⟩) n c) (l.set j y) → i < 7 → z.vals = y.vals.setIfInBounds i u → NestK W0 z → (ShKW W0).Own B (w.setCell ⟨g, j * 7 + i, none⟩ u) (.slice (some ⟨g, 0, none⟩) n c) (l.set j z) := by
    intro w y z i u h hi hv hz
    have := h.setCell j i (by rw [List.length_set]; exact hj) hi u z (by rw [el_set hj]; exact hv) hz
    rw [List.set_set] at this
    exact this
  have h0 : (ShKW W0).Own B w (.slice (some ⟨g, 0, none⟩) n c) (l.set j y) := by
    have e : l.set j y = l := by
      rw [← hy, (ShKW W0).el_get hj]
      exact List.set_getElem_self hj
    rw [e]; exact h
  have h1 := step (z := ⟨y.k, x.vp, y.vi, y.vf, y.vm⟩) 0 _ h0 (by decide) rfl ny
  have h2 := step (z := ⟨{y.k with nm := x.k.nm}, x.vp, y.vi, y.vf, y.vm⟩) 1 (.string x.k.nm) h1 (by decide) rfl ny
  have h3 := step (z := ⟨{y.k with nm := x.k.nm, sup := x.k.sup}, x.vp, y.vi, y.vf, y.vm⟩) 2 (.string x.k.sup) h2 (by decide) rfl ny
  have h4 := step (z := ⟨{y.k with nm := x.k.nm, sup := x.k.sup, inf := x.k.inf}, x.vp, y.vi, y.vf, y.vm⟩) 3 (.bool x.k.inf) h3 (by decide) rfl ny
  have h5 := step (z := ⟨x.k, x.vp, x.vi, y.vf, y.vm⟩) 4 _ h4 (by decide) rfl hx
  have h6 := step (z := ⟨x.k, x.vp, x.vi, x.vf, y.vm⟩) 5 _ h5 (by decide) rfl hx
  have h7 := step (z := x) 6 _ h6 (by decide) rfl hx
  exact h7
end Go.Proofs.YtkkfkjjmmdpafaaDoor
namespace Go.Proofs.YtkkfkjjmmdpafaaDoor
open Go.RowKit
set_option linter.unusedVariables false

theorem grown_drewG {w w' : World} {row : Option Nat} (h : w.grownBy w' row) : w.grownBy w'.drew row := ⟨h.os, h.tape, h.output, h.size, h.block⟩
theorem AtK.cellsW {W0 w : World} {B g n c : Nat} {l : List KlV} (h : (ShKW W0).Own B w (.slice (some ⟨g, 0, none⟩) n c) l) (j : Nat) (x : KlV) (hx : l[j]? = some x) : AtK w g (j * 7) x ∧ NestK W0 x ∧ j < l.length := by
  have hj : j < l.length := by
    rcases Nat.lt_or_ge j l.length with h | h
    · exact h
    · rw [List.getElem?_eq_none h] at hx; cases hx
  obtain ⟨b, o, hA, hat⟩ := h.row.at (by omega)
  injection hA with hA
  injection hA with h1 h2
  subst h1 h2
  have h3 := hat w (Ext.refl w) j hj
  have e : (ShKW W0).el l j = x := by
    unfold Shp.el
    rw [List.getD_eq_getElem?_getD, hx]
    rfl
  rw [e] at h3
  refine ⟨?_, h3.2, hj⟩
  have := AtK.ofW h3.1
  rw [Nat.zero_add] at this
  exact this
theorem own_some {W0 w : World} {B n c : Nat} {A : Option Addr} {l : List KlV} (h : (ShKW W0).Own B w (.slice A n c) l) (hl : 0 < l.length) : ∃ g, A = some ⟨g, 0, none⟩ ∧ n = l.length ∧ l.length ≤ c ∧ (∀ j, w.frozen? ⟨g, j, none⟩ = false) := by
  rcases h.1.2 with ⟨h1, h2⟩ | ⟨g, cap, cur, h1, hb, hg, hn, hm, hs, ht⟩
  · omega
  · injection h1 with e1 e2 e3
    exact ⟨g, e1, e2, by omega, fun j => by simp [World.frozen?, hg]⟩
set_option maxRecDepth 100000 in
set_option maxHeartbeats 4000000 in
theorem swapRange_any {W0 w : World} {B n a b len c : Nat} {A : Option Addr} {cmp : Value} (P X Q Y S : List KlV) (hX : X.length = n) (hY : Y.length = n) (ha : P.length = a) (hb : P.length + n + Q.length = b)
    (ho : (ShKW W0).Own B w (.slice A len c) (P ++ (X ++ (Q ++ (Y ++ S))))) (hl : (P ++ (X ++ (Q ++ (Y ++ S)))).length ≤ 64) :
    Calls Tryd.prog 96 #[.slice A len c, .int .i64 a, .int .i64 b, .int .i64 n, cmp] w fun e w' => e = .returned (.tuple #[]) ∧ (ShKW W0).Own B w' (.slice A len c) (P ++ (Y ++ (Q ++ (X ++ S)))) ∧ w.grownBy w' (Value.slice A len c).ownBlock := by
  have hl2 : P.length + (n + (Q.length + (n + S.length))) ≤ 64 := by simpa [hX, hY] using hl
  have HST := Lib.hid (fun i hi => sw_step P X Q Y S n i hX hY hi)
  have HLN := Lib.hid (fun i => sw_len P X Q Y S i)
  have HA := Lib.hid (sw_all P X Q Y S n hX hY)
  have HO := Lib.hid (show (ShKW W0).Own B w (.slice A len c) (sw P X Q Y S 0) by rw [sw_zero]; exact ho)
  have HXY := Lib.hid (And.intro hX hY)
  have HPa := Lib.hid ha
  have HPb := Lib.hid hb
  have ha2 : a + n ≤ 64 := by omega
  have hb2 : b + n ≤ 64 := by omega
  have hab : a + n ≤ b := by omega
  clear ho hl hX hY hl2 ha hb
  go_enter Tryd.func96, Tryd.ntmps96
  go_wp2_with fail
  go_loopw [10] (fun i wr => ∃ k : Nat, i = .int .i64 k ∧ k ≤ n ∧ Hid ((ShKW W0).Own B wr (.slice A len c) (sw P X Q Y S k)) ∧ Hid (w.grownBy wr (Value.slice A len c).ownBlock)) (fun i _ => n - (intOf i).toNat)
  case atStart => exact ⟨0, rfl, Nat.zero_le _, HO, Lib.hid (World.grownBy.refl _ _)⟩
  case round =>
    obtain ⟨k, rfl, hk, HW, HG⟩ := hrel
    rename World => wr
    clear HO
    by_cases hlt : k < n
    · have hltz : (k : Int) < (n : Int) := by omega
      obtain ⟨x, y, hx, hy, hsx, hsy, hst⟩ := HST.out k hlt
      rw [HPb.out] at hsy hst
      rw [HPa.out] at hsx hst
      have hll := HLN.out k
      have hpos : 0 < (sw P X Q Y S k).length := by have := HXY.out.1; omega
      obtain ⟨g, rfl, hln, hc, hfr⟩ := own_some HW.out hpos
      obtain ⟨cx, nx, lx⟩ := AtK.cellsW HW.out (a + k) x hsx
      obtain ⟨cy, ny, ly⟩ := AtK.cellsW HW.out (b + k) y hsy
      obtain ⟨x0, x1, x2, x3, x4, x5, x6⟩ := cx
      obtain ⟨y0, y1, y2, y3, y4, y5, y6⟩ := cy
      have HW1 := Lib.hid HW.out
      have wka : IntKind.i64.wrap ((a : Int) + (k : Int)) = ((a + k : Nat) : Int) := by rw [IntKind.wrap_i64]; omega
      have wkb : IntKind.i64.wrap ((b : Int) + (k : Int)) = ((b + k : Nat) : Int) := by rw [IntKind.wrap_i64]; omega
      have ia0 : (0 : Int) ≤ ((a + k : Nat) : Int) := by omega
      have ib0 : (0 : Int) ≤ ((b + k : Nat) : Int) := by omega
      have ia1 : ((a + k : Nat) : Int) < (len : Int) := by omega
      have ib1 : ((b + k : Nat) : Int) < (len : Int) := by omega
      have HLE := Lib.hid hln
      clear hll hpos hln hc
      have hta : ((a : Int) + (k : Int)).toNat = a + k := by omega
      have htb : ((b : Int) + (k : Int)).toNat = b + k := by omega
      have ita : (((a + k : Nat) : Int)).toNat = a + k := by omega
      have itb : (((b + k : Nat) : Int)).toNat = b + k := by omega
      go_wp2_with fail
      go_region
      have O1 := st7_own HW1.out (a + k) lx y ny
      have O2 := st7_own O1 (b + k) (by rw [List.length_set]; exact ly) x nx
      rw [hst] at O2
      have O3 := Lib.hid (O2.ext (Ext.refl _).drew)
      have G3 := Lib.hid (grown_drewG (st7_only (st7_only (show w.grownBy wr (some g) from HG.out) ((a + k) * 7) y) ((b + k) * 7) x))
      obtain ⟨W, hW⟩ : ∃ W, (st7 (st7 wr g ((a + k) * 7) y) g ((b + k) * 7) x).drew = W := ⟨_, rfl⟩
      rw [hW] at O3 G3
      unfold st7 at hW
      rw [hW]
      clear O1 O2 HW1 hW
      go_wp2_with fail
      go_roundw
      case rel => exact ⟨k + 1, by go_num, hlt, O3, G3⟩
      case measure => simp [intOf]; omega
    · have hltz : ¬ (k : Int) < (n : Int) := by omega
      go_wp2
      go_end0
      obtain rfl : k = n := by omega
      have := HW.out
      rw [HA.out] at this
      exact ⟨rfl, this, HG.out⟩
end Go.Proofs.YtkkfkjjmmdpafaaDoor
namespace Go.Proofs.YtkkfkjjmmdpafaaDoor
open Go.RowKit
set_option linter.unusedVariables false

theorem swapRange_at {W0 w : World} {B len c : Nat} {a b n : Int} {A : Option Addr} {cmp : Value} (P X Q Y S : List KlV) (hX : (X.length : Int) = n) (hY : (Y.length : Int) = n) (ha : (P.length : Int) = a) (hb : (P.length : Int) + n + Q.length = b)
    (ho : (ShKW W0).Own B w (.slice A len c) (P ++ (X ++ (Q ++ (Y ++ S))))) (hl : (P ++ (X ++ (Q ++ (Y ++ S)))).length ≤ 64) :
    Calls Tryd.prog 96 #[.slice A len c, .int .i64 a, .int .i64 b, .int .i64 n, cmp] w fun e w' => e = .returned (.tuple #[]) ∧ (ShKW W0).Own B w' (.slice A len c) (P ++ (Y ++ (Q ++ (X ++ S)))) ∧ w.grownBy w' (Value.slice A len c).ownBlock := by
  subst hX ha hb
  have h := swapRange_any (n := X.length) (a := P.length) (b := P.length + X.length + Q.length) (cmp := cmp) P X Q Y S rfl (by omega) rfl rfl ho hl
  push_cast at h
  exact h
set_option maxRecDepth 100000 in
set_option maxHeartbeats 4000000 in
theorem rotate_any {W0 w : World} {B a m b len c : Nat} {A : Option Addr} {cmp : Value} (P U V S : List KlV) (hU : 0 < U.length) (hV : 0 < V.length) (ha : P.length = a) (hm : P.length + U.length = m) (hb : m + V.length = b)
    (ho : (ShKW W0).Own B w (.slice A len c) (P ++ (U ++ (V ++ S)))) (hl : (P ++ (U ++ (V ++ S))).length ≤ 64) :
    Calls Tryd.prog 95 #[.slice A len c, .int .i64 a, .int .i64 m, .int .i64 b, cmp] w fun e w' => e = .returned (.tuple #[]) ∧ (ShKW W0).Own B w' (.slice A len c) (P ++ (V ++ (U ++ S))) ∧ w.grownBy w' (Value.slice A len c).ownBlock := by
  have hl2 : P.length + (U.length + (V.length + S.length)) ≤ 64 := by simpa using hl
  have HL := Lib.hid hl2
  have ham : a ≤ m := by omega
  have hmb : m ≤ b := by omega
  have hb64 : b ≤ 64 := by omega
  have H0 : Hid (∃ L U' V' R : List KlV, U'.length = m - a ∧ V'.length = b - m ∧ P.length + L.length + (m - a) = m ∧ V ++ U = L ++ (V' ++ (U' ++ R)) ∧ (ShKW W0).Own B w (.slice A len c) (P ++ (L ++ (U' ++ (V' ++ (R ++ S)))))) :=
    Lib.hid ⟨[], U, V, [], by omega, by omega, by simp; omega, by simp, by simpa using ho⟩
  have e1 : (m : Int) - (a : Int) = ((m - a : Nat) : Int) := by omega
  have e2 : (b : Int) - (m : Int) = ((b - m : Nat) : Int) := by omega
  have hp0 : 0 < m - a := by omega
  have hq0 : 0 < b - m := by omega
  clear hU hV ha hm hb ho hl hl2
  go_enter Tryd.func95, Tryd.ntmps95
  go_wp2_with fail
  go_loopw [10, 11] (fun i j wr => ∃ p q : Nat, i = .int .i64 p ∧ j = .int .i64 q ∧ 0 < p ∧ 0 < q ∧ p ≤ m ∧ m + q ≤ 64 ∧ Hid (∃ L U' V' R : List KlV, U'.length = p ∧ V'.length = q ∧ P.length + L.length + p = m ∧ V ++ U = L ++ (V' ++ (U' ++ R)) ∧ (ShKW W0).Own B wr (.slice A len c) (P ++ (L ++ (U' ++ (V' ++ (R ++ S)))))) ∧ Hid (w.grownBy wr (Value.slice A len c).ownBlock)) (fun i j _ => (intOf i).toNat + (intOf j).toNat)
  case atStart => exact ⟨m - a, b - m, by go_num, by go_num, hp0, hq0, by omega, by omega, H0, Lib.hid (World.grownBy.refl _ _)⟩
  case round =>
    obtain ⟨p, q, rfl, rfl, hp, hq, hpm, hqm, HI, HG⟩ := hrel
    rename World => wr
    clear H0 e1 e2
    by_cases hpq : p = q
    · have hz : (p : Int) = (q : Int) := by omega
      go_wp2_with fail
      obtain ⟨L, U', V', R, q1, q2, q3, q4, q5⟩ := HI.out
      have hs : P.length + (L.length + (U'.length + (V'.length + (R.length + S.length)))) ≤ 64 := by
        have h1 := congrArg List.length q4
        simp only [List.length_append] at h1
        have := HL.out
        omega
      refine (swapRange_at (W0 := W0) (B := B) (P ++ L) U' [] V' (R ++ S) (by omega) (by omega) (by simp; omega) (by simp; omega) (by simpa using q5) (by simpa using hs)).mono ?_
      rintro e w' ⟨rfl, h1, h2⟩
      have HO := Lib.hid h1
      have HG2 := Lib.hid (HG.out.trans h2)
      clear h1 h2 q1 q2 q3 q5
      go_wp2
      go_end0
      refine ⟨rfl, ?_, HG2.out⟩
      have e : P ++ (V ++ (U ++ S)) = P ++ (V ++ U ++ S) := by simp
      rw [e, q4]
      simpa using HO.out
    · have hz : ¬ (p : Int) = (q : Int) := by omega
      by_cases hlt : q < p
      · have hltz : (q : Int) < (p : Int) := by omega
        go_wp2_with fail
        obtain ⟨L, U', V', R, q1, q2, q3, q4, q5⟩ := HI.out
        have hs : P.length + (L.length + (U'.length + (V'.length + (R.length + S.length)))) ≤ 64 := by
          have h1 := congrArg List.length q4
          simp only [List.length_append] at h1
          have := HL.out
          omega
        have e1 : U'.take q ++ U'.drop q = U' := List.take_append_drop _ _
        have l1 : (U'.take q).length = q := by simp; omega
        have l2 : (U'.drop q).length = p - q := by simp; omega
        generalize U'.take q = X at e1 l1
        generalize U'.drop q = Q at e1 l2
        subst e1
        refine (swapRange_at (W0 := W0) (B := B) (P ++ L) X Q V' (R ++ S) (by omega) (by omega) (by simp; omega) (by simp; omega) (by simpa using q5) (by simp at hs ⊢; omega)).mono ?_
        rintro e w' ⟨rfl, h1, h2⟩
        have HO : Hid (∃ L U' V' R : List KlV, U'.length = p - q ∧ V'.length = q ∧ P.length + L.length + (p - q) = m ∧ V ++ U = L ++ (V' ++ (U' ++ R)) ∧ (ShKW W0).Own B w' (.slice A len c) (P ++ (L ++ (U' ++ (V' ++ (R ++ S)))))) :=
          Lib.hid ⟨L ++ V', Q, X, R, l2, l1, by simp; omega, by rw [q4]; simp, by simpa using h1⟩
        have HG2 := Lib.hid (HG.out.trans h2)
        clear h1 h2 q1 q2 q3 q5 q4 hs l1 l2 HI HG
        go_wp2_with fail
        go_roundw
        case rel => exact ⟨p - q, q, by go_num, rfl, by omega, by omega, by omega, by omega, HO, HG2⟩
        case measure => simp [intOf]; omega
      · have hltz : ¬ (q : Int) < (p : Int) := by omega
        go_wp2_with fail
        obtain ⟨L, U', V', R, q1, q2, q3, q4, q5⟩ := HI.out
        have hs : P.length + (L.length + (U'.length + (V'.length + (R.length + S.length)))) ≤ 64 := by
          have h1 := congrArg List.length q4
          simp only [List.length_append] at h1
          have := HL.out
          omega
        have e1 : V'.take (q - p) ++ V'.drop (q - p) = V' := List.take_append_drop _ _
        have l1 : (V'.take (q - p)).length = q - p := by simp; omega
        have l2 : (V'.drop (q - p)).length = p := by simp; omega
        generalize V'.take (q - p) = Q at e1 l1
        generalize V'.drop (q - p) = Y at e1 l2
        subst e1
        refine (swapRange_at (W0 := W0) (B := B) (P ++ L) U' Q Y (R ++ S) (by omega) (by omega) (by simp; omega) (by simp; omega) (by simpa using q5) (by simp at hs ⊢; omega)).mono ?_
        rintro e w' ⟨rfl, h1, h2⟩
        have HO : Hid (∃ L U' V' R : List KlV, U'.length = p ∧ V'.length = q - p ∧ P.length + L.length + p = m ∧ V ++ U = L ++ (V' ++ (U' ++ R)) ∧ (ShKW W0).Own B w' (.slice A len c) (P ++ (L ++ (U' ++ (V' ++ (R ++ S)))))) :=
          Lib.hid ⟨L, Y, Q, U' ++ R, l2, l1, by omega, by rw [q4]; simp, by simpa using h1⟩
        have HG2 := Lib.hid (HG.out.trans h2)
        clear h1 h2 q1 q2 q3 q5 q4 hs l1 l2 HI HG
        go_wp2_with fail
        go_roundw
        case rel => exact ⟨p, q - p, rfl, by go_num, by omega, by omega, by omega, by omega, HO, HG2⟩
        case measure => simp [intOf]; omega
end Go.Proofs.YtkkfkjjmmdpafaaDoor
namespace Go.Proofs.YtkkfkjjmmdpafaaDoor
open Go.RowKit
set_option linter.unusedVariables false

def cfK (x y : KlV) : Int := Lib.compareBytes x.k.nm.data.toList y.k.nm.data.toList
def cbK (x y : KlV) : Bool := nlt x.k.nm y.k.nm
theorem cf_neg (x y : KlV) : decide (cfK x y < 0) = cbK x y := nlt_cmp _ _
theorem cf_yes {x y : KlV} (h : cbK x y = true) : cfK x y < 0 := by rw [← cf_neg] at h; exact of_decide_eq_true h
theorem cf_no {x y : KlV} (h : cbK x y = false) : ¬ cfK x y < 0 := by rw [← cf_neg] at h; exact of_decide_eq_false h
theorem swoK : SWO cbK := ⟨fun a => nlt_irr _, fun a b d h1 h2 => bl_tr _ _ _ h1 h2, fun a b d h1 h2 => nlt_ntr h1 h2⟩
set_option maxRecDepth 100000 in
theorem scompare_any (a b : ByteArray) (w : World) :
    Calls Tryd.prog 66 #[.string a, .string b] w fun e w' => e = .returned (.int .i64 (Lib.compareBytes a.data.toList b.data.toList)) ∧ w = w' := by
  have HR := Lib.hid (Lib.run_compareString (P := Tryd.prog) a b w)
  obtain ⟨r, hr⟩ : ∃ r, Lib.compareBytes a.data.toList b.data.toList = r := ⟨_, rfl⟩
  rw [hr] at HR ⊢
  clear hr
  go_enter Tryd.func66, Tryd.ntmps66
  go_wp2
  rw [run_callFunc_extern Tryd.func94 (by kernel_rfl) (by kernel_rfl) (by kernel_rfl) (e := Extern.BytealgCompare.compare) (by kernel_rfl), HR.out]
  simp only [Result.andThen]
  rw [Oper.upon_value]
  go_wp2
  go_ret
  exact ⟨rfl, rfl⟩
theorem grown_allocG {w w' : World} {row : Option Nat} (h : w.grownBy w' row) (o : Obj) : w.grownBy (w'.alloc o) row :=
  ⟨h.os, h.tape, h.output, Nat.le_trans h.size (by simp), fun k hk hne => (heap_alloc_old w' o (Nat.lt_of_lt_of_le hk h.size)).trans (h.block k hk hne)⟩
set_option maxRecDepth 100000 in
theorem cmp_any (x y : KlV) (w : World) :
    Calls Tryd.prog 65 #[.agg x.vals, .agg y.vals] w fun e w' => e = .returned (.int .i64 (cfK x y)) ∧ w.grownBy w' none := by
  have HC := Lib.hid (fun W => scompare_any x.k.nm y.k.nm W)
  obtain ⟨r, hr⟩ : ∃ r, cfK x y = r := ⟨_, rfl⟩
  unfold cfK at hr
  rw [hr] at HC
  unfold cfK
  rw [hr]
  clear hr
  unfold KlV.vals
  go_enter Tryd.func65, Tryd.ntmps65
  go_wp2_with fail
  refine (HC.out _).mono ?_
  rintro e w' ⟨rfl, rfl⟩
  go_wp2
  go_ret
  refine ⟨rfl, ?_⟩
  exact grown_allocG (grown_allocG (World.grownBy.refl w none) _) _
end Go.Proofs.YtkkfkjjmmdpafaaDoor
namespace Go.Proofs.YtkkfkjjmmdpafaaDoor
open Go.RowKit
set_option linter.unusedVariables false

def OwnT (W0 : World) (B : Nat) (w : World) (A : Option Addr) (len c : Nat) (T : List (KlV × Nat)) : Prop := (ShKW W0).Own B w (.slice A len c) (T.map Prod.fst)
abbrev tK : KlV × Nat → KlV × Nat → Prop := tl cbK
abbrev cmpV : Value := .func (.func 65) #[] #[]
section
variable {W0 w : World} {B len c : Nat} {A : Option Addr} {T : List (KlV × Nat)}
theorem OwnT.head (h : OwnT W0 B w A len c T) (hl : 0 < T.length) : ∃ g, A = some ⟨g, 0, none⟩ ∧ len = T.length ∧ T.length ≤ c ∧ (∀ j, w.frozen? ⟨g, j, none⟩ = false) := by
  have := own_some (l := T.map Prod.fst) h (by simpa using hl)
  simpa using this
theorem OwnT.at {g : Nat} (h : OwnT W0 B w (some ⟨g, 0, none⟩) len c T) (j : Nat) (x : KlV × Nat) (hx : T[j]? = some x) : AtK w g (j * 7) x.1 ∧ NestK W0 x.1 ∧ j < T.length := by
  have := AtK.cellsW h j x.1 (by rw [List.getElem?_map, hx]; rfl)
  simpa using this
theorem AtK.ext {b o : Nat} {e : KlV} {w' : World} (h : AtK w b o e) (hx : Ext w w') (hb : b < w.heap.size) : AtK w' b o e := by
  obtain ⟨h0, h1, h2, h3, h4, h5, h6⟩ := h
  exact ⟨(hx.cell (p := ⟨b, o, none⟩) hb).trans h0, (hx.cell (p := ⟨b, o + 1, none⟩) hb).trans h1, (hx.cell (p := ⟨b, o + 2, none⟩) hb).trans h2, (hx.cell (p := ⟨b, o + 3, none⟩) hb).trans h3, (hx.cell (p := ⟨b, o + 4, none⟩) hb).trans h4, (hx.cell (p := ⟨b, o + 5, none⟩) hb).trans h5, (hx.cell (p := ⟨b, o + 6, none⟩) hb).trans h6⟩
theorem grown_extG {a b' d : World} {row : Option Nat} (h : a.grownBy b' row) (e : Ext b' d) : a.grownBy d row := ⟨e.os.trans h.os, e.tape.trans h.tape, e.output.trans h.output, Nat.le_trans h.size e.size, fun k hk hne => (e.block k (Nat.lt_of_lt_of_le hk h.size)).trans (h.block k hk hne)⟩
theorem OwnT.ext {w' : World} (h : OwnT W0 B w A len c T) (e : Ext w w') : OwnT W0 B w' A len c T := Shp.Own.ext h e
theorem OwnT.swap {g : Nat} {P S : List (KlV × Nat)} {y x : KlV × Nat} (h : OwnT W0 B w (some ⟨g, 0, none⟩) len c (P ++ y :: x :: S)) (ny : NestK W0 y.1) (nx : NestK W0 x.1) :
    OwnT W0 B (st7 (st7 w g ((P.length + 1) * 7) y.1) g (P.length * 7) x.1).drew (some ⟨g, 0, none⟩) len c (P ++ x :: y :: S) := by
  have h1 := st7_own (l := (P ++ y :: x :: S).map Prod.fst) h (P.length + 1) (by simp) y.1 ny
  have h2 := st7_own h1 P.length (by simp) x.1 nx
  have e : (((P ++ y :: x :: S).map Prod.fst).set (P.length + 1) y.1).set P.length x.1 = (P ++ x :: y :: S).map Prod.fst := by simp
  rw [e] at h2
  exact Shp.Own.ext h2 (Ext.refl _).drew
theorem OwnT.swap' {g : Nat} {P S : List (KlV × Nat)} {y x : KlV × Nat} (h : OwnT W0 B w (some ⟨g, 0, none⟩) len c (P ++ y :: x :: S)) (ny : NestK W0 y.1) (nx : NestK W0 x.1) :
    OwnT W0 B (st7 (st7 w g (P.length * 7) x.1) g ((P.length + 1) * 7) y.1).drew (some ⟨g, 0, none⟩) len c (P ++ x :: y :: S) := by
  have h1 := st7_own (l := (P ++ y :: x :: S).map Prod.fst) h P.length (by simp) x.1 nx
  have h2 := st7_own h1 (P.length + 1) (by simp) y.1 ny
  have e : (((P ++ y :: x :: S).map Prod.fst).set P.length x.1).set (P.length + 1) y.1 = (P ++ x :: y :: S).map Prod.fst := by simp
  rw [e] at h2
  exact Shp.Own.ext h2 (Ext.refl _).drew
end
set_option maxRecDepth 100000 in
set_option maxHeartbeats 4000000 in
theorem insertion_any {W0 w : World} {B a b len c : Nat} {A : Option Addr} (P X S : List (KlV × Nat)) (ha : P.length = a) (hb : a + X.length = b) (ht : Tg X) (ho : OwnT W0 B w A len c (P ++ (X ++ S))) (hl : (P ++ (X ++ S)).length ≤ 64) :
    Calls Tryd.prog 92 #[.slice A len c, .int .i64 a, .int .i64 b, cmpV] w fun e w' => e = .returned (.tuple #[]) ∧ (∃ C, Sd cbK X C ∧ OwnT W0 B w' A len c (P ++ (C ++ S))) ∧ w.grownBy w' (Value.slice A len c).ownBlock := by
  have hl2 : P.length + (X.length + S.length) ≤ 64 := by simpa using hl
  have hb64 : b ≤ 64 := by omega
  have HL := Lib.hid (And.intro ha (And.intro hb hl2))
  have HT := Lib.hid ht
  have H0 : Hid (∃ X1 X2 C1, X = X1 ++ X2 ∧ (X1.length = a + 1 - a ∨ X = []) ∧ Sd cbK X1 C1 ∧ OwnT W0 B w A len c (P ++ (C1 ++ (X2 ++ S)))) := by
    rcases X with _ | ⟨x, X⟩
    · exact ⟨[], [], [], rfl, .inr rfl, Sd.nil, ho⟩
    · exact ⟨[x], X, [x], rfl, .inl (by simp), ⟨Srt.one x, List.Perm.refl _⟩, ho⟩
  have ha64 : a ≤ 64 := by omega
  clear ha hb ht ho hl hl2
  go_enter Tryd.func92, Tryd.ntmps92
  go_wp2_with fail
  go_loopw [8] (fun i wr => ∃ k : Nat, i = .int .i64 k ∧ a + 1 ≤ k ∧ k ≤ 65 ∧ Hid (∃ X1 X2 C1, X = X1 ++ X2 ∧ (X1.length = k - a ∨ X = []) ∧ Sd cbK X1 C1 ∧ OwnT W0 B wr A len c (P ++ (C1 ++ (X2 ++ S)))) ∧ Hid (w.grownBy wr (Value.slice A len c).ownBlock)) (fun i _ => 65 - (intOf i).toNat)
  case atStart => exact ⟨a + 1, by go_num, Nat.le_refl _, by have := HL.out; omega, H0, Lib.hid (World.grownBy.refl _ _)⟩
  case round =>
    obtain ⟨k, rfl, hak, hk65, HI, HG⟩ := hrel
    rename World => wr
    clear H0
    by_cases hlt : k < b
    · have hltz : (k : Int) < (b : Int) := by omega
      obtain ⟨X1, X2, C1, q1, q2, q3, q4⟩ := HI.out
      have hX2 : ∃ x X2', X2 = x :: X2' := by
        rcases X2 with _ | ⟨x, X2'⟩
        · exfalso
          obtain ⟨h1, h2, h3⟩ := HL.out
          rw [List.append_nil] at q1
          rcases q2 with q2 | q2
          · rw [← q1] at q2; omega
          · rw [q2] at h2; simp at h2; omega
        · exact ⟨x, X2', rfl⟩
      obtain ⟨x, X2', rfl⟩ := hX2
      have hX1 : X1.length = k - a := by
        rcases q2 with q2 | q2
        · exact q2
        · rw [q2] at q1; simp at q1
      have hC1 : C1.length = k - a := q3.len.trans hX1
      have htg : ∀ z, z ∈ X1 → ∀ y, y ∈ [x] → z.2 < y.2 := by
        have h1 := HT.out
        rw [q1] at h1
        intro z hz y hy
        rw [List.mem_singleton.1 hy]
        exact h1.app.2.2 z hz x (List.mem_cons_self ..)
      have HAG := Lib.hid (Sd.agr (cb := cbK) htg q3 (⟨Srt.one x, List.Perm.refl _⟩ : Sd cbK [x] [x]))
      have HOUT : Hid (∀ (A' B' : List (KlV × Nat)) (ws : World), C1 = A' ++ B' → (∀ y ∈ A', tK y x) → (∀ y ∈ B', tK x y) → OwnT W0 B ws A len c (P ++ (A' ++ (x :: (B' ++ (X2' ++ S))))) →
          ∃ X1 X2 C1, X = X1 ++ X2 ∧ (X1.length = k + 1 - a ∨ X = []) ∧ Sd cbK X1 C1 ∧ OwnT W0 B ws A len c (P ++ (C1 ++ (X2 ++ S)))) := by
        show ∀ _, _
        intro A' B' ws e hA hB h
        subst e
        refine ⟨X1 ++ [x], X2', A' ++ x :: B', by rw [q1]; simp, .inl (by simp; omega), ⟨ins_done q3.1 hA hB, ?_⟩, by simpa using h⟩
        exact List.perm_middle.trans ((q3.2.cons x).trans (by simpa using (List.perm_append_comm (l₁ := [x]) (l₂ := X1))))
      have HIN : Hid (∃ A' B' : List (KlV × Nat), C1 = A' ++ B' ∧ P.length + A'.length = k ∧ (∀ y ∈ B', tK x y) ∧ OwnT W0 B wr A len c (P ++ (A' ++ (x :: (B' ++ (X2' ++ S)))))) :=
        Lib.hid ⟨C1, [], by simp, by have := HL.out; omega, fun y hy => by (cases hy), by simpa using q4⟩
      have HS := Lib.hid q3.1
      have HC1 := Lib.hid hC1
      clear HI q1 q2 q3 q4 hX1 hC1 htg
      go_wp2_with fail
      go_loopw [9] (fun j ws => ∃ m : Nat, j = .int .i64 m ∧ a ≤ m ∧ m ≤ k ∧ Hid (∃ A' B' : List (KlV × Nat), C1 = A' ++ B' ∧ P.length + A'.length = m ∧ (∀ y ∈ B', tK x y) ∧ OwnT W0 B ws A len c (P ++ (A' ++ (x :: (B' ++ (X2' ++ S)))))) ∧ Hid (w.grownBy ws (Value.slice A len c).ownBlock)) (fun j _ => (intOf j).toNat)
      case atStart => exact ⟨k, rfl, by omega, Nat.le_refl _, HIN, HG⟩
      case round =>
        obtain ⟨m, rfl, ham, hmk, HJ, HGs⟩ := hrel
        rename World => ws
        clear HIN HG
        by_cases hma : a < m
        · have hmaz : (a : Int) < (m : Int) := by omega
          obtain ⟨A', B', r1, r2, r3, r4⟩ := HJ.out
          have hA' : ∃ A'' y, A' = A'' ++ [y] := by
            rcases List.eq_nil_or_concat A' with h | ⟨A'', y, h⟩
            · rw [h] at r2; have := HL.out; simp at r2; omega
            · exact ⟨A'', y, by simpa using h⟩
          obtain ⟨A'', y, rfl⟩ := hA'
          have rl : (P ++ A'').length + 1 = m := by simp at r2 ⊢; omega
          have r5 : OwnT W0 B ws A len c ((P ++ A'') ++ y :: x :: (B' ++ (X2' ++ S))) := by simpa using r4
          obtain ⟨g, rfl, hln, hc0, hfr⟩ := r5.head (by simp; omega)
          have hlen : m < len := by rw [hln]; simp at rl ⊢; omega
          obtain ⟨c1, n1, -⟩ := r5.at (P ++ A'').length y (by simp)
          obtain ⟨c2, n2, -⟩ := r5.at ((P ++ A'').length + 1) x (by rw [List.getElem?_append_right (by omega)]; simp)
          have hy : tK y x ∧ cbK x.1 y.1 = false ∨ tK x y ∧ cbK x.1 y.1 = true := by
            have h1 := HAG.out y (by rw [r1]; simp) x (List.mem_singleton.2 rfl)
            cases e : cbK x.1 y.1
            · exact .inl ⟨h1.2 e, rfl⟩
            · exact .inr ⟨h1.1 e, rfl⟩
          have HR5 := Lib.hid r5
          have HN := Lib.hid (And.intro n1 n2)
          have HR1 := Lib.hid r1
          have HR3 := Lib.hid r3
          have HR4 := Lib.hid r4
          have hgb : g < ws.heap.size := (Shp.Own.high (S := ShKW W0) r5) g rfl
          obtain ⟨p, hp⟩ : ∃ p, (P ++ A'').length = p := ⟨_, rfl⟩
          rw [hp] at rl c1 c2
          have HP := Lib.hid hp
          obtain rfl : m = p + 1 := by omega
          have hap : (a : Int) < (p : Int) + 1 := by omega
          have hpl : (p : Int) + 1 < (len : Int) := by omega
          have hpl0 : (p : Int) < (len : Int) := by omega
          have p0 : (0 : Int) ≤ (p : Int) + 1 := by omega
          have p1 : ((p : Int) + 1).toNat = p + 1 := by omega
          have hwp : IntKind.i64.wrap (p : Int) = (p : Int) := by rw [IntKind.wrap_i64]; omega
          obtain ⟨x', hx'⟩ : ∃ x', x.1 = x' := ⟨_, rfl⟩
          obtain ⟨y', hy'⟩ : ∃ y', y.1 = y' := ⟨_, rfl⟩
          have HXY := Lib.hid (And.intro hx' hy')
          rw [hx'] at c2
          rw [hy'] at c1
          have HG1 := Lib.hid (show w.grownBy ws (some g) from HGs.out)
          have HC := Lib.hid (fun W => cmp_any x' y' W)
          have HF := Lib.hid (fun W (e : Ext ws W) => And.intro (c1.ext e hgb) (c2.ext e hgb))
          have e1 := (Ext.refl ws).drew
          have f0 := HF.out _ e1
          unfold AtK at f0
          have hneg : (tK y x ∧ ¬ cfK x' y' < 0) ∨ (tK x y ∧ cfK x' y' < 0) := by
            rcases hy with ⟨h1, h2⟩ | ⟨h1, h2⟩
            · rw [hx', hy'] at h2; exact .inl ⟨h1, cf_no h2⟩
            · rw [hx', hy'] at h2; exact .inr ⟨h1, cf_yes h2⟩
          obtain ⟨r, hr⟩ : ∃ r, cfK x' y' = r := ⟨_, rfl⟩
          rw [hr] at hneg HC
          clear r1 r2 r3 r4 r5 hln hc0 n1 n2 hp hx' hy' hr c1 c2 hy HJ HGs hgb
          unfold KlV.vals at HC
          rcases hneg with ⟨ht, hneg⟩ | ⟨ht, hneg⟩
          · have HTT := Lib.hid ht
            clear ht
            go_wp2_with fail
            go_region_held3 (fun w' => w'.cell? ⟨g, p * 7, none⟩ = some (.slice y'.vp.A y'.vp.n y'.vp.c) ∧ w'.cell? ⟨g, p * 7 + 1, none⟩ = some (.string y'.k.nm) ∧ w'.cell? ⟨g, p * 7 + 2, none⟩ = some (.string y'.k.sup) ∧ w'.cell? ⟨g, p * 7 + 3, none⟩ = some (.bool y'.k.inf) ∧ w'.cell? ⟨g, p * 7 + 4, none⟩ = some (.slice y'.vi.A y'.vi.n y'.vi.c) ∧ w'.cell? ⟨g, p * 7 + 5, none⟩ = some (.slice y'.vf.A y'.vf.n y'.vf.c) ∧ w'.cell? ⟨g, p * 7 + 6, none⟩ = some (.slice y'.vm.A y'.vm.n y'.vm.c) ∧ w'.cell? ⟨g, (p + 1) * 7, none⟩ = some (.slice x'.vp.A x'.vp.n x'.vp.c) ∧ w'.cell? ⟨g, (p + 1) * 7 + 1, none⟩ = some (.string x'.k.nm) ∧ w'.cell? ⟨g, (p + 1) * 7 + 2, none⟩ = some (.string x'.k.sup) ∧ w'.cell? ⟨g, (p + 1) * 7 + 3, none⟩ = some (.bool x'.k.inf) ∧ w'.cell? ⟨g, (p + 1) * 7 + 4, none⟩ = some (.slice x'.vi.A x'.vi.n x'.vi.c) ∧ w'.cell? ⟨g, (p + 1) * 7 + 5, none⟩ = some (.slice x'.vf.A x'.vf.n x'.vf.c) ∧ w'.cell? ⟨g, (p + 1) * 7 + 6, none⟩ = some (.slice x'.vm.A x'.vm.n x'.vm.c)) (first | go_keep | with_reducible assumption | assumption) (first
              | (go_at_call 65; (with_reducible refine (HC.out _).mono ?_); rintro e w5 ⟨rfl, x5⟩; have e5 := e1.grown x5 (fun g h => by cases h); have f1 := HF.out w5 e5; unfold AtK at f1))
            go_wp2_with fail
            have HNX : Hid (∃ X1 X2 C1, X = X1 ++ X2 ∧ (X1.length = k + 1 - a ∨ X = []) ∧ Sd cbK X1 C1 ∧ OwnT W0 B w5 (some ⟨g, 0, none⟩) len c (P ++ (C1 ++ (X2 ++ S)))) := by
              refine HOUT.out (A'' ++ [y]) B' w5 HR1.out ?_ HR3.out (HR4.out.ext e5)
              have h1 := HS.out
              rw [HR1.out] at h1
              exact last_all (tl_tr swoK) h1 HTT.out
            have HG5 := Lib.hid (grown_extG HG1.out e5)
            clear f1 f0 x5 e5 e1
            go_roundw
            case rel => exact ⟨k + 1, by go_num, by omega, by omega, HNX, HG5⟩
            case measure => first | (simp [intOf]; omega) | simp [intOf]
          · have HTT := Lib.hid ht
            clear ht
            go_wp2_with fail
            go_region_held3 (fun w' => w'.cell? ⟨g, p * 7, none⟩ = some (.slice y'.vp.A y'.vp.n y'.vp.c) ∧ w'.cell? ⟨g, p * 7 + 1, none⟩ = some (.string y'.k.nm) ∧ w'.cell? ⟨g, p * 7 + 2, none⟩ = some (.string y'.k.sup) ∧ w'.cell? ⟨g, p * 7 + 3, none⟩ = some (.bool y'.k.inf) ∧ w'.cell? ⟨g, p * 7 + 4, none⟩ = some (.slice y'.vi.A y'.vi.n y'.vi.c) ∧ w'.cell? ⟨g, p * 7 + 5, none⟩ = some (.slice y'.vf.A y'.vf.n y'.vf.c) ∧ w'.cell? ⟨g, p * 7 + 6, none⟩ = some (.slice y'.vm.A y'.vm.n y'.vm.c) ∧ w'.cell? ⟨g, (p + 1) * 7, none⟩ = some (.slice x'.vp.A x'.vp.n x'.vp.c) ∧ w'.cell? ⟨g, (p + 1) * 7 + 1, none⟩ = some (.string x'.k.nm) ∧ w'.cell? ⟨g, (p + 1) * 7 + 2, none⟩ = some (.string x'.k.sup) ∧ w'.cell? ⟨g, (p + 1) * 7 + 3, none⟩ = some (.bool x'.k.inf) ∧ w'.cell? ⟨g, (p + 1) * 7 + 4, none⟩ = some (.slice x'.vi.A x'.vi.n x'.vi.c) ∧ w'.cell? ⟨g, (p + 1) * 7 + 5, none⟩ = some (.slice x'.vf.A x'.vf.n x'.vf.c) ∧ w'.cell? ⟨g, (p + 1) * 7 + 6, none⟩ = some (.slice x'.vm.A x'.vm.n x'.vm.c)) (first | go_keep | with_reducible assumption | assumption) (first
              | (go_at_call 65; (with_reducible refine (HC.out _).mono ?_); rintro e w5 ⟨rfl, x5⟩; have e5 := e1.grown x5 (fun g h => by cases h); have f1 := HF.out w5 e5; unfold AtK at f1))
            go_wp2_with fail
            have R5 := HR5.out.ext e5
            have hfr5 : ∀ j, w5.frozen? ⟨g, j, none⟩ = false := by
              obtain ⟨g2, h1, -, -, h2⟩ := R5.head (by simp; omega)
              injection h1 with h1
              injection h1 with h1
              subst h1
              exact h2
            have O3 := Lib.hid (R5.swap HN.out.1 HN.out.2)
            have G3 := Lib.hid (grown_drewG (st7_only (st7_only (grown_extG HG1.out e5) ((p + 1) * 7) y') (p * 7) x'))
            rw [HP.out, HXY.out.1, HXY.out.2] at O3
            obtain ⟨x0, x1, x2, x3, x4, x5, x6⟩ := f1.1
            obtain ⟨y0, y1, y2, y3, y4, y5, y6⟩ := f1.2
            obtain ⟨W, hW⟩ : ∃ W, (st7 (st7 w5 g ((p + 1) * 7) y') g (p * 7) x').drew = W := ⟨_, rfl⟩
            rw [hW] at O3 G3
            unfold st7 at hW
            clear f1 f0 R5 e5 e1
            go_region
            try rw [hW]
            have HNX : Hid (∃ A' B' : List (KlV × Nat), C1 = A' ++ B' ∧ P.length + A'.length = p ∧ (∀ y ∈ B', tK x y) ∧ OwnT W0 B W (some ⟨g, 0, none⟩) len c (P ++ (A' ++ (x :: (B' ++ (X2' ++ S)))))) :=
              Lib.hid ⟨A'', y :: B', by rw [HR1.out]; simp, by have := HP.out; simpa using this, ins_more HR3.out HTT.out, by simpa using O3.out⟩
            clear hW x0 x1 x2 x3 x4 x5 x6 y0 y1 y2 y3 y4 y5 y6 hfr5
            go_wp2_with fail
            go_roundw
            case rel => exact ⟨p, by go_num, by omega, by omega, HNX, G3⟩
            case measure => first | (simp [intOf]; omega) | simp [intOf]
        · have hmaz : ¬ (a : Int) < (m : Int) := by omega
          obtain ⟨A', B', r1, r2, r3, r4⟩ := HJ.out
          have hA0 : A' = [] := List.eq_nil_of_length_eq_zero (by have := HL.out; omega)
          have HN := Lib.hid (HOUT.out A' B' ws r1 (fun z hz => by rw [hA0] at hz; cases hz) r3 r4)
          clear r1 r2 r3 r4 hA0 HJ
          go_wp2_with fail
          go_quiet (fail)
          have e5 := (Ext.refl ws).drewN nq
          have HN5 : Hid (∃ X1 X2 C1, X = X1 ++ X2 ∧ (X1.length = k + 1 - a ∨ X = []) ∧ Sd cbK X1 C1 ∧ OwnT W0 B (ws.drewN nq) A len c (P ++ (C1 ++ (X2 ++ S)))) := by
            obtain ⟨X1, X2, C1, h1, h2, h3, h4⟩ := HN.out
            exact Lib.hid ⟨X1, X2, C1, h1, h2, h3, h4.ext e5⟩
          have HG5 := Lib.hid (grown_extG HGs.out e5)
          go_wp2_with fail
          go_roundw
          case rel => exact ⟨k + 1, by go_num, by omega, by omega, HN5, HG5⟩
          case measure => first | (simp [intOf]; omega) | simp [intOf]
    · have hltz : ¬ (k : Int) < (b : Int) := by omega
      go_wp2
      go_end0
      obtain ⟨X1, X2, C1, q1, q2, q3, q4⟩ := HI.out
      have hX2 : X2 = [] := by
        obtain ⟨h1, h2, h3⟩ := HL.out
        have := congrArg List.length q1
        rw [List.length_append] at this
        rcases q2 with q2 | q2
        · exact List.eq_nil_of_length_eq_zero (by omega)
        · rw [q2] at q1; exact (List.append_eq_nil_iff.1 q1.symm).2
      subst hX2
      rw [List.append_nil] at q1
      subst q1
      exact ⟨rfl, ⟨C1, q3, by simpa using q4⟩, HG.out⟩
end Go.Proofs.YtkkfkjjmmdpafaaDoor
