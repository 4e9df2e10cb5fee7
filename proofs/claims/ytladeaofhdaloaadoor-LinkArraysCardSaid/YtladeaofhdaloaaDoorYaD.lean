/- Several texts of this proof, one behind the other. -/
import Derived.Test.YtladeaofhdaloaaDoorYaA
import Derived.Test.YtladeaofhdaloaaDoorYaC
import Derived.Test.YtladeaofhdaloaaDoorYaB
import Derived.Maps.OwnSet
import Derived.Maps.Views
import Derived.Test.YtladeaofhdaloaaDoorProg
import Derived.StringKeys
namespace Go.Proofs.YtladeaofhdaloaaDoor
open Go.RowKit
set_option linter.unusedVariables false

theorem set_grownK (w : World) (b j : Nat) (u : Value) : w.grownBy (w.setCell ⟨b, j, none⟩ u) (some b) := only_set (World.grownBy.refl w (some b)) j u
section
variable {α : Type} {S : Shp α} {w w' : World} {B : Nat} {v : Value} {l : List α}
theorem Shp.flat_some (l : List α) (q : Nat) (h : q < l.length * S.n) : (l.flatMap fun x => (S.vals x).toList)[q]? = (S.vals (S.el l (q / S.n)))[q % S.n]? := by
  have hp := S.pos
  have hq : q / S.n < l.length := by rw [Nat.div_lt_iff_lt_mul hp]; exact h
  have e : q = q / S.n * S.n + q % S.n := by have := Nat.div_add_mod q S.n; rw [Nat.mul_comm] at this; omega
  have := S.flat_at l (q / S.n) (q % S.n) hq (Nat.mod_lt q hp)
  rw [← e] at this
  exact this
theorem Shp.flat_set (l : List α) (j i : Nat) (hj : j < l.length) (hi : i < S.n) (u : Value) (x' : α) (hv : S.vals x' = (S.vals (S.el l j)).setIfInBounds i u) :
    ((l.set j x').flatMap fun x => (S.vals x).toList) = (l.flatMap fun x => (S.vals x).toList).set (j * S.n + i) u := by
  have hp := S.pos
  apply List.ext_getElem?
  intro q
  rw [List.getElem?_set]
  rcases Nat.lt_or_ge q (l.length * S.n) with h | h
  · rw [S.flat_some _ q (by rw [List.length_set]; exact h), S.flat_some l q h]
    have hq : q / S.n < l.length := by rw [Nat.div_lt_iff_lt_mul hp]; exact h
    have hr := Nat.mod_lt q hp
    have e : q = q / S.n * S.n + q % S.n := by have := Nat.div_add_mod q S.n; rw [Nat.mul_comm] at this; omega
    by_cases hjq : q / S.n = j
    · have e1 : S.el (l.set j x') (q / S.n) = x' := by
        unfold Shp.el
        rw [hjq, List.getD_eq_getElem?_getD, List.getElem?_set_self hj]
        rfl
      rw [e1, hv, hjq]
      by_cases hiq : j * S.n + i = q
      · have hiq' : i = q % S.n := by rw [hjq] at e; omega
        rw [if_pos hiq, ← hiq', Array.getElem?_setIfInBounds_self_of_lt (by rw [S.size]; exact hi)]
        simp only [S.flat_len]
        rw [if_pos (by omega)]
      · have hiq' : i ≠ q % S.n := by intro h2; rw [hjq] at e; omega
        rw [if_neg hiq, Array.getElem?_setIfInBounds_ne hiq']
    · have e1 : S.el (l.set j x') (q / S.n) = S.el l (q / S.n) := by
        unfold Shp.el
        rw [List.getD_eq_getElem?_getD, List.getD_eq_getElem?_getD, List.getElem?_set_ne (fun h => hjq h.symm)]
      have hiq : ¬ j * S.n + i = q := by
        intro h2
        apply hjq
        rw [← h2, Nat.mul_comm, Nat.mul_add_div hp, Nat.div_eq_of_lt hi]
        rfl
      rw [e1, if_neg hiq]
  · have n1 : ((l.set j x').flatMap fun x => (S.vals x).toList)[q]? = none := List.getElem?_eq_none (by rw [S.flat_len, List.length_set]; exact h)
    have n2 : (l.flatMap fun x => (S.vals x).toList)[q]? = none := List.getElem?_eq_none (by rw [S.flat_len]; exact h)
    have hlt : j * S.n + i < l.length * S.n := by
      have := Nat.mul_le_mul_right S.n (show j + 1 ≤ l.length from hj)
      rw [Nat.add_mul] at this
      omega
    rw [n1, n2, if_neg (by omega)]
theorem Shp.Own.setCell {g n c : Nat} (h : S.Own B w (.slice (some ⟨g, 0, none⟩) n c) l) (j i : Nat) (hj : j < l.length) (hi : i < S.n) (u : Value) (x' : α) (hv : S.vals x' = (S.vals (S.el l j)).setIfInBounds i u) (hx : S.nestO B w x') :
    S.Own B (w.setCell ⟨g, j * S.n + i, none⟩ u) (.slice (some ⟨g, 0, none⟩) n c) (l.set j x') := by
  have gs := set_grownK w g (j * S.n + i) u
  have ht := h.typed g rfl
  obtain ⟨⟨h1, h2⟩, h3⟩ := h
  have hlt : j * S.n + i < l.length * S.n := by
    have := Nat.mul_le_mul_right S.n (show j + 1 ≤ l.length from hj)
    rw [Nat.add_mul] at this
    omega
  have hnest : ∀ x, S.nestO B w x → S.nestO B (w.setCell ⟨g, j * S.n + i, none⟩ u) x := fun x hx => S.kept hx gs (fun q hq => by injection hq with hq; subst hq; exact ht)
  refine ⟨⟨by rw [Shp.flat_len, List.length_set], ?_⟩, fun x hm => ?_⟩
  · rcases h2 with ⟨h2, _⟩ | ⟨g', cap, cur, hv', hb, hg', hn, hm, hs, htk⟩
    · cases h2
    · injection hv' with e1 e2 e3
      injection e1 with e1
      injection e1 with e1 _ _
      subst e1 e2 e3
      refine .inr ⟨g, _, cur.setIfInBounds (j * S.n + i) u, by rw [List.length_set], hb, heap_setCell_same w g _ cur S.T u hg', by rw [List.length_set]; exact hn, hm, by simp [hs], ?_⟩
      rw [S.flat_set l j i hj hi u x' hv, ← htk, List.length_set]
      rw [Array.toList_setIfInBounds, List.take_set]
  · rcases List.mem_or_eq_of_mem_set hm with hm | rfl
    · exact hnest x (h3 x hm)
    · exact hnest _ hx
end
end Go.Proofs.YtladeaofhdaloaaDoor
namespace Go.Proofs.YtladeaofhdaloaaDoor
open Go.RowKit
set_option linter.unusedVariables false

def ShS : Shp ByteArray := flat 9 1 (fun s => #[.string s]) .empty (by decide) (fun _ => rfl) (fun x u hu => by
  have h : u = .string x := by simpa using hu
  rw [h]; rfl)
def gs (l : List ByteArray) (j : Nat) : ByteArray := ShS.el l j
theorem rowS_at {w : World} {A : Option Addr} {n c : Nat} {l : List ByteArray} (h : ShS.Row w (.slice A n c) l) (hl : 0 < l.length) : ∃ b o, A = some ⟨b, o, none⟩ ∧ ∀ W, Ext w W → ∀ j, j < l.length → W.cell? ⟨b, o + j, none⟩ = some (.string (gs l j)) := by
  obtain ⟨b, o, ha, h⟩ := h.at hl
  refine ⟨b, o, ha, fun W e j hj => ?_⟩
  have := (h W e j hj).1 0 (by decide)
  rw [show ShS.n = 1 from rfl, Nat.mul_one] at this
  exact this
structure Sl where
  A : Option Addr
  n : Nat
  c : Nat
def Sl.v (s : Sl) : Value := .slice s.A s.n s.c
def sl0 : Sl := ⟨none, 0, 0⟩
structure KlV where
  k : Kl
  vp : Sl
  vi : Sl
  vf : Sl
  vm : Sl
def KlV.vals (e : KlV) : Array Value := #[.slice e.vp.A e.vp.n e.vp.c, .string e.k.nm, .string e.k.sup, .bool e.k.inf, .slice e.vi.A e.vi.n e.vi.c, .slice e.vf.A e.vf.n e.vf.c, .slice e.vm.A e.vm.n e.vm.c]
def klv0 : KlV := ⟨kl0, sl0, sl0, sl0, sl0⟩
def NestK (w : World) (e : KlV) : Prop := ShS.Row w e.vi.v e.k.ifs
theorem KlV.one (x : KlV) (u : Value) (hu : u ∈ (KlV.vals x).toList) : u.oneCell' = true := by
  have h6 : u = .slice x.vp.A x.vp.n x.vp.c ∨ u = .string x.k.nm ∨ u = .string x.k.sup ∨ u = .bool x.k.inf ∨ u = .slice x.vi.A x.vi.n x.vi.c ∨ u = .slice x.vf.A x.vf.n x.vf.c ∨ u = .slice x.vm.A x.vm.n x.vm.c := by simpa [KlV.vals] using hu
  rcases h6 with rfl | rfl | rfl | rfl | rfl | rfl | rfl <;> rfl
def ShK : Shp KlV where
  T := 36
  n := 7
  vals := KlV.vals
  zero := klv0
  nest := NestK
  nestO := fun B w e => ShS.Own B w e.vi.v e.k.ifs
  pos := by decide
  size := fun _ => rfl
  one := fun {w x} _ u hu => KlV.one x u hu
  ext := fun h he => Shp.Row.ext h he
  extO := fun h he => Shp.Own.ext h he
  low := fun h => Shp.Own.row h
  kept := fun {B w w' x row} h hg hr => Shp.Own.kept h hg (fun g hv e => by
    obtain ⟨c, z, h1⟩ := hr g e
    exact Shp.Own.ne h h1 (by decide) hv) (fun _ _ h => h)
def ShKW (W0 : World) : Shp KlV where
  T := 36
  n := 7
  vals := KlV.vals
  zero := klv0
  nest := fun _ => NestK W0
  nestO := fun _ _ => NestK W0
  pos := by decide
  size := fun _ => rfl
  one := fun {w x} _ u hu => KlV.one x u hu
  ext := fun h _ => h
  extO := fun h _ => h
  low := fun h => h
  kept := fun h _ _ => h
theorem rowKW {w : World} {v : Value} {l : List KlV} (h : ShK.Row w v l) : (ShKW w).Row w v l := by
  obtain ⟨A, c, h1, h2, h3, h4, h6, h7⟩ := h
  exact ⟨A, c, h1, h2, h3, h4, h6, h7⟩
def AtK (w : World) (b o : Nat) (e : KlV) : Prop :=
  w.cell? ⟨b, o, none⟩ = some (.slice e.vp.A e.vp.n e.vp.c) ∧ w.cell? ⟨b, o + 1, none⟩ = some (.string e.k.nm) ∧ w.cell? ⟨b, o + 2, none⟩ = some (.string e.k.sup) ∧ w.cell? ⟨b, o + 3, none⟩ = some (.bool e.k.inf) ∧ w.cell? ⟨b, o + 4, none⟩ = some (.slice e.vi.A e.vi.n e.vi.c) ∧ w.cell? ⟨b, o + 5, none⟩ = some (.slice e.vf.A e.vf.n e.vf.c) ∧ w.cell? ⟨b, o + 6, none⟩ = some (.slice e.vm.A e.vm.n e.vm.c)
theorem AtK.of {w : World} {b o : Nat} {e : KlV} (h : ShK.At w b o e) : AtK w b o e := ⟨h 0 (by decide), h 1 (by decide), h 2 (by decide), h 3 (by decide), h 4 (by decide), h 5 (by decide), h 6 (by decide)⟩
theorem AtK.ofW {W0 w : World} {b o : Nat} {e : KlV} (h : (ShKW W0).At w b o e) : AtK w b o e := AtK.of h
end Go.Proofs.YtladeaofhdaloaaDoor
namespace Go.Proofs.YtladeaofhdaloaaDoor
open Go.RowKit Go.ChangeShapes Go.WideShapes Go.Deep
set_option linter.unusedVariables false
section
variable {H : Type} {enc : TypeId × Value → H} {w : World}
theorem open_strG (fuel : Nat) (cs : List Value) (x : DataW H × List MemPlace) (h : DataW.trod enc Tryd.prog w 0 (fun _ => true) true fuel 9 cs = some x) (hl : Light 9 x.1) :
    ∃ y : ByteArray, cs = (ShS.vals y).toList ∧ ShS.nest w y ∧ y.size ≤ 140737488351232 := by
  obtain ⟨s, e, r, -⟩ := DataW.trod_string Tryd.underlying9 h
  exact ⟨s, e, trivial, light_str r hl⟩
structure KlOk (y : KlV) : Prop where
  nm : y.k.nm.size ≤ 140737488351232
  sup : y.k.sup.size ≤ 140737488351232
  ifs : ∀ x ∈ y.k.ifs, x.size ≤ 140737488351232
  len : y.k.ifs.length * 16 ≤ 140737488351232
set_option maxRecDepth 100000 in
theorem open_klG (fuel : Nat) (cs : List Value) (x : DataW H × List MemPlace) (h : DataW.trod enc Tryd.prog w 0 (fun _ => true) true fuel 36 cs = some x) (hl : Light 36 x.1) :
    ∃ y : KlV, cs = (ShK.vals y).toList ∧ ShK.nest w y ∧ KlOk y := by
  obtain ⟨ys, n', hn', hy, hlen, hyl, hf⟩ := DataW.trod_struct Tryd.underlying36 h
  have hc : cs.length = 7 := hlen.trans (by kernel_rfl)
  have k4 : Tryd.prog.cellsOf 4 = 1 := by kernel_rfl
  have k9 : Tryd.prog.cellsOf 9 = 1 := by kernel_rfl
  have kc : Tryd.prog.cellsOf 31 = 1 := by kernel_rfl
  have ks : Tryd.prog.cellsOf 32 = 1 := by kernel_rfl
  have kf : Tryd.prog.cellsOf 33 = 1 := by kernel_rfl
  have km : Tryd.prog.cellsOf 34 = 1 := by kernel_rfl
  match cs, hc with
  | [c0, c1, c2, c3, c4, c5, c6], _ =>
    have hyl' : ys.length = 7 := hyl
    clear hyl
    match ys, hyl' with
    | [y0, y1, y2, y3, y4, y5, y6], _ =>
      subst hy
      have h0 : DataW.trod enc Tryd.prog w 0 (fun _ => true) true n' 31 [c0] = some y0 := by simpa [kc] using hf 0 _ rfl
      have h1 : DataW.trod enc Tryd.prog w 0 (fun _ => true) true n' 9 [c1] = some y1 := by simpa [k9] using hf 1 _ rfl
      have h2 : DataW.trod enc Tryd.prog w 0 (fun _ => true) true n' 9 [c2] = some y2 := by simpa [k9] using hf 2 _ rfl
      have h3 : DataW.trod enc Tryd.prog w 0 (fun _ => true) true n' 4 [c3] = some y3 := by simpa [k4] using hf 3 _ rfl
      have h4 : DataW.trod enc Tryd.prog w 0 (fun _ => true) true n' 32 [c4] = some y4 := by simpa [ks] using hf 4 _ rfl
      have h5 : DataW.trod enc Tryd.prog w 0 (fun _ => true) true n' 33 [c5] = some y5 := by simpa [kf] using hf 5 _ rfl
      have h6 : DataW.trod enc Tryd.prog w 0 (fun _ => true) true n' 34 [c6] = some y6 := by simpa [km] using hf 6 _ rfl
      have one : ∀ {t e : TypeId} {n : Nat} {c : Value} {x : DataW H × List MemPlace}, Tryd.prog.underlying t = some (.slice e) → DataW.trod enc Tryd.prog w 0 (fun _ => true) true n t [c] = some x → ∃ s : Sl, c = .slice s.A s.n s.c := by
        intro t e n c x ht h
        rcases open_slice ht h with ⟨h1, _⟩ | ⟨a, len, cap, m, n, D, Pl, h1, _⟩
        · injection h1 with h1; exact ⟨sl0, h1⟩
        · injection h1 with h1; exact ⟨⟨some a, len, cap⟩, h1⟩
      obtain ⟨v0, rfl⟩ := one Tryd.underlying31 h0
      obtain ⟨v5, rfl⟩ := one Tryd.underlying33 h5
      obtain ⟨v6, rfl⟩ := one Tryd.underlying34 h6
      obtain ⟨x1, e1, r1, w1⟩ := DataW.trod_string Tryd.underlying9 h1
      have hs1 := light_str r1 (light_struct Tryd.underlying36 hl (j := 1) rfl rfl)
      obtain ⟨x2, e2, r2, w2⟩ := DataW.trod_string Tryd.underlying9 h2
      have hs2 := light_str r2 (light_struct Tryd.underlying36 hl (j := 2) rfl rfl)
      obtain ⟨x3, e3, r3⟩ := DataW.trod_bool Tryd.underlying4 h3
      obtain ⟨A4, n4, c4', l4, e4, q4, s4, z4, hq4⟩ := open_listG ShS (bytes := 16) (Q := fun y => y.size ≤ 140737488351232) Tryd.underlying32 (by kernel_rfl) (by kernel_rfl) open_strG h4 (light_struct Tryd.underlying36 hl (j := 4) rfl rfl)
      injection e1 with e1
      injection e2 with e2
      injection e3 with e3
      injection e4 with e4
      subst e1 e2 e3 e4
      exact ⟨⟨⟨x1, x2, x3, l4⟩, v0, ⟨A4, n4, c4'⟩, v5, v6⟩, rfl, s4, ⟨hs1, hs2, hq4, z4⟩⟩
theorem open_klsG {fuel : Nat} {cs : List Value} {x : DataW H × List MemPlace} (h : DataW.trod enc Tryd.prog w 0 (fun _ => true) true fuel 22 cs = some x) (hl : Light 22 x.1) :
    ∃ (A : Option Addr) (n c : Nat) (l : List KlV), cs = [.slice A n c] ∧ l.length = n ∧ ShK.Row w (.slice A n c) l ∧ l.length * 136 ≤ reachBytes ∧ ∀ y ∈ l, KlOk y :=
  open_listG ShK (bytes := 136) Tryd.underlying22 (by kernel_rfl) (by kernel_rfl) open_klG h hl
end
end Go.Proofs.YtladeaofhdaloaaDoor
namespace Go.Proofs.YtladeaofhdaloaaDoor
open Go.Maps
set_option linter.unusedVariables false

theorem findA_app (nm : ByteArray) (x : Kl) : ∀ (N : List Kl) (k : Nat), findA nm k (N ++ [x]) = if findA nm k N < 0 then (if x.nm = nm then ((k + N.length : Nat) : Int) else -1) else findA nm k N
  | [], k => by simp [findA]
  | h :: t, k => by
    rw [List.cons_append, findA, findA]
    by_cases e : h.nm = nm
    · rw [if_pos e, if_pos e, if_neg (by omega)]
    · rw [if_neg e, if_neg e, findA_app nm x t (k + 1)]
      have : k + 1 + t.length = k + (h :: t).length := by simp; omega
      rw [this]
theorem findZ_snoc (N : List Kl) (x : Kl) (nm : ByteArray) : findZ (N ++ [x]) nm = if findZ N nm < 0 then (if x.nm = nm then (N.length : Int) else -1) else findZ N nm := by
  unfold findZ
  rw [findA_app]
  simp
def kL (nm : ByteArray) : Lit := .string nm.data.toList
theorem kL_inj {a b : ByteArray} (h : kL a = kL b) : a = b := by
  unfold kL at h
  injection h with h
  obtain ⟨⟨la⟩⟩ := a
  obtain ⟨⟨lb⟩⟩ := b
  simpa using h
structure NumOk (D : DataW Unit) (N : List Kl) : Prop where
  isMap : IsMap D
  has_ : ∀ nm, Maps.has D (kL nm) = decide (¬ findZ N nm < 0)
  at_ : ∀ nm, ¬ findZ N nm < 0 → ∀ z, D.atKey (kL nm) z = .lit (.int .i64 (findZ N nm))
  no_ : ∀ nm, findZ N nm < 0 → ∀ z, D.atKey (kL nm) z = z
theorem numOk_nil : NumOk (.map []) [] := by
  refine ⟨isMap_empty, fun nm => ?_, fun nm h => ?_, fun nm h z => ?_⟩
  · simp [findZ, findA, Maps.has]
  · simp [findZ, findA] at h
  · exact atKey_of_not_has (by simp [Maps.has]) z
theorem NumOk.old {D : DataW Unit} {N : List Kl} {x : Kl} (h : NumOk D N) (hx : ¬ findZ N x.nm < 0) : NumOk D (N ++ [x]) := by
  have e : ∀ nm, findZ (N ++ [x]) nm = findZ N nm := fun nm => by
    rw [findZ_snoc]
    split
    · rename_i h1
      split
      · rename_i h2; rw [h2] at hx; exact absurd h1 hx
      · rcases findZ_cases N nm with ⟨h3, _⟩ | ⟨j, _, h3, _⟩
        · exact h3.symm
        · rw [h3] at h1; omega
    · rfl
  exact ⟨h.isMap, fun nm => by rw [e]; exact h.has_ nm, fun nm h1 => by rw [e] at h1 ⊢; exact h.at_ nm h1, fun nm h1 => by rw [e] at h1; exact h.no_ nm h1⟩
theorem NumOk.new {D : DataW Unit} {N : List Kl} {x : Kl} (h : NumOk D N) (hx : findZ N x.nm < 0) (hk : WideAt.IsKeyLit (kL x.nm)) : NumOk (D.put (kL x.nm) (.lit (.int .i64 (N.length : Int)))) (N ++ [x]) := by
  have e0 : findZ (N ++ [x]) x.nm = (N.length : Int) := by rw [findZ_snoc, if_pos hx, if_pos rfl]
  have e : ∀ nm, nm ≠ x.nm → findZ (N ++ [x]) nm = findZ N nm := fun nm hn => by
    rw [findZ_snoc]
    split
    · rename_i h1
      rw [if_neg (fun h => hn h.symm)]
      rcases findZ_cases N nm with ⟨h3, _⟩ | ⟨j, _, h3, _⟩
      · exact h3.symm
      · rw [h3] at h1; omega
    · rfl
  refine ⟨h.isMap.put _ _, fun nm => ?_, fun nm h1 z => ?_, fun nm h1 z => ?_⟩
  · by_cases hn : nm = x.nm
    · rw [hn, has_put_same h.isMap hk, e0]
      simp
    · rw [has_put_other (fun h => hn (kL_inj h)), e nm hn]; exact h.has_ nm
  · by_cases hn : nm = x.nm
    · rw [hn, atKey_put_same h.isMap hk, e0]
    · rw [e nm hn] at h1 ⊢
      rw [atKey_put_other (fun h => hn (kL_inj h))]; exact h.at_ nm h1 z
  · by_cases hn : nm = x.nm
    · rw [hn, e0] at h1; omega
    · rw [e nm hn] at h1
      rw [atKey_put_other (fun h => hn (kL_inj h))]; exact h.no_ nm h1 z
end Go.Proofs.YtladeaofhdaloaaDoor
namespace Go.Proofs.YtladeaofhdaloaaDoor
open Go.RowKit Go.Maps
set_option linter.unusedVariables false

structure Nd where
  k : Kl
  vi : Sl
  su : Int
  is : List Int
  vs : Sl
  ab : List Int
  va : Sl
  ln : Int
def Nd.vals (x : Nd) : Array Value := #[.slice none 0 0, .string x.k.nm, .string x.k.sup, .bool x.k.inf, x.vi.v, .slice none 0 0, .slice none 0 0, .int .i64 x.su, x.vs.v, x.va.v, .int .i64 x.ln]
def nd0 : Nd := ⟨kl0, sl0, 0, [], sl0, [], sl0, 0⟩
def ShN : Shp Nd := flat 72 11 Nd.vals nd0 (by decide) (fun _ => rfl) (fun x u hu => by
  have h : u = .slice none 0 0 ∨ u = .string x.k.nm ∨ u = .string x.k.sup ∨ u = .bool x.k.inf ∨ u = x.vi.v ∨ u = .slice none 0 0 ∨ u = .slice none 0 0 ∨ u = .int .i64 x.su ∨ u = x.vs.v ∨ u = x.va.v ∨ u = .int .i64 x.ln := by simpa [Nd.vals] using hu
  rcases h with rfl | rfl | rfl | rfl | rfl | rfl | rfl | rfl | rfl | rfl | rfl <;> rfl)
structure NdOk (B : Nat) (w : World) (x : Nd) : Prop where
  vi : ShS.Own B w x.vi.v x.k.ifs
  vs : Own B w 3 .i64 x.vs.v x.is
  va : Own B w 3 .i64 x.va.v x.ab
theorem NdOk.ext {B : Nat} {w w' : World} {x : Nd} (h : NdOk B w x) (e : Ext w w') : NdOk B w' x := ⟨h.vi.ext e, h.vs.ext e, h.va.ext e⟩
theorem own_typed {B : Nat} {w : World} {e : TypeId} {k : IntKind} {v : Value} {l : List Int} (h : Own B w e k v l) : ∀ g, v.ownBlock = some g → ∃ c z, w.heap[g]? = some (.cells c e z) := by
  intro g hg
  rcases h.1.2 with ⟨rfl, _⟩ | ⟨g', cap, cur, rfl, _, hg', _⟩
  · cases hg
  · injection hg with hg
    subst hg
    exact ⟨_, _, hg'⟩
theorem NdOk.kept {B : Nat} {w w' : World} {x : Nd} {row : Option Nat} (h : NdOk B w x) (hg : w.grownBy w' row) (hr : ∀ g, row = some g → ∃ o, w.heap[g]? = some o ∧ (∀ c z, o ≠ .cells c ShS.T z) ∧ (∀ c z, o ≠ .cells c 3 z)) : NdOk B w' x := by
  refine ⟨h.vi.kept hg (fun g hv e => ?_) (fun _ _ h => h), h.vs.kept hg (fun g hv e => ?_), h.va.kept hg (fun g hv e => ?_)⟩
  · obtain ⟨o, h1, h2, h3⟩ := hr g e
    obtain ⟨c, z, h4⟩ := h.vi.typed g hv
    rw [h1] at h4; injection h4 with h4; exact h2 _ _ h4
  · obtain ⟨o, h1, h2, h3⟩ := hr g e
    obtain ⟨c, z, h4⟩ := own_typed h.vs g hv
    rw [h1] at h4; injection h4 with h4; exact h3 _ _ h4
  · obtain ⟨o, h1, h2, h3⟩ := hr g e
    obtain ⟨c, z, h4⟩ := own_typed h.va g hv
    rw [h1] at h4; injection h4 with h4; exact h3 _ _ h4
structure SetAt (B s m : Nat) (v : Sl) (D : DataW Unit) (w : World) (ns : List Nd) : Prop where
  bs : B ≤ s
  bm : B ≤ m
  blk : w.heap[s]? = some (.cells #[v.v, .map (some m)] 69 (0, 0))
  own : ShN.Own B w v.v ns
  map : w.ownsMap Tryd.prog 9 (plainElem Tryd.prog 3) m ns.length D
  num : NumOk D (ns.map (·.k))
  ok : ∀ x ∈ ns, NdOk B w x
theorem SetAt.ext {B s m : Nat} {v : Sl} {D : DataW Unit} {w w' : World} {ns : List Nd} (h : SetAt B s m v D w ns) (e : Ext w w') : SetAt B s m v D w' ns := by
  have hs := lt_of_get h.blk
  refine ⟨h.bs, h.bm, (e.block s hs).trans h.blk, h.own.ext e, ?_, h.num, fun x hx => (h.ok x hx).ext e⟩
  obtain ⟨es, clock, hb, hr⟩ := h.map
  exact ⟨es, clock, (e.block m (lt_of_get hb)).trans hb, hr⟩
theorem SetAt.put {B s m g n c : Nat} {D : DataW Unit} {w : World} {ns : List Nd} (h : SetAt B s m ⟨some ⟨g, 0, none⟩, n, c⟩ D w ns) (j i : Nat) (hj : j < ns.length) (hi : i < 11) (u : Value) (x' : Nd)
    (hv : x'.vals = (ShN.el ns j).vals.setIfInBounds i u) (hk : x'.k = (ShN.el ns j).k) (hx : NdOk B w x') :
    SetAt B s m ⟨some ⟨g, 0, none⟩, n, c⟩ D (w.setCell ⟨g, j * 11 + i, none⟩ u) (ns.set j x') := by
  have gs := set_grownK w g (j * 11 + i) u
  obtain ⟨c0, z0, hg⟩ := h.own.typed g rfl
  have hr : ∀ q, some g = some q → ∃ o, w.heap[q]? = some o ∧ (∀ c z, o ≠ .cells c ShS.T z) ∧ (∀ c z, o ≠ .cells c 3 z) := fun q hq => by
    injection hq with hq
    subst hq
    refine ⟨_, hg, fun c z e => ?_, fun c z e => ?_⟩
    · injection e with _ e _; exact absurd e (by decide)
    · injection e with _ e _; exact absurd e (by decide)
  refine ⟨h.bs, h.bm, ?_, h.own.setCell j i hj hi u x' hv trivial, ?_, ?_, fun x hm => ?_⟩
  · refine (gs.block s (lt_of_get h.blk) (fun e => ?_)).trans h.blk
    injection e with e
    subst e
    have := h.blk
    rw [hg] at this
    injection this with this
    injection this with _ e _
    exact absurd e (by decide)
  · rw [List.length_set]
    refine h.map.kept gs (fun e => ?_)
    injection e with e
    subst e
    obtain ⟨es, clock, hb, _⟩ := h.map
    rw [hg] at hb
    injection hb with hb
    cases hb
  · have e : (ns.set j x').map (·.k) = ns.map (·.k) := by
      rw [List.map_set, hk]
      apply List.ext_getElem?
      intro q
      rw [List.getElem?_set]
      by_cases hq : j = q
      · subst hq
        rw [if_pos rfl, List.getElem?_map, List.getElem?_eq_getElem hj]
        simp only [List.length_map, hj, if_true, Option.map_some]
        rw [ShN.el_get hj]
      · rw [if_neg hq]
    rw [e]; exact h.num
  · rcases List.mem_or_eq_of_mem_set hm with hm | rfl
    · exact (h.ok x hm).kept gs hr
    · exact hx.kept gs hr
end Go.Proofs.YtladeaofhdaloaaDoor
namespace Go.Proofs.YtladeaofhdaloaaDoor
open Go.RowKit Go.Maps Go.WideMaps
set_option linter.unusedVariables false

theorem findZ_b {N : List Kl} (h : N.length ≤ 72) (nm : ByteArray) : -1 ≤ findZ N nm ∧ findZ N nm < 72 := by
  rcases findZ_cases N nm with ⟨h1, _⟩ | ⟨j, h1, h2, _⟩
  · omega
  · omega
theorem key_is {nm : ByteArray} (hs : nm.size ≤ 140737488351232) : keyOf Tryd.prog 9 (.string nm) = some (kL nm) := keyOf_string_mk Tryd.underlying9 (by unfold maxLen; omega)
theorem zero_int (w : World) : (zeroValue 3).run Tryd.prog w = .ok (.int .i64 0) w := by go_simp
theorem look_run {w : World} {m n : Nat} {D : DataW Unit} {N : List Kl} (h : w.ownsMap Tryd.prog 9 (plainElem Tryd.prog 3) m n D) (hn : NumOk D N) {nm : ByteArray} (hs : nm.size ≤ 140737488351232) :
    (Instr.lookup 67 (.map (some m)) (.string nm) true).run Tryd.prog w = .ok (.tuple #[.int .i64 (if findZ N nm < 0 then 0 else findZ N nm), .bool (decide (0 ≤ findZ N nm))]) w := by
  obtain ⟨v, ps, h1, h2⟩ := World.ownsMap.look_ok h (string_keyed Tryd.underlying9) Tryd.underlying67 (zero_int w) (plainElem_int (H := Unit) Tryd.underlying3 (by decide)) (key_is hs)
  have hb : Maps.has D (kL nm) = decide (0 ≤ findZ N nm) := by rw [hn.has_ nm]; simp
  rw [h1, hb]
  obtain ⟨c, rfl, hc⟩ := plainElem_int_inv Tryd.underlying3 h2
  by_cases hf : findZ N nm < 0
  · rw [hn.no_ nm hf] at hc
    have hc := congrArg Prod.fst hc.1
    simp at hc
    rw [if_pos hf, ← hc]
  · rw [hn.at_ nm hf] at hc
    have hc := congrArg Prod.fst hc.1
    simp at hc
    rw [if_neg hf, hc]
def NodeAt (w : World) (b o : Nat) (x : Nd) : Prop :=
  w.cell? ⟨b, o, none⟩ = some (.slice none 0 0) ∧ w.cell? ⟨b, o + 1, none⟩ = some (.string x.k.nm) ∧ w.cell? ⟨b, o + 2, none⟩ = some (.string x.k.sup) ∧ w.cell? ⟨b, o + 3, none⟩ = some (.bool x.k.inf) ∧ w.cell? ⟨b, o + 4, none⟩ = some (.slice x.vi.A x.vi.n x.vi.c) ∧
  w.cell? ⟨b, o + 7, none⟩ = some (.int .i64 x.su) ∧ w.cell? ⟨b, o + 8, none⟩ = some (.slice x.vs.A x.vs.n x.vs.c) ∧ w.cell? ⟨b, o + 9, none⟩ = some (.slice x.va.A x.va.n x.va.c) ∧ w.cell? ⟨b, o + 10, none⟩ = some (.int .i64 x.ln)
structure SetG (s m g : Nat) (n c : Nat) (w : World) (ns : List Nd) : Prop where
  c0 : w.cell? ⟨s, 0, none⟩ = some (.slice (some ⟨g, 0, none⟩) n c)
  c1 : w.cell? ⟨s, 1, none⟩ = some (.map (some m))
  len : n = ns.length
  cap : n ≤ c
  look : ∀ nm : ByteArray, nm.size ≤ 140737488351232 → (Instr.lookup 67 (.map (some m)) (.string nm) true).run Tryd.prog w = .ok (.tuple #[.int .i64 (if findZ (ns.map (·.k)) nm < 0 then 0 else findZ (ns.map (·.k)) nm), .bool (decide (0 ≤ findZ (ns.map (·.k)) nm))]) w
  node : ∀ (i : Nat) (x : Nd), ns[i]? = some x → NodeAt w g (i * 11) x
theorem SetAt.c0 {B s m : Nat} {v : Sl} {D : DataW Unit} {w : World} {ns : List Nd} (h : SetAt B s m v D w ns) : w.cell? ⟨s, 0, none⟩ = some (.slice v.A v.n v.c) := by
  rw [cell_of_row w s 0 _ _ (0, 0) h.blk]; rfl
theorem SetAt.c1 {B s m : Nat} {v : Sl} {D : DataW Unit} {w : World} {ns : List Nd} (h : SetAt B s m v D w ns) : w.cell? ⟨s, 1, none⟩ = some (.map (some m)) := by
  rw [cell_of_row w s 1 _ _ (0, 0) h.blk]; rfl
theorem SetAt.g {B s m : Nat} {v : Sl} {D : DataW Unit} {w : World} {ns : List Nd} (h : SetAt B s m v D w ns) (hl : 0 < ns.length) : ∃ g, v = ⟨some ⟨g, 0, none⟩, ns.length, v.c⟩ ∧ ns.length ≤ v.c ∧ B ≤ g ∧ g < w.heap.size := by
  obtain ⟨A, n, c⟩ := v
  rcases h.own.1.2 with ⟨h1, h2⟩ | ⟨g, cap, cur, h1, hb, hg, hn, hm, hs, ht⟩
  · omega
  · injection h1 with e1 e2 e3
    have e1 : A = some ⟨g, 0, none⟩ := e1
    have e2 : n = ns.length := e2
    have e3 : c = cap := e3
    subst e1 e2 e3
    exact ⟨g, rfl, hn, hb, lt_of_get hg⟩
theorem SetAt.get {B s m g n c : Nat} {D : DataW Unit} {w : World} {ns : List Nd} (h : SetAt B s m ⟨some ⟨g, 0, none⟩, n, c⟩ D w ns) : SetG s m g n c w ns := by
  refine ⟨h.c0, h.c1, ?_, ?_, fun nm hs => look_run h.map h.num hs, fun i x hx => ?_⟩
  · obtain ⟨A, c', h1, _⟩ := h.own.row.cut
    injection h1
  · obtain ⟨A, c', h1, h2, _⟩ := h.own.row.cut
    simp only [Sl.v] at h1
    injection h1 with _ e2 e3
    rw [e2, e3]
    exact h2
  · have hi : i < ns.length := by
      rcases Nat.lt_or_ge i ns.length with h | h
      · exact h
      · rw [List.getElem?_eq_none h] at hx; cases hx
    obtain ⟨b, o, hA, hat⟩ := h.own.row.at (by omega)
    injection hA with hA
    injection hA with h1 h2
    subst h1 h2
    have h3 := (hat w (Ext.refl w) i hi).1
    have e : ShN.el ns i = x := by
      unfold Shp.el
      rw [List.getD_eq_getElem?_getD, hx]
      rfl
    rw [e, Nat.zero_add] at h3
    exact ⟨h3 0 (by decide), h3 1 (by decide), h3 2 (by decide), h3 3 (by decide), h3 4 (by decide), h3 7 (by decide), h3 8 (by decide), h3 9 (by decide), h3 10 (by decide)⟩
section
variable {s m g n c : Nat} {w : World} {ns : List Nd}
set_option maxRecDepth 100000 in
theorem len_any (h : SetG s m g n c w ns) : Calls Tryd.prog 15 #[.pointer (some ⟨s, 0, none⟩)] w fun e w' => e = .returned (.int .i64 n) ∧ w' = w := by
  have c0 := h.c0
  clear h
  go_enter Tryd.func15, Tryd.ntmps15
  go_wp2
  go_ret
  exact ⟨rfl, rfl⟩
set_option maxRecDepth 100000 in
theorem named_any (h : SetG s m g n c w ns) (nm : ByteArray) (hs : nm.size ≤ 140737488351232) : Calls Tryd.prog 60 #[.pointer (some ⟨s, 0, none⟩), .string nm] w fun e w' => e = .returned (.int .i64 (findZ (ns.map (·.k)) nm)) ∧ w' = w := by
  have c1 := h.c1
  have hlk := h.look nm hs
  have hm1 : findZ (ns.map (·.k)) nm < 0 → findZ (ns.map (·.k)) nm = -1 := fun hh => by
    rcases findZ_cases (ns.map (·.k)) nm with ⟨h1, _⟩ | ⟨j, _, h1, _⟩
    · exact h1
    · omega
  generalize findZ (ns.map (·.k)) nm = f at hlk hm1 ⊢
  clear h hs
  by_cases hf : f < 0
  · have e := hm1 hf
    subst e
    have hlk2 : (Instr.lookup 67 (.map (some m)) (.string nm) true).run Tryd.prog w = .ok (.tuple #[.int .i64 0, .bool false]) w := by rw [hlk]; rfl
    clear hlk hm1
    go_enter Tryd.func60, Tryd.ntmps60
    go_wp2
    go_ret
    exact ⟨rfl, rfl⟩
  · have hlk2 : (Instr.lookup 67 (.map (some m)) (.string nm) true).run Tryd.prog w = .ok (.tuple #[.int .i64 f, .bool true]) w := by rw [hlk, if_neg hf, decide_eq_true (by omega)]
    clear hlk hm1
    go_enter Tryd.func60, Tryd.ntmps60
    go_wp2
    go_ret
    exact ⟨rfl, rfl⟩
set_option maxRecDepth 100000 in
theorem node_in (h : SetG s m g n c w ns) (i : Nat) (hi : i < n) (h72 : n ≤ 72) : Calls Tryd.prog 52 #[.pointer (some ⟨s, 0, none⟩), .int .i64 i] w fun e w' => e = .returned (.pointer (some ⟨g, i * 11, none⟩)) ∧ w' = w := by
  have c0 := h.c0
  have hcap := h.cap
  have HL := Lib.hid (len_any h)
  have i0 : ¬ (i : Int) < 0 := by omega
  have i1 : ¬ (n : Int) ≤ (i : Int) := by omega
  have i2 : (i : Int) < (n : Int) := by omega
  clear h
  go_enter Tryd.func52, Tryd.ntmps52
  go_wp2_with fail
  refine HL.out.mono ?_
  rintro e w' ⟨rfl, rfl⟩
  go_wp2
  go_ret
  exact ⟨rfl, rfl⟩
set_option maxRecDepth 100000 in
theorem isIface_in (h : SetG s m g n c w ns) (i : Nat) (x : Nd) (hx : ns[i]? = some x) (h72 : n ≤ 72) : Calls Tryd.prog 27 #[.pointer (some ⟨s, 0, none⟩), .int .i64 i] w fun e w' => e = .returned (.bool x.k.inf) ∧ w' = w := by
  obtain ⟨_, _, _, x3, _⟩ := h.node i x hx
  have hi : i < n := by rw [h.len]; exact (List.getElem?_eq_some_iff.1 hx).1
  have HN := Lib.hid (node_in h i hi h72)
  clear h hx
  go_enter Tryd.func27, Tryd.ntmps27
  go_wp2_with fail
  refine HN.out.mono ?_
  rintro e w' ⟨rfl, rfl⟩
  go_wp2
  go_ret
  exact ⟨rfl, rfl⟩
set_option maxRecDepth 100000 in
theorem fails_at (o : Nat) (nm : ByteArray) (bb : Bool) (er : Int) (hn : w.cell? ⟨g, o + 1, none⟩ = some (.string nm)) : Calls Tryd.prog 86 #[.pointer (some ⟨g, o, none⟩), .bool bb, .int .i64 er] w fun e w' => e = .returned (.tuple (if bb then #[.string nm, .int .i64 er] else #[.string ⟨#[]⟩, .int .i64 0])) ∧ w' = w := by
  cases bb
  all_goals
    go_enter Tryd.func86, Tryd.ntmps86
    go_wp2
    go_ret2
    exact ⟨rfl, rfl⟩
end
def idxI (x : Int) : List Int → Nat → Int
  | [], _ => -1
  | y :: l, k => if x = y then (k : Int) else idxI x l (k + 1)
theorem idxI_has (x : Int) : ∀ (l : List Int) (k : Nat), decide (0 ≤ idxI x l k) = l.contains x
  | [], k => by simp [idxI]
  | y :: l, k => by
    unfold idxI
    by_cases e : x = y
    · subst e; simp
    · rw [if_neg e, idxI_has x l (k + 1)]
      simp [e]
theorem idxI_next {x : Int} {l : List Int} {k : Nat} (h : k < l.length) (hne : ¬ x = gi l k) : idxI x (l.drop k) k = idxI x (l.drop (k + 1)) (k + 1) := by
  have e : gi l k = l[k] := by simp [gi, h]
  rw [List.drop_eq_getElem_cons h, idxI, if_neg (by rw [← e]; exact hne)]
theorem idxI_here {x : Int} {l : List Int} {k : Nat} (h : k < l.length) (he : x = gi l k) : idxI x (l.drop k) k = k := by
  have e : gi l k = l[k] := by simp [gi, h]
  rw [List.drop_eq_getElem_cons h, idxI, if_pos (by rw [← e]; exact he)]
set_option maxRecDepth 100000 in
theorem index_any {w : World} {v : Value} {l : List Int} (h : Row w .i64 v l) (x : Int) : Calls Tryd.prog 83 #[v, .int .i64 x] w fun e w' => e = .returned (.int .i64 (idxI x l 0)) ∧ w = w' := by
  obtain ⟨A, c, rfl, hc, hm, -, -, hcell⟩ := h
  unfold maxLen at hm
  obtain ⟨n, hn⟩ : ∃ n, n = l.length := ⟨_, rfl⟩
  rw [← hn] at hc hcell ⊢
  have Hn := Lib.hid hn
  obtain ⟨R, hR⟩ : ∃ R, idxI x l 0 = R := ⟨_, rfl⟩
  have HR := Lib.hid hR
  rw [hR]
  clear hn hR
  go_enter Tryd.func83, Tryd.ntmps83
  go_wp2
  go_loopw [8] (fun i wr => ∃ (k : Nat), i = .int .i64 k ∧ k ≤ n ∧ Hid (R = idxI x (l.drop k) k) ∧ w = wr) (fun i _ => n - (intOf i).toNat)
  case atStart => exact ⟨0, rfl, by omega, Lib.hid HR.out.symm, rfl⟩
  case round =>
    obtain ⟨k, rfl, hk, HP, rfl⟩ := hrel
    by_cases hlt : k < n
    · obtain ⟨b, o, rfl, hb, hx⟩ := hcell (by omega)
      have y0 := hx k hlt
      have hkl : k < l.length := by have := Hn.out; omega
      have hnx := idxI_next (x := x) hkl
      have hhr := idxI_here (x := x) hkl
      obtain ⟨t, ht⟩ : ∃ t, gi l k = t := ⟨_, rfl⟩
      rw [ht] at y0 hnx hhr
      by_cases he : x = t
      · subst he
        have HE := Lib.hid (HP.out.trans (hhr rfl))
        clear hx hcell ht hnx hhr
        go_wp2
        go_ret
        exact ⟨by rw [HE.out]; rfl, rfl⟩
      · have HE := Lib.hid (HP.out.trans (hnx he))
        clear hx hcell ht hnx hhr
        go_wp2
        go_roundw
        case rel => exact ⟨k + 1, by go_num, hlt, HE, by first | rfl | trivial⟩
        case measure => simp [intOf]; omega
    · have HE : Hid (R = -1) := Lib.hid (by
        have h1 := HP.out
        rw [List.drop_of_length_le (by have := Hn.out; omega)] at h1
        exact h1)
      go_wp2
      go_ret
      exact ⟨by rw [HE.out]; rfl, rfl⟩
set_option maxRecDepth 100000 in
theorem contains_any {w : World} {v : Value} {l : List Int} (h : Row w .i64 v l) (x : Int) : Calls Tryd.prog 56 #[v, .int .i64 x] w fun e w' => e = .returned (.bool (l.contains x)) ∧ w = w' := by
  have HI := Lib.hid (index_any h x)
  have hb := idxI_has x l 0
  obtain ⟨f, hf⟩ : ∃ f, idxI x l 0 = f := ⟨_, rfl⟩
  rw [hf] at HI hb
  rw [← hb]
  clear h hb hf
  go_enter Tryd.func56, Tryd.ntmps56
  go_wp2_with fail
  refine HI.out.mono ?_
  rintro e w' ⟨rfl, rfl⟩
  go_wp2
  go_ret
  exact ⟨rfl, rfl⟩
end Go.Proofs.YtladeaofhdaloaaDoor
namespace Go.Proofs.YtladeaofhdaloaaDoor
open Go.RowKit
set_option linter.unusedVariables false

def st7 (w : World) (g o : Nat) (x : KlV) : World := ((((((w.setCell ⟨g, o, none⟩ (.slice x.vp.A x.vp.n x.vp.c)).setCell ⟨g, o + 1, none⟩ (.string x.k.nm)).setCell ⟨g, o + 2, none⟩ (.string x.k.sup)).setCell ⟨g, o + 3, none⟩ (.bool x.k.inf)).setCell ⟨g, o + 4, none⟩ (.slice x.vi.A x.vi.n x.vi.c)).setCell ⟨g, o + 5, none⟩ (.slice x.vf.A x.vf.n x.vf.c)).setCell ⟨g, o + 6, none⟩ (.slice x.vm.A x.vm.n x.vm.c)
theorem st7_only {a w : World} {g : Nat} (h : a.grownBy w (some g)) (o : Nat) (x : KlV) : a.grownBy (st7 w g o x) (some g) :=
  only_set (only_set (only_set (only_set (only_set (only_set (only_set h _ _) _ _) _ _) _ _) _ _) _ _) _ _
theorem el_set {α : Type} {S : Shp α} {l : List α} {j : Nat} {x : α} (hj : j < l.length) : S.el (l.set j x) j = x := by
  unfold Shp.el
  rw [List.getD_eq_getElem?_getD, List.getElem?_set_self hj]
  rfl
theorem st7_own {W0 w : World} {B g n c : Nat} {l : List KlV} (h : (ShKW W0).Own B w (.slice (some ⟨g, 0, none⟩) n c) l) (j : Nat) (hj : j < l.length) (x : KlV) (hx : NestK W0 x) :
    (ShKW W0).Own B (st7 w g (j * 7) x) (.slice (some ⟨g, 0, none⟩) n c) (l.set j x) := by
  obtain ⟨y, hy⟩ : ∃ y, (ShKW W0).el l j = y := ⟨_, rfl⟩
  have ny : NestK W0 y := by rw [← hy]; exact h.2 _ ((ShKW W0).el_mem hj)
  have step : ∀ {w : World} {y z : KlV} (i : Nat) (u : Value), (ShKW W0).Own B w (.slice (some ⟨g, 0, none⟩) n c) (l.set j y) → i < 7 → z.vals = y.vals.setIfInBounds i u → NestK W0 z → (ShKW W0).Own B (w.setCell ⟨g, j * 7 + i, none⟩ u) (.slice (some ⟨g, 0, none⟩) n c) (l.set j z) := by
    intro w y z i u h hi hv hz
    have := h.setCell j i (by rw [List.length_set]; exact hj) hi u z (by rw [el_set hj]; exact hv) hz
    rw [List.set_set] at this
    exact this
  have h0 : (ShKW W0).Own B w (.slice (some ⟨g, 0, none⟩) n c) (l.set j y) := by
    have e : l.set j y = l := by
      rw [← hy, (ShKW W0).el_get hj]
      exact List.set_getElem_self hj
    rw [e]; exact h
  have h1 := step (z := ⟨y.k, x.vp, y.vi, y.vf, y.vm⟩) 0 _ h0 (by decide) rfl ny
  have h2 := step (z := ⟨{y.k with nm := x.k.nm}, x.vp, y.vi, y.vf, y.vm⟩) 1 (.string x.k.nm) h1 (by decide) rfl ny
  have h3 := step (z := ⟨{y.k with nm := x.k.nm, sup := x.k.sup}, x.vp, y.vi, y.vf, y.vm⟩) 2 (.string x.k.sup) h2 (by decide) rfl ny
  have h4 := step (z := ⟨{y.k with nm := x.k.nm, sup := x.k.sup, inf := x.k.inf}, x.vp, y.vi, y.vf, y.vm⟩) 3 (.bool x.k.inf) h3 (by decide) rfl ny
  have h5 := step (z := ⟨x.k, x.vp, x.vi, y.vf, y.vm⟩) 4 _ h4 (by decide) rfl hx
  have h6 := step (z := ⟨x.k, x.vp, x.vi, x.vf, y.vm⟩) 5 _ h5 (by decide) rfl hx
  have h7 := step (z := x) 6 _ h6 (by decide) rfl hx
  exact h7
end Go.Proofs.YtladeaofhdaloaaDoor
