/- Several texts of this proof, one behind the other. -/
import Derived.Test.YtokmeomjdpfknaaGreatDoorZbQ
import Derived.Test.YtokmeomjdpfknaaGreatDoorZbD
import Derived.Test.YtokmeomjdpfknaaGreatDoorZbU
import Derived.Test.YtokmeomjdpfknaaGreatDoorZbI
import Derived.Test.YtokmeomjdpfknaaGreatDoorZbK
import Derived.Test.YtokmeomjdpfknaaGreatDoorZbF
import Derived.Test.YtokmeomjdpfknaaGreatDoorZbL
import Derived.Test.YtokmeomjdpfknaaGreatDoorZbO
import Derived.Test.YtokmeomjdpfknaaGreatDoorZbP
import Derived.RegionCalls
import Derived.Deep.RegionWith
import Derived.Deep.RegionHeld3
namespace Go.Proofs.YtokmeomjdpfknaaGreatDoor
open Go.RowKit
set_option linter.unusedVariables false

def ShS : Shp ByteArray := flat 9 1 (fun s => #[.string s]) .empty (by decide) (fun _ => rfl) (fun x u hu => by
  have h : u = .string x := by simpa using hu
  rw [h]; rfl)
def f0 : Fd := ⟨false, .empty, t0⟩
def Fd.vals (x : Fd) : Array Value := #[.bool x.st, .string x.nm, .int .i64 x.ty.k, .string x.ty.s]
def ShF : Shp Fd := flat 63 4 Fd.vals f0 (by decide) (fun _ => rfl) (fun x u hu => by
  have h : u = .bool x.st ∨ u = .string x.nm ∨ u = .int .i64 x.ty.k ∨ u = .string x.ty.s := by simpa [Fd.vals] using hu
  rcases h with rfl | rfl | rfl | rfl <;> rfl)
abbrev MeV := Me × Value × Value × Value
def m0 : Me := ⟨false, false, .empty, t0, [], 0, 0, [], []⟩
def MeV.vals (e : MeV) : Array Value := e.1.vals e.2.1 e.2.2.1 e.2.2.2
def mv0 : MeV := (m0, .slice none 0 0, .slice none 0 0, .slice none 0 0)
def NestM (w : World) (e : MeV) : Prop := MeAt w e.1 e.2.1 e.2.2.1 e.2.2.2
def NestMO (B : Nat) (w : World) (e : MeV) : Prop := ShT.Own B w e.2.1 e.1.args ∧ Own B w 5 .u8 e.2.2.1 e.1.code ∧ ShH.Own B w e.2.2.2 e.1.hs
theorem oneCell_rowG {α : Type} {S : Shp α} {w : World} {v : Value} {l : List α} (h : S.Row w v l) : v.oneCell' = true := by
  obtain ⟨A, c, rfl, -⟩ := h
  rfl
theorem NestMO.kept {B : Nat} {w w' : World} {x : MeV} {row : Option Nat} (h : NestMO B w x) (hg : w.grownBy w' row) (hr : ∀ g, row = some g → ∃ c T z, w.heap[g]? = some (.cells c T z) ∧ T ≠ ShT.T ∧ T ≠ 5 ∧ T ≠ ShH.T) : NestMO B w' x := by
  refine ⟨h.1.kept hg (fun g hv e => ?_) (fun _ _ h => h), h.2.1.kept hg fun g hv e => ?_, h.2.2.kept hg (fun g hv e => ?_) (fun _ _ h => h)⟩
  · obtain ⟨c, T, z, h1, h2, h3, h4⟩ := hr g e
    exact h.1.ne h1 h2 hv
  · obtain ⟨c, T, z, h1, h2, h3, h4⟩ := hr g e
    exact own_ne h.2.1 h1 h3 hv
  · obtain ⟨c, T, z, h1, h2, h3, h4⟩ := hr g e
    exact h.2.2.ne h1 h4 hv
def ShM : Shp MeV where
  T := 47
  n := 10
  vals := MeV.vals
  zero := mv0
  nest := NestM
  nestO := NestMO
  pos := by decide
  size := fun _ => rfl
  one := fun {w x} h u hu => by
    have h6 : u = .bool x.1.st ∨ u = .bool x.1.ab ∨ u = .string x.1.nm ∨ u = .int .i64 x.1.ret.k ∨ u = .string x.1.ret.s ∨ u = x.2.1 ∨ u = .int .i64 x.1.sk ∨ u = .int .i64 x.1.lo ∨ u = x.2.2.1 ∨ u = x.2.2.2 := by simpa [MeV.vals, Me.vals] using hu
    rcases h6 with rfl | rfl | rfl | rfl | rfl | rfl | rfl | rfl | rfl | rfl
    · rfl
    · rfl
    · rfl
    · rfl
    · rfl
    · exact oneCell_rowG h.1
    · rfl
    · rfl
    · exact oneCell_row h.2.1
    · exact oneCell_rowG h.2.2
  ext := fun h he => MeAt.ext h he
  extO := fun h he => ⟨h.1.ext he, h.2.1.ext he, h.2.2.ext he⟩
  low := fun h => ⟨h.1.row, h.2.1.row, h.2.2.row⟩
  kept := fun {B w w' x row} h hg hr => NestMO.kept h hg fun g e => by
    obtain ⟨c, z, h1⟩ := hr g e
    exact ⟨c, _, z, h1, by decide, by decide, by decide⟩
def RowM (w : World) (v : Value) (l : List Me) : Prop := ∃ es : List MeV, es.map (·.1) = l ∧ ShM.Row w v es
def OwnM (B : Nat) (w : World) (v : Value) (l : List Me) : Prop := ∃ es : List MeV, es.map (·.1) = l ∧ ShM.Own B w v es
def gs (l : List ByteArray) (j : Nat) : ByteArray := ShS.el l j
def gf (l : List Fd) (j : Nat) : Fd := ShF.el l j
def gm (l : List Me) (j : Nat) : Me := l.getD j m0
theorem gm_mem {l : List Me} {j : Nat} (h : j < l.length) : gm l j ∈ l := by
  unfold gm
  rw [List.getD_eq_getElem?_getD, List.getElem?_eq_getElem h]
  exact List.getElem_mem h
theorem gm_get {l : List Me} {j : Nat} (h : j < l.length) : gm l j = l[j] := by
  unfold gm
  rw [List.getD_eq_getElem?_getD, List.getElem?_eq_getElem h]
  rfl
theorem ge_gm {es : List MeV} {l : List Me} (h : es.map (·.1) = l) (j : Nat) : (ShM.el es j).1 = gm l j := by
  subst h
  unfold Shp.el gm
  rw [List.getD_eq_getElem?_getD, List.getD_eq_getElem?_getD, List.getElem?_map]
  cases es[j]? <;> rfl
section
variable {w w' : World} {B : Nat} {v : Value} {l : List Me}
theorem RowM.ext (h : RowM w v l) (he : Ext w w') : RowM w' v l := by
  obtain ⟨es, e, h⟩ := h
  exact ⟨es, e, h.ext he⟩
theorem RowM.nil (w : World) : RowM w (.slice none 0 0) [] := ⟨[], rfl, Shp.Row.nil _ w⟩
theorem RowM.cut (h : RowM w v l) : ∃ A c, v = .slice A l.length c ∧ l.length ≤ c ∧ c ≤ maxLen ∧ (A = none → c = 0) := by
  obtain ⟨es, rfl, h⟩ := h
  rw [List.length_map]
  exact h.cut
def AtM (w : World) (b o : Nat) (x : Me) (va vc vh : Value) : Prop :=
  w.cell? ⟨b, o, none⟩ = some (.bool x.st) ∧ w.cell? ⟨b, o + 1, none⟩ = some (.bool x.ab) ∧ w.cell? ⟨b, o + 2, none⟩ = some (.string x.nm) ∧ w.cell? ⟨b, o + 3, none⟩ = some (.int .i64 x.ret.k) ∧ w.cell? ⟨b, o + 4, none⟩ = some (.string x.ret.s) ∧
  w.cell? ⟨b, o + 5, none⟩ = some va ∧ w.cell? ⟨b, o + 6, none⟩ = some (.int .i64 x.sk) ∧ w.cell? ⟨b, o + 7, none⟩ = some (.int .i64 x.lo) ∧ w.cell? ⟨b, o + 8, none⟩ = some vc ∧ w.cell? ⟨b, o + 9, none⟩ = some vh
theorem AtM.of {b o : Nat} {e : MeV} (h : ShM.At w b o e) : AtM w b o e.1 e.2.1 e.2.2.1 e.2.2.2 :=
  ⟨h 0 (by decide), h 1 (by decide), h 2 (by decide), h 3 (by decide), h 4 (by decide), h 5 (by decide), h 6 (by decide), h 7 (by decide), h 8 (by decide), h 9 (by decide)⟩
theorem RowM.at {A : Option Addr} {n c : Nat} (h : RowM w (.slice A n c) l) (hl : 0 < l.length) :
    ∃ b o, A = some ⟨b, o, none⟩ ∧ ∀ j, j < l.length → ∃ va vc vh, ∀ W, Ext w W → AtM W b (o + j * 10) (gm l j) va vc vh ∧ MeAt W (gm l j) va vc vh := by
  obtain ⟨es, rfl, h⟩ := h
  rw [List.length_map] at hl
  obtain ⟨b, o, rfl, hc⟩ := h.at hl
  refine ⟨b, o, rfl, fun j hj => ?_⟩
  rw [List.length_map] at hj
  have hg := ge_gm (rfl : es.map (·.1) = _) j
  refine ⟨(ShM.el es j).2.1, (ShM.el es j).2.2.1, (ShM.el es j).2.2.2, fun W e => ?_⟩
  obtain ⟨h1, h2⟩ := hc W e j hj
  rw [← hg]
  exact ⟨AtM.of h1, h2⟩
theorem OwnM.row (h : OwnM B w v l) : RowM w v l := by
  obtain ⟨es, e, h⟩ := h
  exact ⟨es, e, h.row⟩
theorem OwnM.nil (B : Nat) (w : World) : OwnM B w (.slice none 0 0) [] := ⟨[], rfl, Shp.Own.nil _ _ _⟩
theorem OwnM.ext (h : OwnM B w v l) (he : Ext w w') : OwnM B w' v l := by
  obtain ⟨es, e, h⟩ := h
  exact ⟨es, e, h.ext he⟩
theorem OwnM.low (h : OwnM B w v l) : ∀ g, v.ownBlock = some g → B ≤ g := by
  obtain ⟨es, e, h⟩ := h
  exact h.low
theorem OwnM.slice (h : OwnM B w v l) : ∃ A c, v = .slice A l.length c ∧ l.length ≤ c ∧ c ≤ maxLen := by
  obtain ⟨A, c, h1, h2, h3, -⟩ := h.row.cut
  exact ⟨A, c, h1, h2, h3⟩
end
theorem rowS_at {w : World} {A : Option Addr} {n c : Nat} {l : List ByteArray} (h : ShS.Row w (.slice A n c) l) (hl : 0 < l.length) : ∃ b o, A = some ⟨b, o, none⟩ ∧ ∀ W, Ext w W → ∀ j, j < l.length → W.cell? ⟨b, o + j, none⟩ = some (.string (gs l j)) := by
  obtain ⟨b, o, ha, h⟩ := h.at hl
  refine ⟨b, o, ha, fun W e j hj => ?_⟩
  have := (h W e j hj).1 0 (by decide)
  rw [show ShS.n = 1 from rfl, Nat.mul_one] at this
  exact this
def AtF (w : World) (b o : Nat) (x : Fd) : Prop :=
  w.cell? ⟨b, o, none⟩ = some (.bool x.st) ∧ w.cell? ⟨b, o + 1, none⟩ = some (.string x.nm) ∧ w.cell? ⟨b, o + 2, none⟩ = some (.int .i64 x.ty.k) ∧ w.cell? ⟨b, o + 3, none⟩ = some (.string x.ty.s)
theorem AtF.of {w : World} {b o : Nat} {x : Fd} (h : ShF.At w b o x) : AtF w b o x := ⟨h 0 (by decide), h 1 (by decide), h 2 (by decide), h 3 (by decide)⟩
theorem rowF_at {w : World} {A : Option Addr} {n c : Nat} {l : List Fd} (h : ShF.Row w (.slice A n c) l) (hl : 0 < l.length) : ∃ b o, A = some ⟨b, o, none⟩ ∧ ∀ W, Ext w W → ∀ j, j < l.length → AtF W b (o + j * 4) (gf l j) := by
  obtain ⟨b, o, ha, h⟩ := h.at hl
  exact ⟨b, o, ha, fun W e j hj => AtF.of (h W e j hj).1⟩
theorem rowC_of {w : World} {v : Value} {l : List Cst} (h : ShC.Row w v l) (hok : ∀ x ∈ l, x.ok) : RowC w v l := by
  obtain ⟨A, c, h1, h2, h3, h4, h6, h7⟩ := h
  refine ⟨A, c, h1, h2, h3, h4, hok, fun hl => ?_⟩
  obtain ⟨b, o, ha, hb, hc⟩ := h6 hl
  exact ⟨b, o, ha, hb, fun j hj => AtC.of (hc j hj)⟩
theorem RowC.shp {w : World} {v : Value} {l : List Cst} (h : RowC w v l) : ShC.Row w v l := by
  obtain ⟨A, c, h1, h2, h3, h4, h5, h6⟩ := h
  refine ⟨A, c, h1, h2, h3, h4, fun hl => ?_, fun _ _ => trivial⟩
  obtain ⟨b, o, ha, hb, hc⟩ := h6 hl
  refine ⟨b, o, ha, hb, fun j hj i hi => ?_⟩
  obtain ⟨a0, a1, a2, a3, a4, a5⟩ := hc j hj
  have hi : i < 6 := hi
  match i, hi with
  | 0, _ => exact a0
  | 1, _ => exact a1
  | 2, _ => exact a2
  | 3, _ => exact a3
  | 4, _ => exact a4
  | 5, _ => exact a5
theorem OwnC.shp {B : Nat} {w : World} {v : Value} {l : List Cst} (h : OwnC B w 49 v l) : ShC.Own B w v l := ⟨h.1, fun _ _ => trivial⟩
def TyOk (t : Ty) : Prop := I64 t.k ∧ t.s.size ≤ 140737488351232
theorem TyOk.D {t : Ty} (h : TyOk t) : (tyD t).ok := ⟨h.1, by have := h.2; rw [Lib.size_eq] at this; exact this⟩
theorem gt_map (l : List Ty) (j : Nat) : gtD (l.map tyD) j = tyD (gt l j) := by
  unfold gtD gt
  rw [List.getD_eq_getElem?_getD, List.getD_eq_getElem?_getD, List.getElem?_map]
  cases l[j]? <;> rfl
theorem rowT_of {w : World} {v : Value} {l : List Ty} (h : ShT.Row w v l) (hok : ∀ x ∈ l, TyOk x) : RowT w v (l.map tyD) := by
  obtain ⟨A, c, h1, h2, h3, h4, h6, h7⟩ := h
  refine ⟨A, c, by rw [h1, List.length_map], by rw [List.length_map]; exact h2, h3, h4, fun x hx => ?_, fun hl => ?_⟩
  · obtain ⟨y, hy, rfl⟩ := List.mem_map.1 hx
    exact (hok y hy).D
  · rw [List.length_map] at hl
    obtain ⟨b, o, ha, hb, hc⟩ := h6 hl
    refine ⟨b, o, ha, hb, fun j hj => ?_⟩
    rw [List.length_map] at hj
    rw [gt_map]
    have h2 := hc j hj
    exact ⟨h2 0 (by decide), h2 1 (by decide)⟩
theorem OwnT.shp {B : Nat} {w : World} {v : Value} {l : List TyD} (h : OwnT B w 41 v l) : ShT.Own B w v (l.map tyO) := by
  refine ⟨?_, fun _ _ => trivial⟩
  have e : ((l.map tyO).flatMap fun x => (ShT.vals x).toList) = l.flatMap fun x => x.vals.toList := by
    rw [List.flatMap_map]
    rfl
  rw [e, List.length_map]
  exact h.1
def Cl.vals (c : Cl) (vp vi vf vm : Value) : Array Value := #[vp, .string c.nm, .string c.sup, .bool c.inf, vi, vf, vm]
def ClAt (w : World) (c : Cl) (vp vi vf vm : Value) : Prop := ShC.Row w vp c.pool ∧ ShS.Row w vi c.ifs ∧ ShF.Row w vf c.fds ∧ RowM w vm c.mts
theorem ClAt.ext {w w' : World} {c : Cl} {vp vi vf vm : Value} (h : ClAt w c vp vi vf vm) (e : Ext w w') : ClAt w' c vp vi vf vm := ⟨h.1.ext e, h.2.1.ext e, h.2.2.1.ext e, h.2.2.2.ext e⟩
def ClB (w : World) (g : Nat) (c : Cl) (vp vi vf vm : Value) : Prop := w.heap[g]? = some (.cells (c.vals vp vi vf vm) 27 (0, 0))
theorem ClB.ext {w w' : World} {g : Nat} {c : Cl} {vp vi vf vm : Value} (h : ClB w g c vp vi vf vm) (e : Ext w w') : ClB w' g c vp vi vf vm := (e.block g (lt_of_get h)).trans h
theorem ClB.cells {w : World} {g : Nat} {c : Cl} {vp vi vf vm : Value} (h : ClB w g c vp vi vf vm) :
    w.cell? ⟨g, 0, none⟩ = some vp ∧ w.cell? ⟨g, 1, none⟩ = some (.string c.nm) ∧ w.cell? ⟨g, 2, none⟩ = some (.string c.sup) ∧ w.cell? ⟨g, 3, none⟩ = some (.bool c.inf) ∧ w.cell? ⟨g, 4, none⟩ = some vi ∧ w.cell? ⟨g, 5, none⟩ = some vf ∧ w.cell? ⟨g, 6, none⟩ = some vm := by
  have e : ∀ i, w.cell? ⟨g, i, none⟩ = (c.vals vp vi vf vm)[i]? := fun i => by rw [cell_of_row w g i _ _ (0, 0) h]
  exact ⟨e 0, e 1, e 2, e 3, e 4, e 5, e 6⟩
theorem ClB.lt {w : World} {g : Nat} {c : Cl} {vp vi vf vm : Value} (h : ClB w g c vp vi vf vm) : g < w.heap.size := lt_of_get h
theorem ClB.new (w : World) (c : Cl) (vp vi vf vm : Value) : ClB (w.alloc (.cells (c.vals vp vi vf vm) 27)) w.heap.size c vp vi vf vm := heap_alloc_new w _
theorem new_at {w W : World} {cs : Array Value} {T : TypeId} (e : Ext (w.alloc (.cells cs T)) W) (i : Nat) : W.cell? ⟨w.heap.size, i, none⟩ = cs[i]? := by
  have h := (e.block w.heap.size (by simp)).trans (heap_alloc_new w _)
  rw [cell_of_row W _ i _ T (0, 0) h]
structure MeRoom (m : Me) : Prop where
  nm : m.nm.size ≤ 140737488351232
  ret : TyOk m.ret
  args : ∀ t ∈ m.args, TyOk t
  code : m.code.length ≤ 140737488351232
structure ClRoom (c : Cl) : Prop where
  pool : ∀ x ∈ c.pool, x.ok ∧ x.t.size ≤ 140737488351232
  nm : c.nm.size ≤ 140737488351232
  sup : c.sup.size ≤ 140737488351232
  ifs : ∀ s ∈ c.ifs, s.size ≤ 140737488351232
  fds : ∀ f ∈ c.fds, f.nm.size ≤ 140737488351232 ∧ TyOk f.ty
  mts : ∀ m ∈ c.mts, MeRoom m
end Go.Proofs.YtokmeomjdpfknaaGreatDoor
namespace Go.Proofs.YtokmeomjdpfknaaGreatDoor
open Go.RowKit
set_option linter.unusedVariables false

theorem gs_get {l : List ByteArray} {j : Nat} (h : j < l.length) : gs l j = l[j] := by
  unfold gs Shp.el
  rw [List.getD_eq_getElem?_getD, List.getElem?_eq_getElem h]
  rfl
theorem gs_take {l : List ByteArray} {j : Nat} (h : j < l.length) : l.take (j + 1) = l.take j ++ [gs l j] := by
  rw [gs_get h, List.take_append_getElem h]
theorem ret_dd {b c : Bool} (h : b = c) : Ending.returned (.bool b) = .returned (.bool c) := by rw [h]
theorem str_ne {s t : ByteArray} (h : ¬ s = t) : (s.toList == t.toList) = false := by
  rw [beq_eq_false_iff_ne]
  intro e
  have h1 : s.toList = s.data.toList := bs_nil s.data.toList
  have h2 : t.toList = t.data.toList := bs_nil t.data.toList
  rw [h1, h2] at e
  exact h (show bs s.data.toList = bs t.data.toList by rw [e])
set_option maxHeartbeats 4000000 in
theorem equalS_any (v1 v2 : Value) (l1 l2 : List ByteArray) (w : World) (h1 : ShS.Row w v1 l1) (h2 : ShS.Row w v2 l2) :
    Calls Tryz.prog 38 #[v1, v2] w fun e w' => e = .returned (.bool (decide (l1 = l2))) ∧ ∃ m, w' = w.drewN m := by
  have H1 := Lib.hid h1
  have H2 := Lib.hid h2
  obtain ⟨A1, c1, rfl, hc1, hm1, -⟩ := h1.cut
  obtain ⟨A2, c2, rfl, hc2, hm2, -⟩ := h2.cut
  clear h1 h2
  unfold maxLen at hm1 hm2
  by_cases hl : l1.length = l2.length
  · obtain ⟨n, hn⟩ : ∃ n, n = l1.length := ⟨_, rfl⟩
    rw [← hn] at hc1 H1 ⊢
    rw [← hl, ← hn] at hc2 H2 ⊢
    have Hn := Lib.hid hn
    have Hl := Lib.hid hl
    clear hn hl
    go_enter Tryz.func38, Tryz.ntmps38
    go_wp2
    go_loopw [13] (fun i wr => ∃ k m : Nat, k ≤ n ∧ i = .int .i64 k ∧ wr = w.drewN m ∧ Hid (l1.take k = l2.take k)) (fun i _ => n - (intOf i).toNat)
    case atStart => exact ⟨0, 0, by omega, rfl, rfl, Lib.hid rfl⟩
    case round =>
      obtain ⟨k, m, hk, rfl, rfl, Ht⟩ := hrel
      by_cases hlt : k < n
      · obtain ⟨b1, o1, rfl, hx1⟩ := rowS_at H1.out (by have := Hn.out; omega)
        obtain ⟨b2, o2, rfl, hx2⟩ := rowS_at H2.out (by have := Hn.out; have := Hl.out; omega)
        have y0 := hx1 w (Ext.refl w) k (by have := Hn.out; omega)
        have u0 := hx2 w (Ext.refl w) k (by have := Hn.out; have := Hl.out; omega)
        clear hx1 hx2
        obtain ⟨s, hs⟩ : ∃ s, gs l1 k = s := ⟨_, rfl⟩
        obtain ⟨t, ht⟩ : ∃ s, gs l2 k = s := ⟨_, rfl⟩
        rw [hs] at y0
        rw [ht] at u0
        by_cases he : s = t
        · have HE := Lib.hid (show gs l1 k = gs l2 k by rw [hs, ht, he])
          subst he
          clear hs ht
          go_wp2
          go_quiet (fail)
          go_wp2
          refine ⟨⟨k + 1, m + nq, by omega, by go_num, rfl, Lib.hid ?_⟩, by simp [intOf]; omega⟩
          rw [gs_take (by have := Hn.out; omega), gs_take (by have := Hn.out; have := Hl.out; omega), Ht.out, HE.out]
        · have HE := Lib.hid (show decide (l1 = l2) = false by
            rw [decide_eq_false_iff_not]
            intro e
            exact he (by rw [← hs, ← ht, e]))
          have hne := str_ne he
          clear hs ht he
          go_wp2
          go_quiet (fail)
          go_wp2
          go_ret
          exact ⟨ret_dd HE.out.symm, _, World.drewN_drewN _ _ _⟩
      · obtain rfl : k = n := by omega
        go_wp2
        go_ret
        refine ⟨ret_dd ?_, _, rfl⟩
        have := Ht.out
        rw [Hn.out] at this
        rw [List.take_length, Hl.out, List.take_length] at this
        exact (decide_eq_true this).symm
  · have hb : ((l1.length : Int) != (l2.length : Int)) = true := by simp; omega
    have HE := Lib.hid (show decide (l1 = l2) = false by rw [decide_eq_false_iff_not]; exact fun e => hl (by rw [e]))
    rw [HE.out]
    clear hl H1 H2
    go_enter Tryz.func38, Tryz.ntmps38
    go_wp2
    go_ret
    exact ⟨rfl, 0, rfl⟩
end Go.Proofs.YtokmeomjdpfknaaGreatDoor
namespace Go.Proofs.YtokmeomjdpfknaaGreatDoor
open Go.RowKit
set_option linter.unusedVariables false

def BlkV (w : World) (g : Nat) (v : Value) : Prop := w.heap[g]? = some (.cells #[.int .i64 0, .string ⟨#[]⟩, v] 44 (0, 0))
theorem BlkV.ext {w w' : World} {g : Nat} {v : Value} (h : BlkV w g v) (he : Ext w w') : BlkV w' g v := (he.block g (lt_of_get h)).trans h
theorem BlkV.kept {w w' : World} {g : Nat} {v : Value} {r : Option Nat} (h : BlkV w g v) (hw : w.grownBy w' r) (hr : ∀ k, r = some k → k ≠ g) : BlkV w' g v := (hw.block g (lt_of_get h) (fun e => hr g e.symm rfl)).trans h
theorem BlkV.cells {w : World} {g : Nat} {v : Value} (h : BlkV w g v) : w.cell? ⟨g, 0, none⟩ = some (.int .i64 0) ∧ w.cell? ⟨g, 1, none⟩ = some (.string ⟨#[]⟩) ∧ w.cell? ⟨g, 2, none⟩ = some v ∧ w.frozen? ⟨g, 0, none⟩ = false ∧ w.frozen? ⟨g, 1, none⟩ = false ∧ w.frozen? ⟨g, 2, none⟩ = false :=
  ⟨by rw [cell_of_row w g 0 _ _ (0, 0) h]; rfl, by rw [cell_of_row w g 1 _ _ (0, 0) h]; rfl, by rw [cell_of_row w g 2 _ _ (0, 0) h]; rfl, by simp [World.frozen?, show w.heap[g]? = _ from h], by simp [World.frozen?, show w.heap[g]? = _ from h], by simp [World.frozen?, show w.heap[g]? = _ from h]⟩
theorem BlkV.put {w : World} {g : Nat} {v : Value} (h : BlkV w g v) (u : Value) : BlkV (w.setCell ⟨g, 2, none⟩ u) g u := by
  have h1 := heap_setCell_same w g 2 _ 44 u h
  unfold BlkV
  rw [h1]
  rfl
theorem ComeD.take {L l : List UInt8} {ts : List TyD} (h : ComeD L ts l false) (hs : skipZ 41 l = (l, false)) (hn : ¬ ts.length = 16) (ht : (takeT l).2 ≠ 0) : ComeD L (ts ++ [(takeT l).1]) (l.drop (takeT l).2) false := by
  have := h.next hs hn
  rcases typZ_take l with ⟨g1, _⟩ | ⟨_, g2⟩
  · exact absurd g1 ht
  · rw [g2] at this
    exact this
end Go.Proofs.YtokmeomjdpfknaaGreatDoor
namespace Go.Proofs.YtokmeomjdpfknaaGreatDoor
open Go.RowKit
set_option linter.unusedVariables false

def fitsC (l : List Cst) (x : Cst) : Bool :=
  if x.k = 1 then Lib.validD x.t.data.toList else if x.k = 2 then decide (-2147483648 ≤ x.n) && decide (x.n ≤ 2147483647) else if x.k = 3 then true
  else if x.k = 4 then isK l x.a 1 else if x.k = 5 ∨ x.k = 6 then isK l x.a 4 && (isK l x.b 1 && isK l x.c 1) else false
theorem toList_nil {t : ByteArray} : t.toList = [] ↔ t = .empty :=
  ⟨fun h => toList_inj (by rw [h, ByteArray.toList_eq]; rfl), fun h => by rw [h, ByteArray.toList_eq]; rfl⟩
theorem may_named (l : List Cst) (x : Cst) : mayC l x = true ↔ x = namedC x ∧ fitsC l x = true := by
  obtain ⟨k, t, n, a, b, c⟩ := x
  unfold mayC
  rw [decide_eq_true_iff]
  unfold MayC namedC fitsC
  simp only [toList_nil]
  by_cases k1 : k = 1
  · subst k1; simp <;> try (constructor <;> (intro h; simp_all))
  · by_cases k2 : k = 2
    · subst k2; simp <;> try (constructor <;> (intro h; simp_all <;> omega))
    · by_cases k3 : k = 3
      · subst k3; simp <;> try (constructor <;> (intro h; simp_all))
      · by_cases k4 : k = 4
        · subst k4; simp <;> try (constructor <;> (intro h; simp_all))
        · by_cases k5 : k = 5
          · subst k5; simp <;> try (constructor <;> (intro h; simp_all))
          · by_cases k6 : k = 6
            · subst k6; simp <;> try (constructor <;> (intro h; simp_all))
            · simp [k1, k2, k3, k4, k5, k6]

set_option maxHeartbeats 2000000 in
theorem fits_anyP (v : Value) (l : List Cst) (x : Cst) (w : World) (h : RowC w v l) (hx : x.ok) (hz : (gc l 0).k = 0) (hT : Tabs w) (hs : x.t.size ≤ 140737488351232) :
    Calls Tryz.prog 113 #[v, .agg x.vals] w (RetB w (fitsC l x)) := by
  have hen : (encZ x.t.data.toList).length ≤ 9223372036854775807 := by
    have h1 := enc_len x.t.data.toList
    have h2 : x.t.data.toList.length = x.t.size := (Lib.size_eq _).symm
    omega
  have hok := hx
  obtain ⟨k, t, n, a, b, c⟩ := x
  obtain ⟨ok_k, ok_n, ok_a, ok_b, ok_c⟩ := hx
  simp only at ok_k ok_n ok_a ok_b ok_c hs hen
  have hR : RowC (w.alloc (.cells (Cst.vals ⟨k, t, n, a, b, c⟩) 49)) v l := h.ext ((Ext.refl _).alloc _)
  have HR := Lib.hid hR
  have HT := Lib.hid (hT.ext ((Ext.refl w).alloc (.cells (Cst.vals ⟨k, t, n, a, b, c⟩) 49)))
  clear hR hT
  by_cases k1 : k = 1
  · subst k1
    rw [show fitsC l ⟨1, t, n, a, b, c⟩ = Lib.validD t.data.toList by simp [fitsC]]
    obtain ⟨e1, he1⟩ : ∃ e1, Lib.validD t.data.toList = e1 := ⟨_, rfl⟩
    rw [he1]
    have H1 := Lib.hid he1
    clear he1
    unfold Cst.vals at HR HT ⊢
    go_enter Tryz.func113, Tryz.ntmps113
    go_wp2_with fail
    refine (Len_any t _ HT.out (by omega) hen).mono ?_
    rintro e w1 ⟨u1, rfl, ha, x1⟩
    have y1 := ((Ext.refl w).alloc _).trans x1
    rcases ha with ⟨hv, rfl⟩ | ⟨hv, rfl⟩
    · rw [H1.out] at hv
      subst hv
      clear x1
      go_wp2
      go_ret
      exact ⟨rfl, y1⟩
    · rw [H1.out] at hv
      subst hv
      clear x1
      go_wp2
      go_ret
      exact ⟨rfl, y1⟩
  by_cases k2 : k = 2
  · subst k2
    rw [show fitsC l ⟨2, t, n, a, b, c⟩ = (decide (-2147483648 ≤ n) && decide (n ≤ 2147483647)) by simp [fitsC]]
    unfold Cst.vals at HR HT ⊢
    by_cases h1 : -2147483648 ≤ n
    · rw [decide_eq_true h1]
      go_enter Tryz.func113, Tryz.ntmps113
      go_wp2
      go_ret
      exact ⟨ret_bP (by simp), (Ext.refl w).alloc _⟩
    · rw [decide_eq_false h1]
      go_enter Tryz.func113, Tryz.ntmps113
      go_wp2
      go_ret
      exact ⟨ret_bP (by simp), (Ext.refl w).alloc _⟩
  by_cases k3 : k = 3
  · subst k3
    rw [show fitsC l ⟨3, t, n, a, b, c⟩ = true by simp [fitsC]]
    unfold Cst.vals at HR HT ⊢
    go_enter Tryz.func113, Tryz.ntmps113
    go_wp2
    go_ret
    exact ⟨rfl, (Ext.refl w).alloc _⟩
  by_cases k4 : k = 4
  · subst k4
    rw [show fitsC l ⟨4, t, n, a, b, c⟩ = isK l a 1 by simp [fitsC]]
    unfold Cst.vals at HR HT ⊢
    go_enter Tryz.func113, Tryz.ntmps113
    go_wp2_with fail
    refine (is_any _ l _ _ _ HR.out ok_a (by unfold I64; omega) hz (by decide)).mono ?_
    rintro e w1 ⟨rfl, rfl⟩
    go_wp2
    go_ret
    exact ⟨rfl, (Ext.refl w).alloc _⟩
  by_cases k5 : k = 5 ∨ k = 6
  · rw [show fitsC l ⟨k, t, n, a, b, c⟩ = (isK l a 4 && (isK l b 1 && isK l c 1)) by simp [fitsC, k1, k2, k3, k4, k5]]
    obtain ⟨e1, he1⟩ : ∃ e1, isK l a 4 = e1 := ⟨_, rfl⟩
    rw [he1]
    have H1 := Lib.hid he1
    clear he1
    unfold Cst.vals at HR HT ⊢
    rcases k5 with rfl | rfl
    all_goals
      cases e1
      · go_enter Tryz.func113, Tryz.ntmps113
        go_wp2_with fail
        refine (is_any _ l _ _ _ HR.out ok_a (by unfold I64; omega) hz (by decide)).mono ?_
        rw [H1.out]
        rintro e w1 ⟨rfl, rfl⟩
        go_wp2
        go_ret
        exact ⟨rfl, (Ext.refl w).alloc _⟩
      · go_enter Tryz.func113, Tryz.ntmps113
        go_wp2_with fail
        refine (is_any _ l _ _ _ HR.out ok_a (by unfold I64; omega) hz (by decide)).mono ?_
        rw [H1.out]
        rintro e w1 ⟨rfl, rfl⟩
        go_wp2_with fail
        refine (namesTexts_any _ l ⟨_, t, n, a, b, c⟩ _ HR.out hok hz).mono ?_
        rintro e w1 ⟨rfl, x1⟩
        go_wp2
        go_ret
        exact ⟨rfl, ((Ext.refl w).alloc _).trans x1⟩
  rw [show fitsC l ⟨k, t, n, a, b, c⟩ = false by simp [fitsC, k1, k2, k3, k4, k5]]
  have n1 : (k == 1) = false := by simpa using k1
  have n2 : (k == 2) = false := by simpa using k2
  have n3 : (k == 3) = false := by simpa using k3
  have n4 : (k == 4) = false := by simpa using k4
  have n5 : (k == 5) = false := by simpa using (fun h => k5 (.inl h))
  have n6 : (k == 6) = false := by simpa using (fun h => k5 (.inr h))
  clear k5
  unfold Cst.vals at HR HT ⊢
  go_enter Tryz.func113, Tryz.ntmps113
  go_wp2
  go_ret
  exact ⟨rfl, (Ext.refl w).alloc _⟩

theorem tailC {w : World} {v : Value} {l : List Cst} (h : RowC w v l) (h0 : 0 < l.length) :
    ∃ A c, (∀ W, (Instr.sliceAt 22 v (some (.int .i64 1)) none none).run Tryz.prog W = .ok (.slice A (l.length - 1) c) W) ∧ (∀ W, (Instr.slice 22 v (some (.int .i64 1)) none none).run Tryz.prog W = .ok (.slice A (l.length - 1) c) W) ∧ l.length - 1 ≤ c ∧ c ≤ maxLen ∧
      ∀ j, j + 1 < l.length → ∃ b o, A = some ⟨b, o, none⟩ ∧ b < w.heap.size ∧ At6 w b (o + j * 6) (gc l (j + 1)) := by
  obtain ⟨A, c, rfl, h2, h3, h4, h5, h6⟩ := h
  obtain ⟨b, o, rfl, hb, hc⟩ := h6 h0
  obtain ⟨n, hn⟩ : ∃ n, l.length = n := ⟨_, rfl⟩
  rw [hn] at h0 h2 hc ⊢
  have hm : c ≤ maxLen := h3
  unfold maxLen at h3
  by_cases hc1 : c = 1
  · have : n = 1 := by omega
    subst this hc1
    exact ⟨some ⟨b, o, none⟩, 0, fun W => by clear hc; go_simp, fun W => by clear hc; go_simp, by omega, by omega, fun j hj => by omega⟩
  · have k1 : ¬ (n : Int) < 1 := by omega
    refine ⟨some ⟨b, o + 6, none⟩, c - 1, fun W => by clear hc; go_simp, fun W => by clear hc; go_simp, by omega, by omega, fun j hj => ⟨b, o + 6, rfl, hb, ?_⟩⟩
    have := hc (j + 1) hj
    rw [show o + (j + 1) * 6 = o + 6 + j * 6 by omega] at this
    exact this
theorem run_neqC (x y : Cst) (W : World) : (binOp .neq 49 (.agg x.vals) (.agg y.vals)).run Tryz.prog W = .ok (.bool (!eqC x y)) W := run_neq6 x y W

set_option maxRecDepth 100000 in
set_option maxHeartbeats 4000000 in
theorem Check_anyP (v : Value) (l : List Cst) (w : World) (h : RowC w v l) (hT : Tabs w) (hR : Texts l) :
    Calls Tryz.prog 59 #[v] w fun e w' => e = .returned (.int .i64 (checkC l)) ∧ Ext w w' := by
  have hrow := h
  obtain ⟨A, cp, rfl, h2, h3, h4, h5, h6⟩ := id h
  unfold maxLen at h3
  obtain ⟨n, hn⟩ : ∃ n, n = l.length := ⟨_, rfl⟩
  have HN := Lib.hid hn
  rw [← hn] at hrow h h2 h6 ⊢
  by_cases hbig : 4096 < n
  · have HB := Lib.hid (checkC_big (l := l) (by rw [← hn]; exact hbig))
    clear h6 h5 h4 hn
    go_enter Tryz.func59, Tryz.ntmps59
    go_wp2
    go_ret
    exact ⟨ret_i HB.out.symm, Ext.refl _⟩
  · by_cases h0 : n = 0
    · have e : l = [] := List.eq_nil_of_length_eq_zero (by omega)
      subst e
      subst h0
      clear h6 h5 h4 hn HN
      go_enter Tryz.func59, Tryz.ntmps59
      go_wp2
      go_ret
      exact ⟨ret_i checkC_nil.symm, Ext.refl _⟩
    · obtain ⟨bl, o, rfl, _, hc⟩ := h6 (by omega)
      obtain ⟨a0, a1, a2, a3, a4, a5⟩ := hc 0 (by omega)
      simp only [Nat.zero_mul, Nat.add_zero] at a0 a1 a2 a3 a4 a5
      have hnz : ((n : Int) == 0) = false := by simp; omega
      have hne0 := fun W => run_neqC (gc l 0) c0 W
      unfold Cst.vals at hne0
      by_cases hg : gc l 0 = c0
      · rw [eqC_yes hg, hg] at hne0
        rw [hg] at a0 a1 a2 a3 a4 a5
        simp only [c0] at a0 a1 a2 a3 a4 a5 hne0
        have HG := Lib.hid hg
        have hz : (gc l 0).k = 0 := by rw [hg]; rfl
        have HZ := Lib.hid hz
        obtain ⟨A2, c2, t4, t4', t5, t6, ht⟩ := tailC h (by rw [← hn]; omega)
        rw [← hn] at t4 t4' t5 ht
        unfold maxLen at t6
        obtain ⟨m, hm⟩ : ∃ m, n - 1 = m := ⟨_, rfl⟩
        rw [hm] at t4 t4' t5
        clear hg h4 h6 hc hn hz
        go_enter Tryz.func59, Tryz.ntmps59
        go_wp2
        go_loopw [21] (fun i wr => ∃ k : Nat, i = .int .i64 k ∧ k ≤ m ∧ Ext w wr ∧ Hid (∀ j, 1 ≤ j → j < k + 1 → mayC l (gc l j) = true)) (fun i _ => m - (intOf i).toNat)
        case atStart => exact ⟨0, rfl, by omega, Ext.refl _, fun j h1 h2 => by omega⟩
        case round =>
          clear a0 a1 a2 a3 a4 a5 hne0 t4 t4'
          obtain ⟨k, rfl, hkm, hx, HA⟩ := hrel
          by_cases hlt : k < m
          · obtain ⟨b2, o2, rfl, hb2, hat⟩ := ht k (by omega)
            obtain ⟨a0, a1, a2, a3, a4, a5⟩ := hat.ext hx hb2
            have hok := gc_ok h5 (k + 1)
            have hsz := hR.at_ (k + 1)
            have hmn := may_named l (gc l (k + 1))
            have c1 := fun W => named_any (gc l (k + 1)) W
            have c2 := fun W hW hTW => fits_anyP (.slice (some ⟨bl, o, none⟩) n cp) l (gc l (k + 1)) W hW hok HZ.out hTW hsz
            have hne := fun W => run_neqC (gc l (k + 1)) (namedC (gc l (k + 1))) W
            obtain ⟨y, hy⟩ : ∃ y, gc l (k + 1) = y := ⟨_, rfl⟩
            rw [hy] at a0 a1 a2 a3 a4 a5 hmn c1 c2 hne
            have HY := Lib.hid hy
            obtain ⟨z, hzz⟩ : ∃ z, namedC y = z := ⟨_, rfl⟩
            obtain ⟨fb, hfb⟩ : ∃ fb, fitsC l y = fb := ⟨_, rfl⟩
            obtain ⟨eb, heb⟩ : ∃ eb, eqC y z = eb := ⟨_, rfl⟩
            rw [hzz] at c1 hne hmn
            rw [hfb] at c2 hmn
            rw [heb] at hne
            have hmy : mayC l y = (eb && fb) := by
              rw [← heb]
              by_cases hyz : y = z
              · rw [eqC_yes hyz, Bool.true_and]
                cases fb
                · cases hq : mayC l y
                  · rfl
                  · exact absurd (hmn.1 hq).2 (by simp)
                · exact hmn.2 ⟨hyz, rfl⟩
              · rw [eqC_no hyz, Bool.false_and]
                cases hq : mayC l y
                · rfl
                · exact absurd (hmn.1 hq).1 hyz
            obtain ⟨kk, t, nn, a, b, c⟩ := y
            obtain ⟨zk, zt, zn, za, zb, zc⟩ := z
            simp only at a0 a1 a2 a3 a4 a5
            have at3 : At0 (wr.alloc (.cells (Cst.vals ⟨kk, t, nn, a, b, c⟩) 49)) wr.heap.size ⟨kk, t, nn, a, b, c⟩ := At0.of (heap_alloc_new _ _)
            have hg3 : wr.heap.size < (wr.alloc (.cells (Cst.vals ⟨kk, t, nn, a, b, c⟩) 49)).heap.size := by simp
            unfold Cst.vals at c1 c2 hne
            have C1 := Lib.hid c1
            have C2 := Lib.hid c2
            have HM := Lib.hid hmy
            obtain ⟨z0, z1, z2, z3, z4, z5⟩ := id at3
            simp only at z0 z1 z2 z3 z4 z5
            unfold Cst.vals at z0 z1 z2 z3 z4 z5
            clear c1 c2 hmn hzz hfb heb hy hat hmy hsz
            cases eb
            · have HC : Hid (checkC l = 40) := checkC_no (by rw [← HN.out]; omega) (fun ha => by
                have := ha.2 (k + 1) (by omega) (by rw [← HN.out]; omega)
                rw [HY.out, HM.out] at this
                cases this)
              go_wp2_with fail
              first
                | (go_region_with (first
                    | (go_at_call 112; ((with_reducible refine (C1.out _).mono ?_); rintro e w4 ⟨rfl, x4'⟩); have x4 : Ext (wr.alloc (.cells (Cst.vals ⟨kk, t, nn, a, b, c⟩) 49)) w4 := ((Ext.refl _).drew).trans x4'; have at4 := at3.ext x4 hg3; obtain ⟨z40, z41, z42, z43, z44, z45⟩ := id at4; simp only at z40 z41 z42 z43 z44 z45)))
                | fail
              all_goals
                go_wp2
                go_ret
                exact ⟨ret_i HC.out.symm, (hx.alloc _).trans x4⟩
            · cases fb
              · have HC : Hid (checkC l = 40) := checkC_no (by rw [← HN.out]; omega) (fun ha => by
                  have := ha.2 (k + 1) (by omega) (by rw [← HN.out]; omega)
                  rw [HY.out, HM.out] at this
                  cases this)
                go_wp2_with fail
                go_region_held3 (fun w' => w'.cell? ⟨wr.heap.size, 0, none⟩ = some (.int .i64 kk) ∧ w'.cell? ⟨wr.heap.size, 1, none⟩ = some (.string t) ∧ w'.cell? ⟨wr.heap.size, 2, none⟩ = some (.int .i64 nn) ∧ w'.cell? ⟨wr.heap.size, 3, none⟩ = some (.int .i64 a) ∧ w'.cell? ⟨wr.heap.size, 4, none⟩ = some (.int .i64 b) ∧ w'.cell? ⟨wr.heap.size, 5, none⟩ = some (.int .i64 c)) (first | go_keep | (refine ⟨?_, ?_, ?_, ?_, ?_, ?_⟩ <;> assumption)) (first
                  | (go_at_call 112; ((with_reducible refine (C1.out _).mono ?_); rintro e w4 ⟨rfl, x4'⟩); have x4 : Ext (wr.alloc (.cells (Cst.vals ⟨kk, t, nn, a, b, c⟩) 49)) w4 := ((Ext.refl _).drew).trans x4'; have at4 := at3.ext x4 hg3; obtain ⟨z40, z41, z42, z43, z44, z45⟩ := id at4; simp only at z40 z41 z42 z43 z44 z45)
                  | (go_at_call 113; ((with_reducible refine (C2.out _ (by exact hrow.ext ((hx.alloc _).trans x4)) (by exact hT.ext ((hx.alloc _).trans x4))).mono ?_); rintro e w6 ⟨rfl, x6'⟩); have x6 := x4.trans x6'; have at6 := at4.ext x6' (Nat.lt_of_lt_of_le hg3 x4.size); obtain ⟨z60, z61, z62, z63, z64, z65⟩ := id at6; simp only at z60 z61 z62 z63 z64 z65))
                all_goals
                  go_wp2
                  go_ret
                  exact ⟨ret_i HC.out.symm, (hx.alloc _).trans x6⟩
              · go_wp2_with fail
                go_region_held3 (fun w' => w'.cell? ⟨wr.heap.size, 0, none⟩ = some (.int .i64 kk) ∧ w'.cell? ⟨wr.heap.size, 1, none⟩ = some (.string t) ∧ w'.cell? ⟨wr.heap.size, 2, none⟩ = some (.int .i64 nn) ∧ w'.cell? ⟨wr.heap.size, 3, none⟩ = some (.int .i64 a) ∧ w'.cell? ⟨wr.heap.size, 4, none⟩ = some (.int .i64 b) ∧ w'.cell? ⟨wr.heap.size, 5, none⟩ = some (.int .i64 c)) (first | go_keep | (refine ⟨?_, ?_, ?_, ?_, ?_, ?_⟩ <;> assumption)) (first
                  | (go_at_call 112; ((with_reducible refine (C1.out _).mono ?_); rintro e w4 ⟨rfl, x4'⟩); have x4 : Ext (wr.alloc (.cells (Cst.vals ⟨kk, t, nn, a, b, c⟩) 49)) w4 := ((Ext.refl _).drew).trans x4'; have at4 := at3.ext x4 hg3; obtain ⟨z40, z41, z42, z43, z44, z45⟩ := id at4; simp only at z40 z41 z42 z43 z44 z45)
                  | (go_at_call 113; ((with_reducible refine (C2.out _ (by exact hrow.ext ((hx.alloc _).trans x4)) (by exact hT.ext ((hx.alloc _).trans x4))).mono ?_); rintro e w6 ⟨rfl, x6'⟩); have x6 := x4.trans x6'; have at6 := at4.ext x6' (Nat.lt_of_lt_of_le hg3 x4.size); obtain ⟨z60, z61, z62, z63, z64, z65⟩ := id at6; simp only at z60 z61 z62 z63 z64 z65))
                all_goals
                  go_wp2
                  go_roundw
                  case rel =>
                    refine ⟨k + 1, by go_num, by omega, (hx.alloc _).trans x6, fun j h1 h2 => ?_⟩
                    by_cases hjk : j = k + 1
                    · rw [hjk, HY.out]; exact HM.out
                    · exact HA.out j h1 (by omega)
                  case measure => simp [intOf]; omega
          · have HC : Hid (checkC l = 0) := checkC_yes (by rw [← HN.out]; omega) (by rw [← HN.out]; omega) ⟨HG.out, fun j h1 h2 => HA.out j h1 (by rw [← HN.out] at h2; omega)⟩
            go_wp2
            go_ret
            exact ⟨ret_i HC.out.symm, hx⟩
      · have HB := Lib.hid (checkC_no (l := l) (by omega) (fun ha => hg ha.1))
        clear h5 h4 hn hc hne0
        go_enter Tryz.func59, Tryz.ntmps59
        go_wp2_with fail
        all_goals first
          | exact (hg (zero_of ‹(gc l 0).k = 0› ‹(gc l 0).t.toList = []› ‹(gc l 0).n = 0› ‹(gc l 0).a = 0› ‹(gc l 0).b = 0› ‹(gc l 0).c = 0›)).elim
          | (go_ret
             exact ⟨ret_i HB.out.symm, Ext.refl _⟩)
end Go.Proofs.YtokmeomjdpfknaaGreatDoor
