/- Several texts of this proof, one behind the other. -/
import Derived.Test.YthobicnhophdlaaRows
import Derived.Test.YthobicnhophdlaaZa
import Derived.ProofKit
import Derived.OpenShut
import Derived.ShutString
import Derived.ChangeOld
import Derived.SizedLaws
import Derived.Lib.ValidLaws
import Derived.Deep.Slices
import Derived.Deep.Fields
import Derived.ChangeSame
import Derived.Test.YthobicnhophdlaaZd
/- Parameters that are lists of structs, and structs, opened: what is told of them, and how great they may be. -/
namespace Go.Proofs.Ythobicnhophdlaa
open Go.RowKit Go.ChangeShapes Go.WideShapes Go.Deep
set_option linter.unusedVariables false
theorem own : ownKnob Try.prog.godebug = none := by kernel_rfl
theorem laidOut : laidOutB Try.prog = true := by kernel_rfl
theorem bounds_i64 {x : Int} (h : (Lit.int .i64 x).wf = true) : -9223372036854775808 ≤ x ∧ x ≤ 9223372036854775807 := by
  simp [Lit.wf, IntKind.min, IntKind.max, IntKind.signed, IntKind.bits] at h
  omega
/-- An int of 64 bits. -/
def B64 (x : Int) : Prop := -9223372036854775808 ≤ x ∧ x ≤ 9223372036854775807
/-- Things that there are at each place make a list. -/
theorem list_ofG {α : Type} (S : Shp α) {Q : Nat → α → Prop} : ∀ (n : Nat), (∀ i, i < n → ∃ y, Q i y) → ∃ l : List α, l.length = n ∧ ∀ i, i < n → Q i (S.el l i) := by
  intro n
  induction n with
  | zero => exact fun _ => ⟨[], rfl, fun i h => absurd h (Nat.not_lt_zero i)⟩
  | succ n ih =>
    intro h
    obtain ⟨l, hl, hq⟩ := ih (fun i hi => h i (by omega))
    obtain ⟨y, hy⟩ := h n (by omega)
    refine ⟨l ++ [y], by simp [hl], fun i hi => ?_⟩
    by_cases hin : i < n
    · have e : S.el (l ++ [y]) i = S.el l i := by simp [Shp.el, List.getElem?_append_left (show i < l.length by omega)]
      rw [e]
      exact hq i hin
    · have e : S.el (l ++ [y]) i = y := by
        have : i = l.length := by omega
        subst this
        simp [Shp.el]
      rw [e, show i = n by omega]
      exact hy
section
variable {H : Type} {enc : TypeId × Value → H} {w : World}
/-- No part weighs more than there is reach. -/
def Light (t : TypeId) (d : DataW H) : Prop := ∀ x ∈ d.weights Try.prog t, x ≤ reachBytes
theorem light_all {t : TypeId} : ∀ {ds : List (DataW H)}, (∀ x ∈ DataW.weightsAll Try.prog t ds, x ≤ reachBytes) → ∀ {d : DataW H}, d ∈ ds → Light t d := by
  intro ds
  induction ds with
  | nil => intro _ d h; cases h
  | cons a ds ih =>
    intro hw d h
    rw [DataW.weightsAll] at hw
    rcases List.mem_cons.1 h with rfl | h
    · exact fun x hx => hw x (List.mem_append_left _ hx)
    · exact ih (fun x hx => hw x (List.mem_append_right _ hx)) h
theorem light_slice {t e : TypeId} {ds sp : List (DataW H)} (ht : Try.prog.underlying t = some (.slice e)) (h : Light t (.slice ds sp : DataW H)) : (ds.length + sp.length) * Try.prog.bytesOf e ≤ reachBytes ∧ ∀ d ∈ ds, Light e d := by
  have hu : (DataW.slice ds sp : DataW H).weights Try.prog t = (ds.length + sp.length) * Try.prog.bytesOf e :: (DataW.weightsAll Try.prog e ds ++ DataW.weightsAll Try.prog e sp) := by
    rw [DataW.weights, ht]
  unfold Light at h
  rw [hu] at h
  exact ⟨h _ (List.mem_cons_self ..), fun d hd => light_all (fun x hx => h x (List.mem_cons_of_mem _ (List.mem_append_left _ hx))) hd⟩
theorem light_each : ∀ {ts : List TypeId} {ds : List (DataW H)}, (∀ x ∈ DataW.weightsEach Try.prog ts ds, x ≤ reachBytes) → ∀ {j : Nat} {t : TypeId} {d : DataW H}, ts[j]? = some t → ds[j]? = some d → Light t d := by
  intro ts
  induction ts with
  | nil => intro ds _ j t d ht; simp at ht
  | cons a ts ih =>
    intro ds h j t d ht hd
    match ds, hd with
    | [], hd => simp at hd
    | b :: ds, hd =>
      rw [DataW.weightsEach] at h
      match j, ht, hd with
      | 0, ht, hd =>
        simp at ht hd
        subst ht hd
        exact fun x hx => h x (List.mem_append_left _ hx)
      | j + 1, ht, hd => exact ih (fun x hx => h x (List.mem_append_right _ hx)) (by simpa using ht) (by simpa using hd)
theorem light_struct {t : TypeId} {fs : Array Field} {ds : List (DataW H)} (ht : Try.prog.underlying t = some (.struct fs)) (h : Light t (.agg ds : DataW H)) {j : Nat} {f : Field} {d : DataW H} (hf : fs[j]? = some f) (hd : ds[j]? = some d) : Light f.type d := by
  have hu : (DataW.agg ds : DataW H).weights Try.prog t = DataW.weightsEach Try.prog (fs.toList.map (·.type)) ds := by
    rw [DataW.weights, ht]
  unfold Light at h
  rw [hu] at h
  exact light_each h (j := j) (by simp [hf]) hd
theorem light_of {ts : List TypeId} {ds : List (DataW H)} (h : (DataW.weightsEach Try.prog ts ds).all (· ≤ reachBytes) = true) {j : Nat} {t : TypeId} {d : DataW H} (ht : ts[j]? = some t) (hd : ds[j]? = some d) : Light t d :=
  light_each (fun x hx => of_decide_eq_true (List.all_eq_true.1 h x hx)) ht hd
/-- A list of structs. -/
theorem open_listG {α : Type} (S : Shp α) {t : TypeId} {bytes : Nat} {Q : α → Prop} (ht : Try.prog.underlying t = some (.slice S.T)) (hk : Try.prog.cellsOf S.T = S.n) (hb : Try.prog.bytesOf S.T = bytes)
    (hel : ∀ (fuel : Nat) (cs : List Value) (x : DataW H × List MemPlace), DataW.trod enc Try.prog w 0 (fun _ => true) true fuel S.T cs = some x → Light S.T x.1 → ∃ y : α, cs = (S.vals y).toList ∧ S.nest w y ∧ Q y)
    {fuel : Nat} {cs : List Value} {x : DataW H × List MemPlace} (h : DataW.trod enc Try.prog w 0 (fun _ => true) true fuel t cs = some x) (hl : Light t x.1) :
    ∃ (A : Option Addr) (n c : Nat) (l : List α), cs = [.slice A n c] ∧ l.length = n ∧ S.Row w (.slice A n c) l ∧ l.length * bytes ≤ reachBytes ∧ ∀ y ∈ l, Q y := by
  rcases open_slice ht h with ⟨rfl, rfl⟩ | ⟨a, len, cap, m, n, D, Pl, rfl, hbs, hlc, hm, hmm, rfl, hi⟩
  · exact ⟨none, 0, 0, [], rfl, rfl, Shp.Row.nil S w, by simp, (fun _ h => by cases h)⟩
  · have hlm : len ≤ m := by rw [hmm]; split <;> omega
    obtain ⟨hw1, hw2⟩ := light_slice ht hl
    obtain ⟨l, hll, hq⟩ := list_ofG S (Q := fun i y => S.nest w y ∧ Q y ∧ ∀ j, j < S.n → w.cell? (a.add (i * S.n + j)) = (S.vals y)[j]?) len (fun i hil => by
      obtain ⟨cs', hc, ht'⟩ := hi i (by omega)
      rw [hk] at hc
      obtain ⟨y, hv, hn, hqy⟩ := hel _ _ _ ht' (hw2 _ (List.mem_map.2 ⟨i, by simp [hil], rfl⟩))
      obtain ⟨_, hcl, hat⟩ := World.cells?_some hc
      refine ⟨y, hn, hqy, fun j hj => ?_⟩
      have := hat j hj
      rw [← Go.Deep.add_add, this, hv]
      simp)
    refine ⟨some a, len, cap, l, rfl, hll, ⟨some a, cap, by rw [hll], by omega, hm, (fun h => by cases h), fun hp => ?_, fun y hy => ?_⟩, ?_, fun y hy => ?_⟩
    · have hp0 := S.pos
      have h0 := (hq 0 (by omega)).2.2 0 hp0
      obtain ⟨b, o, spot⟩ := a
      have hsz := S.size (S.el l 0)
      have hg : (S.vals (S.el l 0))[0]? = some ((S.vals (S.el l 0))[0]'(by omega)) := Array.getElem?_eq_getElem _
      rw [hg] at h0
      have hs : spot = none := by simpa [Addr.add] using World.cell?_spot h0
      subst hs
      refine ⟨b, o, rfl, by have := World.block_lt_of_cell? w _ h0; rwa [Addr.add_lit] at this, fun j hj i hi => ?_⟩
      have hc := (hq j (by omega)).2.2 i hi
      rw [Addr.add_lit] at hc
      rw [Nat.add_assoc]
      exact hc
    · obtain ⟨i, hi', rfl⟩ := S.el_of_mem hy
      exact (hq i (by omega)).1
    · rw [hb] at hw1
      simp only [List.length_map, List.length_range] at hw1
      rw [hll]
      exact Nat.le_trans (Nat.mul_le_mul_right _ (Nat.le_add_right _ _)) hw1
    · obtain ⟨i, hi', rfl⟩ := S.el_of_mem hy
      exact (hq i (by omega)).2.1
/-- A list of ints. -/
theorem open_listI {k : IntKind} {t e : TypeId} {bytes : Nat} (ht : Try.prog.underlying t = some (.slice e)) (he : Try.prog.underlying e = some (.int k)) (hk : Try.prog.cellsOf e = 1) (hb : Try.prog.bytesOf e = bytes)
    {fuel : Nat} {cs : List Value} {x : DataW H × List MemPlace} (h : DataW.trod enc Try.prog w 0 (fun _ => true) true fuel t cs = some x) (hl : Light t x.1) :
    ∃ (A : Option Addr) (n c : Nat) (l : List Int), cs = [.slice A n c] ∧ l.length = n ∧ Row w k (.slice A n c) l ∧ l.length * bytes ≤ reachBytes := by
  rcases open_ints ht he hk h with ⟨rfl, rfl⟩ | ⟨a, n, c, zs, rfl, _, hlc, hm, hz, rfl, hcell, hwz⟩
  · exact ⟨none, 0, 0, [], rfl, rfl, (Own.nil 0 _ 0 _).row, by simp⟩
  · simp only [if_true] at hz
    obtain ⟨hw1, -⟩ := light_slice ht hl
    rw [hb] at hw1
    simp only [lits, List.length_map, List.length_take, List.length_drop] at hw1
    have hln : (zs.take n).length = n := by simp; omega
    refine ⟨some a, n, c, zs.take n, rfl, hln, row_of_open hlc hm hz hcell hwz, ?_⟩
    rw [hln]
    refine Nat.le_trans (Nat.mul_le_mul_right _ ?_) hw1
    omega
/-- What is told of an instruction that comes in. -/
def InOk (e : InV) : Prop := (B64 e.1.a ∧ B64 e.1.o ∧ B64 e.1.n ∧ B64 e.1.m) ∧ e.1.to.length * 8 ≤ reachBytes ∧ e.1.ks.length * 8 ≤ reachBytes
set_option maxRecDepth 100000 in
theorem open_insG (fuel : Nat) (cs : List Value) (x : DataW H × List MemPlace) (h : DataW.trod enc Try.prog w 0 (fun _ => true) true fuel 32 cs = some x) (hl : Light 32 x.1) :
    ∃ y : InV, cs = y.vals.toList ∧ Nest w y ∧ InOk y := by
  obtain ⟨ys, n', hn', hy, hlen, hyl, hf⟩ := DataW.trod_struct Try.underlying32 h
  have hc : cs.length = 6 := hlen.trans (by kernel_rfl)
  have k3 : Try.prog.cellsOf 3 = 1 := by kernel_rfl
  have k9 : Try.prog.cellsOf 30 = 1 := by kernel_rfl
  have b3 : Try.prog.bytesOf 3 = 8 := by kernel_rfl
  match cs, hc with
  | [c0, c1, c2, c3, c4, c5], _ =>
    have hyl' : ys.length = 6 := hyl
    clear hyl
    match ys, hyl' with
    | [y0, y1, y2, y3, y4, y5], _ =>
      subst hy
      have h0 : DataW.trod enc Try.prog w 0 (fun _ => true) true n' 3 [c0] = some y0 := by simpa [k3, k9] using hf 0 _ rfl
      have h1 : DataW.trod enc Try.prog w 0 (fun _ => true) true n' 3 [c1] = some y1 := by simpa [k3, k9] using hf 1 _ rfl
      have h2 : DataW.trod enc Try.prog w 0 (fun _ => true) true n' 3 [c2] = some y2 := by simpa [k3, k9] using hf 2 _ rfl
      have h3 : DataW.trod enc Try.prog w 0 (fun _ => true) true n' 3 [c3] = some y3 := by simpa [k3, k9] using hf 3 _ rfl
      have h4 : DataW.trod enc Try.prog w 0 (fun _ => true) true n' 30 [c4] = some y4 := by simpa [k3, k9] using hf 4 _ rfl
      have h5 : DataW.trod enc Try.prog w 0 (fun _ => true) true n' 30 [c5] = some y5 := by simpa [k3, k9] using hf 5 _ rfl
      obtain ⟨x0, e0, r0, w0⟩ := DataW.trod_int Try.underlying3 h0
      obtain ⟨x1, e1, r1, w1⟩ := DataW.trod_int Try.underlying3 h1
      obtain ⟨x2, e2, r2, w2⟩ := DataW.trod_int Try.underlying3 h2
      obtain ⟨x3, e3, r3, w3⟩ := DataW.trod_int Try.underlying3 h3
      obtain ⟨A4, n4, c4', l4, e4, q4, s4, z4⟩ := open_listI Try.underlying30 Try.underlying3 k3 b3 h4 (light_struct Try.underlying32 hl (j := 4) rfl rfl)
      obtain ⟨A5, n5, c5', l5, e5, q5, s5, z5⟩ := open_listI Try.underlying30 Try.underlying3 k3 b3 h5 (light_struct Try.underlying32 hl (j := 5) rfl rfl)
      injection e0 with e0
      injection e1 with e1
      injection e2 with e2
      injection e3 with e3
      injection e4 with e4
      injection e5 with e5
      subst e0 e1 e2 e3 e4 e5
      exact ⟨(⟨x0, x1, x2, x3, l4, l5⟩, _, _), rfl, ⟨s4, s5⟩, ⟨bounds_i64 w0, bounds_i64 w1, bounds_i64 w2, bounds_i64 w3⟩, z4, z5⟩
set_option maxRecDepth 100000 in
theorem open_typeG (fuel : Nat) (cs : List Value) (x : DataW H × List MemPlace) (h : DataW.trod enc Try.prog w 0 (fun _ => true) true fuel 39 cs = some x) (hl : Light 39 x.1) :
    ∃ y : Ty, cs = y.vals.toList ∧ True ∧ B64 y.k := by
  obtain ⟨ys, n', hn', hy, hlen, hyl, hf⟩ := DataW.trod_struct Try.underlying39 h
  have hc : cs.length = 2 := hlen.trans (by kernel_rfl)
  have k3 : Try.prog.cellsOf 3 = 1 := by kernel_rfl
  have k9 : Try.prog.cellsOf 9 = 1 := by kernel_rfl
  match cs, hc with
  | [c0, c1], _ =>
    have hyl' : ys.length = 2 := hyl
    clear hyl
    match ys, hyl' with
    | [y0, y1], _ =>
      have h0 : DataW.trod enc Try.prog w 0 (fun _ => true) true n' 3 [c0] = some y0 := by simpa [k3, k9] using hf 0 _ rfl
      have h1 : DataW.trod enc Try.prog w 0 (fun _ => true) true n' 9 [c1] = some y1 := by simpa [k3, k9] using hf 1 _ rfl
      obtain ⟨x0, e0, r0, w0⟩ := DataW.trod_int Try.underlying3 h0
      obtain ⟨x1, e1, r1, w1⟩ := DataW.trod_string Try.underlying9 h1
      injection e0 with e0
      injection e1 with e1
      subst e0 e1
      exact ⟨⟨x0, x1⟩, rfl, trivial, bounds_i64 w0⟩
set_option maxRecDepth 100000 in
theorem open_handG (fuel : Nat) (cs : List Value) (x : DataW H × List MemPlace) (h : DataW.trod enc Try.prog w 0 (fun _ => true) true fuel 73 cs = some x) (hl : Light 73 x.1) :
    ∃ y : Hd, cs = y.vals.toList ∧ True ∧ True := by
  obtain ⟨ys, n', hn', hy, hlen, hyl, hf⟩ := DataW.trod_struct Try.underlying73 h
  have hc : cs.length = 4 := hlen.trans (by kernel_rfl)
  have k3 : Try.prog.cellsOf 3 = 1 := by kernel_rfl
  match cs, hc with
  | [c0, c1, c2, c3], _ =>
    have hyl' : ys.length = 4 := hyl
    clear hyl
    match ys, hyl' with
    | [y0, y1, y2, y3], _ =>
      have h0 : DataW.trod enc Try.prog w 0 (fun _ => true) true n' 3 [c0] = some y0 := by simpa [k3] using hf 0 _ rfl
      have h1 : DataW.trod enc Try.prog w 0 (fun _ => true) true n' 3 [c1] = some y1 := by simpa [k3] using hf 1 _ rfl
      have h2 : DataW.trod enc Try.prog w 0 (fun _ => true) true n' 3 [c2] = some y2 := by simpa [k3] using hf 2 _ rfl
      have h3 : DataW.trod enc Try.prog w 0 (fun _ => true) true n' 3 [c3] = some y3 := by simpa [k3] using hf 3 _ rfl
      obtain ⟨x0, e0, r0, w0⟩ := DataW.trod_int Try.underlying3 h0
      obtain ⟨x1, e1, r1, w1⟩ := DataW.trod_int Try.underlying3 h1
      obtain ⟨x2, e2, r2, w2⟩ := DataW.trod_int Try.underlying3 h2
      obtain ⟨x3, e3, r3, w3⟩ := DataW.trod_int Try.underlying3 h3
      injection e0 with e0
      injection e1 with e1
      injection e2 with e2
      injection e3 with e3
      subst e0 e1 e2 e3
      exact ⟨⟨x0, x1, x2, x3⟩, rfl, trivial, trivial⟩
set_option maxRecDepth 100000 in
theorem open_cstG (fuel : Nat) (cs : List Value) (x : DataW H × List MemPlace) (h : DataW.trod enc Try.prog w 0 (fun _ => true) true fuel 91 cs = some x) (hl : Light 91 x.1) :
    ∃ y : Cst, cs = y.vals.toList ∧ True ∧ True := by
  obtain ⟨ys, n', hn', hy, hlen, hyl, hf⟩ := DataW.trod_struct Try.underlying91 h
  have hc : cs.length = 6 := hlen.trans (by kernel_rfl)
  have k3 : Try.prog.cellsOf 3 = 1 := by kernel_rfl
  have k9 : Try.prog.cellsOf 9 = 1 := by kernel_rfl
  match cs, hc with
  | [c0, c1, c2, c3, c4, c5], _ =>
    have hyl' : ys.length = 6 := hyl
    clear hyl
    match ys, hyl' with
    | [y0, y1, y2, y3, y4, y5], _ =>
      have h0 : DataW.trod enc Try.prog w 0 (fun _ => true) true n' 3 [c0] = some y0 := by simpa [k3, k9] using hf 0 _ rfl
      have h1 : DataW.trod enc Try.prog w 0 (fun _ => true) true n' 9 [c1] = some y1 := by simpa [k3, k9] using hf 1 _ rfl
      have h2 : DataW.trod enc Try.prog w 0 (fun _ => true) true n' 3 [c2] = some y2 := by simpa [k3, k9] using hf 2 _ rfl
      have h3 : DataW.trod enc Try.prog w 0 (fun _ => true) true n' 3 [c3] = some y3 := by simpa [k3, k9] using hf 3 _ rfl
      have h4 : DataW.trod enc Try.prog w 0 (fun _ => true) true n' 3 [c4] = some y4 := by simpa [k3, k9] using hf 4 _ rfl
      have h5 : DataW.trod enc Try.prog w 0 (fun _ => true) true n' 3 [c5] = some y5 := by simpa [k3, k9] using hf 5 _ rfl
      obtain ⟨x0, e0, r0, w0⟩ := DataW.trod_int Try.underlying3 h0
      obtain ⟨x1, e1, r1, w1⟩ := DataW.trod_string Try.underlying9 h1
      obtain ⟨x2, e2, r2, w2⟩ := DataW.trod_int Try.underlying3 h2
      obtain ⟨x3, e3, r3, w3⟩ := DataW.trod_int Try.underlying3 h3
      obtain ⟨x4, e4, r4, w4⟩ := DataW.trod_int Try.underlying3 h4
      obtain ⟨x5, e5, r5, w5⟩ := DataW.trod_int Try.underlying3 h5
      injection e0 with e0
      injection e1 with e1
      injection e2 with e2
      injection e3 with e3
      injection e4 with e4
      injection e5 with e5
      subst e0 e1 e2 e3 e4 e5
      exact ⟨⟨x0, x1, x2, x3, x4, x5⟩, rfl, trivial, trivial⟩
/-- What is told of a method that comes in. -/
def MeOk (m : Me) : Prop := m.code.length ≤ reachBytes ∧ m.hs.length * 32 ≤ reachBytes ∧ m.args.length * 24 ≤ reachBytes ∧ B64 m.sk ∧ B64 m.lo
set_option maxRecDepth 100000 in
theorem open_methG (fuel : Nat) (cs : List Value) (x : DataW H × List MemPlace) (h : DataW.trod enc Try.prog w 0 (fun _ => true) true fuel 45 cs = some x) (hl : Light 45 x.1) :
    ∃ (m : Me) (va vc vh : Value), cs = (m.vals va vc vh).toList ∧ MeAt w m va vc vh ∧ MeOk m := by
  obtain ⟨ys, n', hn', hy, hlen, hyl, hf⟩ := DataW.trod_struct Try.underlying45 h
  have hc : cs.length = 10 := hlen.trans (by kernel_rfl)
  have k4 : Try.prog.cellsOf 4 = 1 := by kernel_rfl
  have k3 : Try.prog.cellsOf 3 = 1 := by kernel_rfl
  have k9 : Try.prog.cellsOf 9 = 1 := by kernel_rfl
  have kp : Try.prog.cellsOf 42 = 3 := by kernel_rfl
  have kt : Try.prog.cellsOf 39 = 2 := by kernel_rfl
  have kb : Try.prog.cellsOf 22 = 1 := by kernel_rfl
  have kh : Try.prog.cellsOf 43 = 1 := by kernel_rfl
  have ka : Try.prog.cellsOf 40 = 1 := by kernel_rfl
  have k8 : Try.prog.cellsOf 5 = 1 := by kernel_rfl
  have b8 : Try.prog.bytesOf 5 = 1 := by kernel_rfl
  match cs, hc with
  | [c0, c1, c2, c3, c4, c5, c6, c7, c8, c9], _ =>
    have hyl' : ys.length = 8 := hyl
    clear hyl
    match ys, hyl' with
    | [y0, y1, y2, y3, y4, y5, y6, y7], _ =>
      subst hy
      have h0 : DataW.trod enc Try.prog w 0 (fun _ => true) true n' 4 [c0] = some y0 := by simpa [k4] using hf 0 _ rfl
      have h1 : DataW.trod enc Try.prog w 0 (fun _ => true) true n' 4 [c1] = some y1 := by simpa [k4] using hf 1 _ rfl
      have h2 : DataW.trod enc Try.prog w 0 (fun _ => true) true n' 9 [c2] = some y2 := by simpa [k9] using hf 2 _ rfl
      have h3 : DataW.trod enc Try.prog w 0 (fun _ => true) true n' 42 [c3, c4, c5] = some y3 := by simpa [kp] using hf 3 _ rfl
      have h4 : DataW.trod enc Try.prog w 0 (fun _ => true) true n' 3 [c6] = some y4 := by simpa [k3] using hf 4 _ rfl
      have h5 : DataW.trod enc Try.prog w 0 (fun _ => true) true n' 3 [c7] = some y5 := by simpa [k3] using hf 5 _ rfl
      have h6 : DataW.trod enc Try.prog w 0 (fun _ => true) true n' 22 [c8] = some y6 := by simpa [kb] using hf 6 _ rfl
      have h7 : DataW.trod enc Try.prog w 0 (fun _ => true) true n' 43 [c9] = some y7 := by simpa [kh] using hf 7 _ rfl
      have l3 : Light 42 y3.1 := light_struct Try.underlying45 hl (j := 3) rfl rfl
      obtain ⟨x0, e0, r0⟩ := DataW.trod_bool Try.underlying4 h0
      obtain ⟨x1, e1, r1⟩ := DataW.trod_bool Try.underlying4 h1
      obtain ⟨x2, e2, r2, w2⟩ := DataW.trod_string Try.underlying9 h2
      obtain ⟨x4, e4, r4, w4⟩ := DataW.trod_int Try.underlying3 h4
      obtain ⟨x5, e5, r5, w5⟩ := DataW.trod_int Try.underlying3 h5
      obtain ⟨A6, n6, c6', l6, e6, q6, s6, z6⟩ := open_listI Try.underlying22 Try.underlying5 k8 b8 h6 (light_struct Try.underlying45 hl (j := 6) rfl rfl)
      obtain ⟨A7, n7, c7', l7, e7, q7, s7, z7, -⟩ := open_listG ShH (bytes := 32) (Q := fun _ => True) Try.underlying43 (by kernel_rfl) (by kernel_rfl) open_handG h7 (light_struct Try.underlying45 hl (j := 7) rfl rfl)
      obtain ⟨ps, n2, hn2, hp, hplen, hpl, hpf⟩ := DataW.trod_struct Try.underlying42 h3
      have hpl' : ps.length = 2 := hpl
      clear hpl
      match ps, hpl' with
      | [p0, p1], _ =>
        rw [hp] at l3
        have g0 : DataW.trod enc Try.prog w 0 (fun _ => true) true n2 39 [c3, c4] = some p0 := by simpa [kt] using hpf 0 _ rfl
        have g1 : DataW.trod enc Try.prog w 0 (fun _ => true) true n2 40 [c5] = some p1 := by simpa [ka] using hpf 1 _ rfl
        obtain ⟨ty, et, -, -⟩ := open_typeG _ _ _ g0 (light_struct Try.underlying42 l3 (j := 0) rfl rfl)
        obtain ⟨A8, n8, c8', l8, e8, q8, s8, z8, -⟩ := open_listG ShT (bytes := 24) (Q := fun y => B64 y.k) Try.underlying40 (by kernel_rfl) (by kernel_rfl) open_typeG g1 (light_struct Try.underlying42 l3 (j := 1) rfl rfl)
        have et' : c3 = .int .i64 ty.k ∧ c4 = .string ty.s := by
          simp [Ty.vals] at et
          exact et
        obtain ⟨rfl, rfl⟩ := et'
        injection e0 with e0
        injection e1 with e1
        injection e2 with e2
        injection e4 with e4
        injection e5 with e5
        injection e6 with e6
        injection e7 with e7
        injection e8 with e8
        subst e0 e1 e2 e4 e5 e6 e7 e8
        refine ⟨⟨x0, x1, x2, ty, l8, x4, x5, l6, l7⟩, _, _, _, rfl, ⟨s8, s6, s7⟩, ?_, z7, z8, bounds_i64 w4, bounds_i64 w5⟩
        simpa using z6
end
end Go.Proofs.Ythobicnhophdlaa
/- The chapter's examples, as every statement of layer 7 runs them. -/
namespace Go.Proofs.Ythobicnhophdlaa
open Go.RowKit
set_option linter.unusedVariables false

theorem row_cells {w : World} {k : IntKind} {t : TypeId} {b n : Nat} (l : List Int) {cs : Array Value} (hb : w.heap[b]? = some (.cells cs t (0, 0))) (hc : cs = (l.map (Value.int k)).toArray) (hn : n = l.length) (hf : l.all (fun x => (Lit.int k x).wf) = true) (hm : l.length ≤ 65536) :
    Row w k (.slice (some ⟨b, 0, none⟩) n n) l := by
  subst hn hc
  refine ⟨_, _, rfl, Nat.le_refl _, by simp [maxLen]; omega, (fun h => by cases h), fun x hx => List.all_eq_true.1 hf x hx, fun _ => ⟨b, 0, rfl, lt_of_get hb, fun j hj => ?_⟩⟩
  rw [cell_of_row w b (0 + j) _ t (0, 0) hb]
  simp [gi, hj]
theorem row_nil (w : World) (k : IntKind) : Row w k (.slice none 0 0) [] := ⟨none, 0, rfl, by simp, by simp [maxLen], fun _ => rfl, Fit.nil k, fun h => by simp at h⟩
def aw1 : In := ⟨0, 5, 0, 0, [], []⟩
def aw2 : In := ⟨2, 83, 0, 0, [], []⟩
theorem aw_cut : cutZ [5, 0, 83] = ([aw1, aw2], 0, 0) := by decide +kernel
/-- A method with code alone. -/
def awM (lo : Int) : Me := ⟨false, false, ⟨#[]⟩, t0, [], 0, lo, [5, 0, 83], []⟩
theorem aw_chk0 : checkZ (awM 0) [] = ([], 0, 70) := by decide +kernel
theorem aw_chk1 : checkZ (awM 1) [] = ([aw1, aw2], 0, 0) := by decide +kernel
set_option maxRecDepth 100000 in
set_option maxHeartbeats 4000000 in
theorem fails_yes (v : Value) (b : List Int) (k e0 : Int) (w : World) (h : Row w .u8 v b) (hd : cutZ b = ([], k, e0)) :
    Calls Try.prog 12 #[v, .int .i64 k, .int .i64 e0] w fun e w' => e = .returned (.bool true) ∧ Ext w w' := by
  have hc := Cut_any v b w h
  rw [hd] at hc
  have HC := Lib.hid hc
  obtain ⟨A, c, rfl, -⟩ := h
  clear hc hd
  go_enter Try.func12, Try.ntmps12
  go_wp2_with fail
  refine HC.out.mono ?_
  rintro e w1 ⟨v', rfl, ⟨u, rfl, ho⟩, x1⟩
  obtain ⟨A1, c1, rfl, -⟩ := ho.slice
  simp only [List.length_nil]
  go_wp2
  go_ret
  exact ⟨by simp, x1⟩
theorem meAt_lit {w : World} {m : Me} {vc : Value} (ha : m.args = []) (hh : m.hs = []) (h : Row w .u8 vc m.code) : MeAt w m (.slice none 0 0) vc (.slice none 0 0) :=
  ⟨by rw [ha]; exact Shp.Row.nil _ _, h, by rw [hh]; exact Shp.Row.nil _ _⟩
set_option maxRecDepth 100000 in
set_option maxHeartbeats 8000000 in
theorem awake_any (w : World) : Calls Try.prog 5 #[] w fun e w' => e = .returned (.bool true) ∧ Ext w w' := by
  have HC := Lib.hid (fun v W (h : Row W .u8 v [5, 0, 83]) => Cut_any v [5, 0, 83] W h)
  rw [aw_cut] at HC
  have H0 := Lib.hid (fun vc W (h : Row W .u8 vc [5, 0, 83]) => Check_any (awM 0) (.slice none 0 0) vc (.slice none 0 0) (.slice none 0 0) [] W (meAt_lit rfl rfl h) (Shp.Row.nil _ _))
  rw [aw_chk0] at H0
  have H1 := Lib.hid (fun vc W (h : Row W .u8 vc [5, 0, 83]) => Check_any (awM 1) (.slice none 0 0) vc (.slice none 0 0) (.slice none 0 0) [] W (meAt_lit rfl rfl h) (Shp.Row.nil _ _))
  rw [aw_chk1] at H1
  unfold Me.vals at H0 H1
  simp only [awM, t0] at H0 H1
  go_enter Try.func5, Try.ntmps5
  go_wp2_with fail
  refine (HC.out _ _ (row_cells _ (heap_alloc_new _ _) rfl rfl (by decide) (by decide))).mono ?_
  rintro e w1 ⟨v', rfl, ⟨u, rfl, ho⟩, x1⟩
  have X1 := Lib.hid (((Ext.refl w).alloc _).trans x1)
  obtain ⟨A1, c1, rfl, hc1, hm1⟩ := ho.slice
  obtain ⟨b1, o1, rfl, hat⟩ := ho.row.at (by decide)
  obtain ⟨p1, p2, hp⟩ := hat 0 (by decide)
  obtain ⟨q1, q2, hq⟩ := hat 1 (by decide)
  have y1 := (hp w1 (Ext.refl _)).1.2.1
  have z0 := (hq w1 (Ext.refl _)).1.1
  have z1 := (hq w1 (Ext.refl _)).1.2.1
  simp only [gn, aw1, aw2, List.getD_cons_zero, List.getD_cons_succ, List.length_cons, List.length_nil, Nat.zero_mul, Nat.one_mul, Nat.add_zero, Nat.zero_add] at y1 z0 z1 hc1 ⊢
  clear hat hp hq x1 ho
  go_wp2_with fail
  clear y1 z0 z1
  refine (H0.out _ _ (row_cells _ (heap_alloc_new _ _) rfl rfl (by decide) (by decide))).mono ?_
  rintro e w2 ⟨v', rfl, ⟨u, rfl, ho⟩, x2⟩
  have X2 := Lib.hid ((X1.out.alloc _).trans x2)
  clear ho x2
  go_wp2_with fail
  refine (H1.out _ _ (row_cells _ (heap_alloc_new _ _) rfl rfl (by decide) (by decide))).mono ?_
  rintro e w3 ⟨v', rfl, ⟨u2, rfl, ho⟩, x3⟩
  have X3 := Lib.hid ((X2.out.alloc _).trans x3)
  obtain ⟨A2, c2, rfl, hc2, hm2⟩ := ho.slice
  simp only [List.length_cons, List.length_nil, Nat.zero_add] at hc2 ⊢
  clear ho x3
  go_wp2_with fail
  refine (fails_yes _ [0] 0 70 _ (row_cells _ (heap_alloc_new _ _) rfl rfl (by decide) (by decide)) (by decide +kernel)).mono ?_
  rintro e w4 ⟨rfl, x4⟩
  have X4 := Lib.hid ((X3.out.alloc _).trans x4)
  clear x4
  go_wp2_with fail
  refine (fails_yes _ [] 0 70 _ (row_nil _ _) (by decide +kernel)).mono ?_
  rintro e w5 ⟨rfl, x5⟩
  have X5 := Lib.hid (X4.out.trans x5)
  clear x5
  go_wp2_with fail
  refine (fails_yes _ [58, 0, 1] 0 70 _ (row_cells _ (heap_alloc_new _ _) rfl rfl (by decide) (by decide)) (by decide +kernel)).mono ?_
  rintro e w6 ⟨rfl, x6⟩
  have X6 := Lib.hid ((X5.out.alloc _).trans x6)
  clear x6
  go_wp2_with fail
  refine (fails_yes _ [90] 0 60 _ (row_cells _ (heap_alloc_new _ _) rfl rfl (by decide) (by decide)) (by decide +kernel)).mono ?_
  rintro e w7 ⟨rfl, x7⟩
  have X7 := Lib.hid ((X6.out.alloc _).trans x7)
  clear x7
  go_wp2
  go_ret
  exact ⟨rfl, X7.out⟩
end Go.Proofs.Ythobicnhophdlaa
