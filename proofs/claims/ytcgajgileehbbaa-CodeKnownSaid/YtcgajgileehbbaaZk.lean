/- Several texts of this proof, one behind the other. -/
import Derived.Test.YtcgajgileehbbaaRows
import Derived.Test.YtcgajgileehbbaaZa
import Derived.ProofKit
import Derived.OpenShut
import Derived.ShutString
import Derived.ChangeOld
import Derived.SizedLaws
import Derived.Lib.ValidLaws
import Derived.Deep.Slices
import Derived.Deep.Fields
import Derived.ChangeSame
import Derived.Test.YtcgajgileehbbaaZd
import Derived.Test.YtcgajgileehbbaaZb
import Derived.Test.YtcgajgileehbbaaEq0
import Derived.Test.YtcgajgileehbbaaOpsCp
import Derived.Test.YtcgajgileehbbaaZe
import Derived.Deep.RegionHeld3
/- Parameters that are lists of structs, and structs, opened: what is told of them, and how great they may be. -/
namespace Go.Proofs.Ytcgajgileehbbaa
open Go.RowKit Go.ChangeShapes Go.WideShapes Go.Deep
set_option linter.unusedVariables false
theorem own : ownKnob Try.prog.godebug = none := by kernel_rfl
theorem laidOut : laidOutB Try.prog = true := by kernel_rfl
theorem bounds_i64 {x : Int} (h : (Lit.int .i64 x).wf = true) : -9223372036854775808 ≤ x ∧ x ≤ 9223372036854775807 := by
  simp [Lit.wf, IntKind.min, IntKind.max, IntKind.signed, IntKind.bits] at h
  omega
/-- An int of 64 bits. -/
def B64 (x : Int) : Prop := -9223372036854775808 ≤ x ∧ x ≤ 9223372036854775807
/-- Things that there are at each place make a list. -/
theorem list_ofG {α : Type} (S : Shp α) {Q : Nat → α → Prop} : ∀ (n : Nat), (∀ i, i < n → ∃ y, Q i y) → ∃ l : List α, l.length = n ∧ ∀ i, i < n → Q i (S.el l i) := by
  intro n
  induction n with
  | zero => exact fun _ => ⟨[], rfl, fun i h => absurd h (Nat.not_lt_zero i)⟩
  | succ n ih =>
    intro h
    obtain ⟨l, hl, hq⟩ := ih (fun i hi => h i (by omega))
    obtain ⟨y, hy⟩ := h n (by omega)
    refine ⟨l ++ [y], by simp [hl], fun i hi => ?_⟩
    by_cases hin : i < n
    · have e : S.el (l ++ [y]) i = S.el l i := by simp [Shp.el, List.getElem?_append_left (show i < l.length by omega)]
      rw [e]
      exact hq i hin
    · have e : S.el (l ++ [y]) i = y := by
        have : i = l.length := by omega
        subst this
        simp [Shp.el]
      rw [e, show i = n by omega]
      exact hy
section
variable {H : Type} {enc : TypeId × Value → H} {w : World}
/-- No part weighs more than there is reach. -/
def Light (t : TypeId) (d : DataW H) : Prop := ∀ x ∈ d.weights Try.prog t, x ≤ reachBytes
theorem light_all {t : TypeId} : ∀ {ds : List (DataW H)}, (∀ x ∈ DataW.weightsAll Try.prog t ds, x ≤ reachBytes) → ∀ {d : DataW H}, d ∈ ds → Light t d := by
  intro ds
  induction ds with
  | nil => intro _ d h; cases h
  | cons a ds ih =>
    intro hw d h
    rw [DataW.weightsAll] at hw
    rcases List.mem_cons.1 h with rfl | h
    · exact fun x hx => hw x (List.mem_append_left _ hx)
    · exact ih (fun x hx => hw x (List.mem_append_right _ hx)) h
theorem light_slice {t e : TypeId} {ds sp : List (DataW H)} (ht : Try.prog.underlying t = some (.slice e)) (h : Light t (.slice ds sp : DataW H)) : (ds.length + sp.length) * Try.prog.bytesOf e ≤ reachBytes ∧ ∀ d ∈ ds, Light e d := by
  have hu : (DataW.slice ds sp : DataW H).weights Try.prog t = (ds.length + sp.length) * Try.prog.bytesOf e :: (DataW.weightsAll Try.prog e ds ++ DataW.weightsAll Try.prog e sp) := by
    rw [DataW.weights, ht]
  unfold Light at h
  rw [hu] at h
  exact ⟨h _ (List.mem_cons_self ..), fun d hd => light_all (fun x hx => h x (List.mem_cons_of_mem _ (List.mem_append_left _ hx))) hd⟩
theorem light_each : ∀ {ts : List TypeId} {ds : List (DataW H)}, (∀ x ∈ DataW.weightsEach Try.prog ts ds, x ≤ reachBytes) → ∀ {j : Nat} {t : TypeId} {d : DataW H}, ts[j]? = some t → ds[j]? = some d → Light t d := by
  intro ts
  induction ts with
  | nil => intro ds _ j t d ht; simp at ht
  | cons a ts ih =>
    intro ds h j t d ht hd
    match ds, hd with
    | [], hd => simp at hd
    | b :: ds, hd =>
      rw [DataW.weightsEach] at h
      match j, ht, hd with
      | 0, ht, hd =>
        simp at ht hd
        subst ht hd
        exact fun x hx => h x (List.mem_append_left _ hx)
      | j + 1, ht, hd => exact ih (fun x hx => h x (List.mem_append_right _ hx)) (by simpa using ht) (by simpa using hd)
theorem light_struct {t : TypeId} {fs : Array Field} {ds : List (DataW H)} (ht : Try.prog.underlying t = some (.struct fs)) (h : Light t (.agg ds : DataW H)) {j : Nat} {f : Field} {d : DataW H} (hf : fs[j]? = some f) (hd : ds[j]? = some d) : Light f.type d := by
  have hu : (DataW.agg ds : DataW H).weights Try.prog t = DataW.weightsEach Try.prog (fs.toList.map (·.type)) ds := by
    rw [DataW.weights, ht]
  unfold Light at h
  rw [hu] at h
  exact light_each h (j := j) (by simp [hf]) hd
theorem light_of {ts : List TypeId} {ds : List (DataW H)} (h : (DataW.weightsEach Try.prog ts ds).all (· ≤ reachBytes) = true) {j : Nat} {t : TypeId} {d : DataW H} (ht : ts[j]? = some t) (hd : ds[j]? = some d) : Light t d :=
  light_each (fun x hx => of_decide_eq_true (List.all_eq_true.1 h x hx)) ht hd
/-- A list of structs. -/
theorem open_listG {α : Type} (S : Shp α) {t : TypeId} {bytes : Nat} {Q : α → Prop} (ht : Try.prog.underlying t = some (.slice S.T)) (hk : Try.prog.cellsOf S.T = S.n) (hb : Try.prog.bytesOf S.T = bytes)
    (hel : ∀ (fuel : Nat) (cs : List Value) (x : DataW H × List MemPlace), DataW.trod enc Try.prog w 0 (fun _ => true) true fuel S.T cs = some x → Light S.T x.1 → ∃ y : α, cs = (S.vals y).toList ∧ S.nest w y ∧ Q y)
    {fuel : Nat} {cs : List Value} {x : DataW H × List MemPlace} (h : DataW.trod enc Try.prog w 0 (fun _ => true) true fuel t cs = some x) (hl : Light t x.1) :
    ∃ (A : Option Addr) (n c : Nat) (l : List α), cs = [.slice A n c] ∧ l.length = n ∧ S.Row w (.slice A n c) l ∧ l.length * bytes ≤ reachBytes ∧ ∀ y ∈ l, Q y := by
  rcases open_slice ht h with ⟨rfl, rfl⟩ | ⟨a, len, cap, m, n, D, Pl, rfl, hbs, hlc, hm, hmm, rfl, hi⟩
  · exact ⟨none, 0, 0, [], rfl, rfl, Shp.Row.nil S w, by simp, (fun _ h => by cases h)⟩
  · have hlm : len ≤ m := by rw [hmm]; split <;> omega
    obtain ⟨hw1, hw2⟩ := light_slice ht hl
    obtain ⟨l, hll, hq⟩ := list_ofG S (Q := fun i y => S.nest w y ∧ Q y ∧ ∀ j, j < S.n → w.cell? (a.add (i * S.n + j)) = (S.vals y)[j]?) len (fun i hil => by
      obtain ⟨cs', hc, ht'⟩ := hi i (by omega)
      rw [hk] at hc
      obtain ⟨y, hv, hn, hqy⟩ := hel _ _ _ ht' (hw2 _ (List.mem_map.2 ⟨i, by simp [hil], rfl⟩))
      obtain ⟨_, hcl, hat⟩ := World.cells?_some hc
      refine ⟨y, hn, hqy, fun j hj => ?_⟩
      have := hat j hj
      rw [← Go.Deep.add_add, this, hv]
      simp)
    refine ⟨some a, len, cap, l, rfl, hll, ⟨some a, cap, by rw [hll], by omega, hm, (fun h => by cases h), fun hp => ?_, fun y hy => ?_⟩, ?_, fun y hy => ?_⟩
    · have hp0 := S.pos
      have h0 := (hq 0 (by omega)).2.2 0 hp0
      obtain ⟨b, o, spot⟩ := a
      have hsz := S.size (S.el l 0)
      have hg : (S.vals (S.el l 0))[0]? = some ((S.vals (S.el l 0))[0]'(by omega)) := Array.getElem?_eq_getElem _
      rw [hg] at h0
      have hs : spot = none := by simpa [Addr.add] using World.cell?_spot h0
      subst hs
      refine ⟨b, o, rfl, by have := World.block_lt_of_cell? w _ h0; rwa [Addr.add_lit] at this, fun j hj i hi => ?_⟩
      have hc := (hq j (by omega)).2.2 i hi
      rw [Addr.add_lit] at hc
      rw [Nat.add_assoc]
      exact hc
    · obtain ⟨i, hi', rfl⟩ := S.el_of_mem hy
      exact (hq i (by omega)).1
    · rw [hb] at hw1
      simp only [List.length_map, List.length_range] at hw1
      rw [hll]
      exact Nat.le_trans (Nat.mul_le_mul_right _ (Nat.le_add_right _ _)) hw1
    · obtain ⟨i, hi', rfl⟩ := S.el_of_mem hy
      exact (hq i (by omega)).2.1
/-- A list of ints. -/
theorem open_listI {k : IntKind} {t e : TypeId} {bytes : Nat} (ht : Try.prog.underlying t = some (.slice e)) (he : Try.prog.underlying e = some (.int k)) (hk : Try.prog.cellsOf e = 1) (hb : Try.prog.bytesOf e = bytes)
    {fuel : Nat} {cs : List Value} {x : DataW H × List MemPlace} (h : DataW.trod enc Try.prog w 0 (fun _ => true) true fuel t cs = some x) (hl : Light t x.1) :
    ∃ (A : Option Addr) (n c : Nat) (l : List Int), cs = [.slice A n c] ∧ l.length = n ∧ Row w k (.slice A n c) l ∧ l.length * bytes ≤ reachBytes := by
  rcases open_ints ht he hk h with ⟨rfl, rfl⟩ | ⟨a, n, c, zs, rfl, _, hlc, hm, hz, rfl, hcell, hwz⟩
  · exact ⟨none, 0, 0, [], rfl, rfl, (Own.nil 0 _ 0 _).row, by simp⟩
  · simp only [if_true] at hz
    obtain ⟨hw1, -⟩ := light_slice ht hl
    rw [hb] at hw1
    simp only [lits, List.length_map, List.length_take, List.length_drop] at hw1
    have hln : (zs.take n).length = n := by simp; omega
    refine ⟨some a, n, c, zs.take n, rfl, hln, row_of_open hlc hm hz hcell hwz, ?_⟩
    rw [hln]
    refine Nat.le_trans (Nat.mul_le_mul_right _ ?_) hw1
    omega
/-- What is told of an instruction that comes in. -/
def InOk (e : InV) : Prop := (B64 e.1.a ∧ B64 e.1.o ∧ B64 e.1.n ∧ B64 e.1.m) ∧ e.1.to.length * 8 ≤ reachBytes ∧ e.1.ks.length * 8 ≤ reachBytes
set_option maxRecDepth 100000 in
theorem open_insG (fuel : Nat) (cs : List Value) (x : DataW H × List MemPlace) (h : DataW.trod enc Try.prog w 0 (fun _ => true) true fuel 34 cs = some x) (hl : Light 34 x.1) :
    ∃ y : InV, cs = y.vals.toList ∧ Nest w y ∧ InOk y := by
  obtain ⟨ys, n', hn', hy, hlen, hyl, hf⟩ := DataW.trod_struct Try.underlying34 h
  have hc : cs.length = 6 := hlen.trans (by kernel_rfl)
  have k3 : Try.prog.cellsOf 3 = 1 := by kernel_rfl
  have k9 : Try.prog.cellsOf 32 = 1 := by kernel_rfl
  have b3 : Try.prog.bytesOf 3 = 8 := by kernel_rfl
  match cs, hc with
  | [c0, c1, c2, c3, c4, c5], _ =>
    have hyl' : ys.length = 6 := hyl
    clear hyl
    match ys, hyl' with
    | [y0, y1, y2, y3, y4, y5], _ =>
      subst hy
      have h0 : DataW.trod enc Try.prog w 0 (fun _ => true) true n' 3 [c0] = some y0 := by simpa [k3, k9] using hf 0 _ rfl
      have h1 : DataW.trod enc Try.prog w 0 (fun _ => true) true n' 3 [c1] = some y1 := by simpa [k3, k9] using hf 1 _ rfl
      have h2 : DataW.trod enc Try.prog w 0 (fun _ => true) true n' 3 [c2] = some y2 := by simpa [k3, k9] using hf 2 _ rfl
      have h3 : DataW.trod enc Try.prog w 0 (fun _ => true) true n' 3 [c3] = some y3 := by simpa [k3, k9] using hf 3 _ rfl
      have h4 : DataW.trod enc Try.prog w 0 (fun _ => true) true n' 32 [c4] = some y4 := by simpa [k3, k9] using hf 4 _ rfl
      have h5 : DataW.trod enc Try.prog w 0 (fun _ => true) true n' 32 [c5] = some y5 := by simpa [k3, k9] using hf 5 _ rfl
      obtain ⟨x0, e0, r0, w0⟩ := DataW.trod_int Try.underlying3 h0
      obtain ⟨x1, e1, r1, w1⟩ := DataW.trod_int Try.underlying3 h1
      obtain ⟨x2, e2, r2, w2⟩ := DataW.trod_int Try.underlying3 h2
      obtain ⟨x3, e3, r3, w3⟩ := DataW.trod_int Try.underlying3 h3
      obtain ⟨A4, n4, c4', l4, e4, q4, s4, z4⟩ := open_listI Try.underlying32 Try.underlying3 k3 b3 h4 (light_struct Try.underlying34 hl (j := 4) rfl rfl)
      obtain ⟨A5, n5, c5', l5, e5, q5, s5, z5⟩ := open_listI Try.underlying32 Try.underlying3 k3 b3 h5 (light_struct Try.underlying34 hl (j := 5) rfl rfl)
      injection e0 with e0
      injection e1 with e1
      injection e2 with e2
      injection e3 with e3
      injection e4 with e4
      injection e5 with e5
      subst e0 e1 e2 e3 e4 e5
      exact ⟨(⟨x0, x1, x2, x3, l4, l5⟩, _, _), rfl, ⟨s4, s5⟩, ⟨bounds_i64 w0, bounds_i64 w1, bounds_i64 w2, bounds_i64 w3⟩, z4, z5⟩
set_option maxRecDepth 100000 in
theorem open_typeG (fuel : Nat) (cs : List Value) (x : DataW H × List MemPlace) (h : DataW.trod enc Try.prog w 0 (fun _ => true) true fuel 42 cs = some x) (hl : Light 42 x.1) :
    ∃ y : Ty, cs = y.vals.toList ∧ True ∧ B64 y.k := by
  obtain ⟨ys, n', hn', hy, hlen, hyl, hf⟩ := DataW.trod_struct Try.underlying42 h
  have hc : cs.length = 2 := hlen.trans (by kernel_rfl)
  have k3 : Try.prog.cellsOf 3 = 1 := by kernel_rfl
  have k9 : Try.prog.cellsOf 9 = 1 := by kernel_rfl
  match cs, hc with
  | [c0, c1], _ =>
    have hyl' : ys.length = 2 := hyl
    clear hyl
    match ys, hyl' with
    | [y0, y1], _ =>
      have h0 : DataW.trod enc Try.prog w 0 (fun _ => true) true n' 3 [c0] = some y0 := by simpa [k3, k9] using hf 0 _ rfl
      have h1 : DataW.trod enc Try.prog w 0 (fun _ => true) true n' 9 [c1] = some y1 := by simpa [k3, k9] using hf 1 _ rfl
      obtain ⟨x0, e0, r0, w0⟩ := DataW.trod_int Try.underlying3 h0
      obtain ⟨x1, e1, r1, w1⟩ := DataW.trod_string Try.underlying9 h1
      injection e0 with e0
      injection e1 with e1
      subst e0 e1
      exact ⟨⟨x0, x1⟩, rfl, trivial, bounds_i64 w0⟩
set_option maxRecDepth 100000 in
theorem open_handG (fuel : Nat) (cs : List Value) (x : DataW H × List MemPlace) (h : DataW.trod enc Try.prog w 0 (fun _ => true) true fuel 64 cs = some x) (hl : Light 64 x.1) :
    ∃ y : Hd, cs = y.vals.toList ∧ True ∧ True := by
  obtain ⟨ys, n', hn', hy, hlen, hyl, hf⟩ := DataW.trod_struct Try.underlying64 h
  have hc : cs.length = 4 := hlen.trans (by kernel_rfl)
  have k3 : Try.prog.cellsOf 3 = 1 := by kernel_rfl
  match cs, hc with
  | [c0, c1, c2, c3], _ =>
    have hyl' : ys.length = 4 := hyl
    clear hyl
    match ys, hyl' with
    | [y0, y1, y2, y3], _ =>
      have h0 : DataW.trod enc Try.prog w 0 (fun _ => true) true n' 3 [c0] = some y0 := by simpa [k3] using hf 0 _ rfl
      have h1 : DataW.trod enc Try.prog w 0 (fun _ => true) true n' 3 [c1] = some y1 := by simpa [k3] using hf 1 _ rfl
      have h2 : DataW.trod enc Try.prog w 0 (fun _ => true) true n' 3 [c2] = some y2 := by simpa [k3] using hf 2 _ rfl
      have h3 : DataW.trod enc Try.prog w 0 (fun _ => true) true n' 3 [c3] = some y3 := by simpa [k3] using hf 3 _ rfl
      obtain ⟨x0, e0, r0, w0⟩ := DataW.trod_int Try.underlying3 h0
      obtain ⟨x1, e1, r1, w1⟩ := DataW.trod_int Try.underlying3 h1
      obtain ⟨x2, e2, r2, w2⟩ := DataW.trod_int Try.underlying3 h2
      obtain ⟨x3, e3, r3, w3⟩ := DataW.trod_int Try.underlying3 h3
      injection e0 with e0
      injection e1 with e1
      injection e2 with e2
      injection e3 with e3
      subst e0 e1 e2 e3
      exact ⟨⟨x0, x1, x2, x3⟩, rfl, trivial, trivial⟩
set_option maxRecDepth 100000 in
theorem open_cstG (fuel : Nat) (cs : List Value) (x : DataW H × List MemPlace) (h : DataW.trod enc Try.prog w 0 (fun _ => true) true fuel 61 cs = some x) (hl : Light 61 x.1) :
    ∃ y : Cst, cs = y.vals.toList ∧ True ∧ True := by
  obtain ⟨ys, n', hn', hy, hlen, hyl, hf⟩ := DataW.trod_struct Try.underlying61 h
  have hc : cs.length = 6 := hlen.trans (by kernel_rfl)
  have k3 : Try.prog.cellsOf 3 = 1 := by kernel_rfl
  have k9 : Try.prog.cellsOf 9 = 1 := by kernel_rfl
  match cs, hc with
  | [c0, c1, c2, c3, c4, c5], _ =>
    have hyl' : ys.length = 6 := hyl
    clear hyl
    match ys, hyl' with
    | [y0, y1, y2, y3, y4, y5], _ =>
      have h0 : DataW.trod enc Try.prog w 0 (fun _ => true) true n' 3 [c0] = some y0 := by simpa [k3, k9] using hf 0 _ rfl
      have h1 : DataW.trod enc Try.prog w 0 (fun _ => true) true n' 9 [c1] = some y1 := by simpa [k3, k9] using hf 1 _ rfl
      have h2 : DataW.trod enc Try.prog w 0 (fun _ => true) true n' 3 [c2] = some y2 := by simpa [k3, k9] using hf 2 _ rfl
      have h3 : DataW.trod enc Try.prog w 0 (fun _ => true) true n' 3 [c3] = some y3 := by simpa [k3, k9] using hf 3 _ rfl
      have h4 : DataW.trod enc Try.prog w 0 (fun _ => true) true n' 3 [c4] = some y4 := by simpa [k3, k9] using hf 4 _ rfl
      have h5 : DataW.trod enc Try.prog w 0 (fun _ => true) true n' 3 [c5] = some y5 := by simpa [k3, k9] using hf 5 _ rfl
      obtain ⟨x0, e0, r0, w0⟩ := DataW.trod_int Try.underlying3 h0
      obtain ⟨x1, e1, r1, w1⟩ := DataW.trod_string Try.underlying9 h1
      obtain ⟨x2, e2, r2, w2⟩ := DataW.trod_int Try.underlying3 h2
      obtain ⟨x3, e3, r3, w3⟩ := DataW.trod_int Try.underlying3 h3
      obtain ⟨x4, e4, r4, w4⟩ := DataW.trod_int Try.underlying3 h4
      obtain ⟨x5, e5, r5, w5⟩ := DataW.trod_int Try.underlying3 h5
      injection e0 with e0
      injection e1 with e1
      injection e2 with e2
      injection e3 with e3
      injection e4 with e4
      injection e5 with e5
      subst e0 e1 e2 e3 e4 e5
      exact ⟨⟨x0, x1, x2, x3, x4, x5⟩, rfl, trivial, trivial⟩
/-- What is told of a method that comes in. -/
def MeOk (m : Me) : Prop := m.code.length ≤ reachBytes ∧ m.hs.length * 32 ≤ reachBytes ∧ m.args.length * 24 ≤ reachBytes ∧ B64 m.sk ∧ B64 m.lo
set_option maxRecDepth 100000 in
theorem open_methG (fuel : Nat) (cs : List Value) (x : DataW H × List MemPlace) (h : DataW.trod enc Try.prog w 0 (fun _ => true) true fuel 48 cs = some x) (hl : Light 48 x.1) :
    ∃ (m : Me) (va vc vh : Value), cs = (m.vals va vc vh).toList ∧ MeAt w m va vc vh ∧ MeOk m := by
  obtain ⟨ys, n', hn', hy, hlen, hyl, hf⟩ := DataW.trod_struct Try.underlying48 h
  have hc : cs.length = 10 := hlen.trans (by kernel_rfl)
  have k4 : Try.prog.cellsOf 4 = 1 := by kernel_rfl
  have k3 : Try.prog.cellsOf 3 = 1 := by kernel_rfl
  have k9 : Try.prog.cellsOf 9 = 1 := by kernel_rfl
  have kp : Try.prog.cellsOf 45 = 3 := by kernel_rfl
  have kt : Try.prog.cellsOf 42 = 2 := by kernel_rfl
  have kb : Try.prog.cellsOf 22 = 1 := by kernel_rfl
  have kh : Try.prog.cellsOf 46 = 1 := by kernel_rfl
  have ka : Try.prog.cellsOf 43 = 1 := by kernel_rfl
  have k8 : Try.prog.cellsOf 5 = 1 := by kernel_rfl
  have b8 : Try.prog.bytesOf 5 = 1 := by kernel_rfl
  match cs, hc with
  | [c0, c1, c2, c3, c4, c5, c6, c7, c8, c9], _ =>
    have hyl' : ys.length = 8 := hyl
    clear hyl
    match ys, hyl' with
    | [y0, y1, y2, y3, y4, y5, y6, y7], _ =>
      subst hy
      have h0 : DataW.trod enc Try.prog w 0 (fun _ => true) true n' 4 [c0] = some y0 := by simpa [k4] using hf 0 _ rfl
      have h1 : DataW.trod enc Try.prog w 0 (fun _ => true) true n' 4 [c1] = some y1 := by simpa [k4] using hf 1 _ rfl
      have h2 : DataW.trod enc Try.prog w 0 (fun _ => true) true n' 9 [c2] = some y2 := by simpa [k9] using hf 2 _ rfl
      have h3 : DataW.trod enc Try.prog w 0 (fun _ => true) true n' 45 [c3, c4, c5] = some y3 := by simpa [kp] using hf 3 _ rfl
      have h4 : DataW.trod enc Try.prog w 0 (fun _ => true) true n' 3 [c6] = some y4 := by simpa [k3] using hf 4 _ rfl
      have h5 : DataW.trod enc Try.prog w 0 (fun _ => true) true n' 3 [c7] = some y5 := by simpa [k3] using hf 5 _ rfl
      have h6 : DataW.trod enc Try.prog w 0 (fun _ => true) true n' 22 [c8] = some y6 := by simpa [kb] using hf 6 _ rfl
      have h7 : DataW.trod enc Try.prog w 0 (fun _ => true) true n' 46 [c9] = some y7 := by simpa [kh] using hf 7 _ rfl
      have l3 : Light 45 y3.1 := light_struct Try.underlying48 hl (j := 3) rfl rfl
      obtain ⟨x0, e0, r0⟩ := DataW.trod_bool Try.underlying4 h0
      obtain ⟨x1, e1, r1⟩ := DataW.trod_bool Try.underlying4 h1
      obtain ⟨x2, e2, r2, w2⟩ := DataW.trod_string Try.underlying9 h2
      obtain ⟨x4, e4, r4, w4⟩ := DataW.trod_int Try.underlying3 h4
      obtain ⟨x5, e5, r5, w5⟩ := DataW.trod_int Try.underlying3 h5
      obtain ⟨A6, n6, c6', l6, e6, q6, s6, z6⟩ := open_listI Try.underlying22 Try.underlying5 k8 b8 h6 (light_struct Try.underlying48 hl (j := 6) rfl rfl)
      obtain ⟨A7, n7, c7', l7, e7, q7, s7, z7, -⟩ := open_listG ShH (bytes := 32) (Q := fun _ => True) Try.underlying46 (by kernel_rfl) (by kernel_rfl) open_handG h7 (light_struct Try.underlying48 hl (j := 7) rfl rfl)
      obtain ⟨ps, n2, hn2, hp, hplen, hpl, hpf⟩ := DataW.trod_struct Try.underlying45 h3
      have hpl' : ps.length = 2 := hpl
      clear hpl
      match ps, hpl' with
      | [p0, p1], _ =>
        rw [hp] at l3
        have g0 : DataW.trod enc Try.prog w 0 (fun _ => true) true n2 42 [c3, c4] = some p0 := by simpa [kt] using hpf 0 _ rfl
        have g1 : DataW.trod enc Try.prog w 0 (fun _ => true) true n2 43 [c5] = some p1 := by simpa [ka] using hpf 1 _ rfl
        obtain ⟨ty, et, -, -⟩ := open_typeG _ _ _ g0 (light_struct Try.underlying45 l3 (j := 0) rfl rfl)
        obtain ⟨A8, n8, c8', l8, e8, q8, s8, z8, -⟩ := open_listG ShT (bytes := 24) (Q := fun y => B64 y.k) Try.underlying43 (by kernel_rfl) (by kernel_rfl) open_typeG g1 (light_struct Try.underlying45 l3 (j := 1) rfl rfl)
        have et' : c3 = .int .i64 ty.k ∧ c4 = .string ty.s := by
          simp [Ty.vals] at et
          exact et
        obtain ⟨rfl, rfl⟩ := et'
        injection e0 with e0
        injection e1 with e1
        injection e2 with e2
        injection e4 with e4
        injection e5 with e5
        injection e6 with e6
        injection e7 with e7
        injection e8 with e8
        subst e0 e1 e2 e4 e5 e6 e7 e8
        refine ⟨⟨x0, x1, x2, ty, l8, x4, x5, l6, l7⟩, _, _, _, rfl, ⟨s8, s6, s7⟩, ?_, z7, z8, bounds_i64 w4, bounds_i64 w5⟩
        simpa using z6
end
end Go.Proofs.Ytcgajgileehbbaa
/- The chapter's examples, as every statement of layer 7 runs them. -/
namespace Go.Proofs.Ytcgajgileehbbaa
open Go.RowKit
set_option linter.unusedVariables false

theorem row_cells {w : World} {k : IntKind} {t : TypeId} {b n : Nat} (l : List Int) {cs : Array Value} (hb : w.heap[b]? = some (.cells cs t (0, 0))) (hc : cs = (l.map (Value.int k)).toArray) (hn : n = l.length) (hf : l.all (fun x => (Lit.int k x).wf) = true) (hm : l.length ≤ 65536) :
    Row w k (.slice (some ⟨b, 0, none⟩) n n) l := by
  subst hn hc
  refine ⟨_, _, rfl, Nat.le_refl _, by simp [maxLen]; omega, (fun h => by cases h), fun x hx => List.all_eq_true.1 hf x hx, fun _ => ⟨b, 0, rfl, lt_of_get hb, fun j hj => ?_⟩⟩
  rw [cell_of_row w b (0 + j) _ t (0, 0) hb]
  simp [gi, hj]
theorem row_nil (w : World) (k : IntKind) : Row w k (.slice none 0 0) [] := ⟨none, 0, rfl, by simp, by simp [maxLen], fun _ => rfl, Fit.nil k, fun h => by simp at h⟩
def aw1 : In := ⟨0, 5, 0, 0, [], []⟩
def aw2 : In := ⟨2, 83, 0, 0, [], []⟩
theorem aw_cut : cutZ [5, 0, 83] = ([aw1, aw2], 0, 0) := by decide +kernel
/-- A method with code alone. -/
def awM (lo : Int) : Me := ⟨false, false, ⟨#[]⟩, t0, [], 0, lo, [5, 0, 83], []⟩
theorem aw_chk0 : checkZ (awM 0) [] = ([], 0, 70) := by decide +kernel
theorem aw_chk1 : checkZ (awM 1) [] = ([aw1, aw2], 0, 0) := by decide +kernel
set_option maxRecDepth 100000 in
set_option maxHeartbeats 4000000 in
theorem fails_yes (v : Value) (b : List Int) (k e0 : Int) (w : World) (h : Row w .u8 v b) (hd : cutZ b = ([], k, e0)) :
    Calls Try.prog 39 #[v, .int .i64 k, .int .i64 e0] w fun e w' => e = .returned (.bool true) ∧ Ext w w' := by
  have hc := Cut_any v b w h
  rw [hd] at hc
  have HC := Lib.hid hc
  obtain ⟨A, c, rfl, -⟩ := h
  clear hc hd
  go_enter Try.func39, Try.ntmps39
  go_wp2_with fail
  refine HC.out.mono ?_
  rintro e w1 ⟨v', rfl, ⟨u, rfl, ho⟩, x1⟩
  obtain ⟨A1, c1, rfl, -⟩ := ho.slice
  simp only [List.length_nil]
  go_wp2
  go_ret
  exact ⟨by simp, x1⟩
theorem meAt_lit {w : World} {m : Me} {vc : Value} (ha : m.args = []) (hh : m.hs = []) (h : Row w .u8 vc m.code) : MeAt w m (.slice none 0 0) vc (.slice none 0 0) :=
  ⟨by rw [ha]; exact Shp.Row.nil _ _, h, by rw [hh]; exact Shp.Row.nil _ _⟩
set_option maxRecDepth 100000 in
set_option maxHeartbeats 8000000 in
theorem awake_any (w : World) : Calls Try.prog 16 #[] w fun e w' => e = .returned (.bool true) ∧ Ext w w' := by
  have HC := Lib.hid (fun v W (h : Row W .u8 v [5, 0, 83]) => Cut_any v [5, 0, 83] W h)
  rw [aw_cut] at HC
  have H0 := Lib.hid (fun vc W (h : Row W .u8 vc [5, 0, 83]) => Check_any (awM 0) (.slice none 0 0) vc (.slice none 0 0) (.slice none 0 0) [] W (meAt_lit rfl rfl h) (Shp.Row.nil _ _))
  rw [aw_chk0] at H0
  have H1 := Lib.hid (fun vc W (h : Row W .u8 vc [5, 0, 83]) => Check_any (awM 1) (.slice none 0 0) vc (.slice none 0 0) (.slice none 0 0) [] W (meAt_lit rfl rfl h) (Shp.Row.nil _ _))
  rw [aw_chk1] at H1
  unfold Me.vals at H0 H1
  simp only [awM, t0] at H0 H1
  go_enter Try.func16, Try.ntmps16
  go_wp2_with fail
  refine (HC.out _ _ (row_cells _ (heap_alloc_new _ _) rfl rfl (by decide) (by decide))).mono ?_
  rintro e w1 ⟨v', rfl, ⟨u, rfl, ho⟩, x1⟩
  have X1 := Lib.hid (((Ext.refl w).alloc _).trans x1)
  obtain ⟨A1, c1, rfl, hc1, hm1⟩ := ho.slice
  obtain ⟨b1, o1, rfl, hat⟩ := ho.row.at (by decide)
  obtain ⟨p1, p2, hp⟩ := hat 0 (by decide)
  obtain ⟨q1, q2, hq⟩ := hat 1 (by decide)
  have y1 := (hp w1 (Ext.refl _)).1.2.1
  have z0 := (hq w1 (Ext.refl _)).1.1
  have z1 := (hq w1 (Ext.refl _)).1.2.1
  simp only [gn, aw1, aw2, List.getD_cons_zero, List.getD_cons_succ, List.length_cons, List.length_nil, Nat.zero_mul, Nat.one_mul, Nat.add_zero, Nat.zero_add] at y1 z0 z1 hc1 ⊢
  clear hat hp hq x1 ho
  go_wp2_with fail
  clear y1 z0 z1
  refine (H0.out _ _ (row_cells _ (heap_alloc_new _ _) rfl rfl (by decide) (by decide))).mono ?_
  rintro e w2 ⟨v', rfl, ⟨u, rfl, ho⟩, x2⟩
  have X2 := Lib.hid ((X1.out.alloc _).trans x2)
  clear ho x2
  go_wp2_with fail
  refine (H1.out _ _ (row_cells _ (heap_alloc_new _ _) rfl rfl (by decide) (by decide))).mono ?_
  rintro e w3 ⟨v', rfl, ⟨u2, rfl, ho⟩, x3⟩
  have X3 := Lib.hid ((X2.out.alloc _).trans x3)
  obtain ⟨A2, c2, rfl, hc2, hm2⟩ := ho.slice
  simp only [List.length_cons, List.length_nil, Nat.zero_add] at hc2 ⊢
  clear ho x3
  go_wp2_with fail
  refine (fails_yes _ [0] 0 70 _ (row_cells _ (heap_alloc_new _ _) rfl rfl (by decide) (by decide)) (by decide +kernel)).mono ?_
  rintro e w4 ⟨rfl, x4⟩
  have X4 := Lib.hid ((X3.out.alloc _).trans x4)
  clear x4
  go_wp2_with fail
  refine (fails_yes _ [] 0 70 _ (row_nil _ _) (by decide +kernel)).mono ?_
  rintro e w5 ⟨rfl, x5⟩
  have X5 := Lib.hid (X4.out.trans x5)
  clear x5
  go_wp2_with fail
  refine (fails_yes _ [58, 0, 1] 0 70 _ (row_cells _ (heap_alloc_new _ _) rfl rfl (by decide) (by decide)) (by decide +kernel)).mono ?_
  rintro e w6 ⟨rfl, x6⟩
  have X6 := Lib.hid ((X5.out.alloc _).trans x6)
  clear x6
  go_wp2_with fail
  refine (fails_yes _ [90] 0 60 _ (row_cells _ (heap_alloc_new _ _) rfl rfl (by decide) (by decide)) (by decide +kernel)).mono ?_
  rintro e w7 ⟨rfl, x7⟩
  have X7 := Lib.hid ((X6.out.alloc _).trans x7)
  clear x7
  go_wp2
  go_ret
  exact ⟨rfl, X7.out⟩
end Go.Proofs.Ytcgajgileehbbaa
/- CodeCuts: the instructions of code, or what is wrong, and where, is the document's. Of all bytes. -/
namespace Go.Proofs.Ytcgajgileehbbaa
open Go.ChangeShapes Go.WideShapes Go.ChangeAt Go.RowKit
open Go.ChangeMaps (open_string shut_string)
set_option linter.unusedVariables false
set_option maxRecDepth 100000 in
set_option maxHeartbeats 8000000 in
theorem codeCuts_walk (w : World) (v : Value) (l : List Int) (h : Row w .u8 v l) (hl : l.length ≤ 140737488351232) : Calls Try.prog 3 #[v] w fun e w' => e = .returned (.bool true) ∧ Ext w w' := by
  have H0 := Lib.hid h
  have HC := Lib.hid (copyBytes_any v l w h (by omega))
  have HD := Lib.hid (fun W u (o : Row W .u8 u l) => Cut_any u l W o)
  have HR := Lib.hid (fun W (e : Ext w W) => refCut_any v l W (H0.out.ext e) (by omega))
  obtain ⟨R, hR⟩ : ∃ R, cutZ l = R := ⟨_, rfl⟩
  rw [hR] at HD HR
  obtain ⟨m, at', er⟩ := R
  have HS := Lib.hid (fun W u1 u2 (o1 : RowI W u1 m) (o2 : RowI W u2 m) => refSameL_any u1 u2 m m W o1 o2)
  rw [decide_eq_true (rfl : m = m)] at HS
  have HQ := Lib.hid (fun W u (o : Row W .u8 u l) (e : Ext w W) => eqBytes_any u v l l W o (H0.out.ext e))
  rw [show decide (l = l) = true by simp] at HQ
  obtain ⟨A, c, rfl, -⟩ := h
  clear hR hl
  go_enter Try.func3, Try.ntmps3
  go_wp2_with fail
  refine HC.out.mono ?_
  rintro e w1 ⟨v', rfl, o, x1⟩
  have O := Lib.hid o.row
  have X1 := Lib.hid x1
  clear o x1
  go_wp2_with fail
  refine (HD.out _ _ O.out).mono ?_
  rintro e w2 ⟨v2, rfl, ⟨u, rfl, ho⟩, x2⟩
  have P1 := Lib.hid ho.row
  have X2 := Lib.hid (X1.out.trans x2)
  have O2 := Lib.hid (O.out.ext x2)
  clear ho x2
  go_wp2_with fail
  refine (HR.out _ X2.out).mono ?_
  rintro e w3 ⟨v3, rfl, ⟨u3, rfl, ho⟩, x3⟩
  have P3 := Lib.hid ho.row
  have P13 := Lib.hid (P1.out.ext x3)
  have X3 := Lib.hid (X2.out.trans x3)
  have O3 := Lib.hid (O2.out.ext x3)
  clear ho x3
  go_wp2_with fail
  refine (HS.out _ _ _ P13.out P3.out).mono ?_
  rintro e w4 ⟨rfl, x4⟩
  have X4 := Lib.hid (X3.out.trans x4)
  have O4 := Lib.hid (O3.out.ext x4)
  clear x4
  go_wp2_with fail
  refine (HQ.out _ _ O4.out X4.out).mono ?_
  rintro e w5 ⟨rfl, n5, rfl⟩
  go_wp2_with fail
  refine (awake_any _).mono ?_
  rintro e w6 ⟨rfl, x6⟩
  go_wp2
  go_ret
  exact ⟨rfl, (X4.out.drewN _).trans x6⟩

set_option maxRecDepth 100000 in
theorem codeCuts_lifted (os : Os) (started : os.Started) (H : Type) (enc : TypeId × Value → H) :
    ReturnsInHanded {} Try.checked os 3 .any (Rows.codeCutsSpec.pre6 enc Try.prog Try.f3 Rows.codeCutsRow.domain false) (Rows.codeCutsSpec.post enc Try.prog Try.f3 false true false false) := by
  refine returnsInHanded_of_change_sized (C := Try.checked) own started (by kernel_rfl) Try.func3
    (ChangeSpec.witness6 (enc := enc) (C := Try.checked) false ⟨#[], #[.slice none 0 0], []⟩ 8 (by kernel_rfl) (by kernel_rfl) (by kernel_rfl) (by kernel_rfl)) ?_
  intro W base args ds gs before hval0 hW hcnd hsz0 _
  have hval : ∀ (j : Nat) t v, Try.f3.params[j]? = some t → args[j]? = some v → Value.okWide Try.prog W .any base t v := hval0
  have hsz : (DataW.weightsEach Try.prog (Try.f3.params.toList ++ Rows.codeCutsSpec.plain.varTypes Try.prog) (ds ++ gs)).all (· ≤ reachBytes) = true := hsz0
  have hW' := hW
  obtain ⟨p, q, hA0, hV, rfl, hfz, hnd⟩ := hW
  have hA : DataW.TrodAll enc Try.prog W 0 (fun _ => true) true Try.f3.params.toList args.toList ds p := hA0
  rw [Try.params3] at hA hval hsz
  obtain ⟨v0, vs0, d0, ds0, p0, q0, hargs, rfl, rfl, h0, r0⟩ := trodAll_cons hA
  obtain ⟨rfl, rfl, rfl⟩ := trodAll_nil r0
  obtain rfl : args = #[v0] := by cases args; simp_all
  obtain ⟨rfl, rfl⟩ := trodVars_none hV
  obtain ⟨a0, len0, cap0, rfl⟩ := okWide_slice Try.underlying22 (hval 0 22 v0 rfl rfl)
  have k0 := h0
  have lt0 : ∀ x ∈ p0, x.block < W.heap.size := by obtain ⟨m, hm⟩ := k0; exact DataW.trod_lt m _ _ _ hm
  obtain ⟨l0, w0, z0⟩ : ∃ l, Row W .u8 (.slice a0 len0 cap0) l ∧ l.length ≤ 140737488351232 := by
    obtain ⟨fuel, hf⟩ := h0
    obtain ⟨A, n, c, l, hcs, hln, hrow, hb⟩ := open_listI (bytes := 1) Try.underlying22 Try.underlying5 (by kernel_rfl) (by kernel_rfl) hf (light_of hsz (j := 0) rfl rfl)
    simp [Value.cells] at hcs
    obtain ⟨rfl, rfl, rfl⟩ := hcs
    have e : reachBytes = 140737488351232 := rfl
    exact ⟨l, hrow, by omega⟩
  clear hA0 hval0 hsz0
  refine (codeCuts_walk W (.slice a0 len0 cap0) l0 w0 z0).mono fun e W' ⟨he, bel⟩ => ?_
  subst he
  exact ⟨_, rfl, _, _, _, [], _, [], hW', trodAll_mk1 (shut_bool Try.underlying4 _), (trodAll_cons_mk (Below.trod laidOut (by kernel_rfl) (of_decide_eq_true (by kernel_rfl)) k0 bel lt0) trodAll_mk0), rfl, bel.frame _, fun h => by cases h⟩

theorem codeCuts_over : Rows.codeCutsRow.holds Try.pinned (OpenSpec.ofChange Rows.codeCutsSpec) :=
  OpenClaim.holds_of_wide 3 Try.f3 rfl rfl rfl rfl rfl rfl rfl ⟨rfl, rfl, rfl, rfl, rfl⟩ rfl rfl rfl rfl rfl (by kernel_rfl) Try.func3 (by kernel_rfl)
    (of_decide_eq_true (by kernel_rfl)) (by unfold Func.isWrapper; first | (rw [if_pos (by decide +kernel)]; kernel_rfl) | (rw [if_neg (by decide +kernel)]; exact ⟨rfl, rfl⟩))
    (fun os started H enc _ => codeCuts_lifted os started H enc)

/-- The statement. -/
theorem codeCuts_proved : Rows.CodeCutsSaid := codeCuts_over
#print axioms codeCuts_proved

end Go.Proofs.Ytcgajgileehbbaa
/- CodeJoins: the code of instructions, or that they are none, and where one stands, is the document's. Of all instructions, 300 at most, and a place. -/
namespace Go.Proofs.Ytcgajgileehbbaa
open Go.ChangeShapes Go.WideShapes Go.ChangeAt Go.RowKit
open Go.ChangeMaps (open_string shut_string)
set_option linter.unusedVariables false
/-- The first so many of a list, as a slice. -/
theorem head_any {A : Option Addr} {n c q : Nat} (hq : q ≤ n) (hn : n ≤ c) (hA : A = none → c = 0) (hc : c ≤ 9223372036854775807) :
    ∃ c' A', (A' = none → c' = 0) ∧ q ≤ c' ∧ c' ≤ c ∧ (0 < q → A' = A ∧ c' = c) ∧ (∀ W, (Instr.sliceAt 24 (.slice A n c) none (some (.int .i64 q)) none).run Try.prog W = .ok (.slice A' q c') W) ∧ (∀ W, (Instr.slice 24 (.slice A n c) none (some (.int .i64 q)) none).run Try.prog W = .ok (.slice A' q c') W) := by
  have k1 : ¬ c < q := by omega
  have k3 : q ≤ c := by omega
  by_cases hc0 : c = 0
  · have hq0 : q = 0 := by omega
    have hn0 : n = 0 := by omega
    subst hc0 hq0 hn0
    exact ⟨0, A, fun _ => rfl, Nat.le_refl _, Nat.le_refl _, fun h => by omega, fun W => by go_simp, fun W => by go_simp⟩
  · obtain ⟨ad, rfl⟩ : ∃ ad, A = some ad := by
      cases A with
      | none => exact absurd (hA rfl) hc0
      | some ad => exact ⟨ad, rfl⟩
    exact ⟨c, some ad, (fun h => by cases h), k3, Nat.le_refl _, fun _ => ⟨rfl, rfl⟩, fun W => by go_simp, fun W => by go_simp⟩
theorem rowI_zero (w : World) {A : Option Addr} {c : Nat} (hA : A = none → c = 0) (hc : c ≤ maxLen) : RowI w (.slice A 0 c) [] := ⟨[], rfl, A, c, rfl, Nat.zero_le _, hc, hA, fun h => by simp at h, fun _ h => by cases h⟩
set_option maxRecDepth 100000 in
set_option maxHeartbeats 8000000 in
theorem codeJoins_walk (w : World) (v : Value) (l : List In) (h : RowI w v l) (hs : ∀ x ∈ l, x.to.length * 8 ≤ 140737488351232 ∧ x.ks.length * 8 ≤ 140737488351232) (t : Int) (ht : B64 t) :
    Calls Try.prog 4 #[v, .int .i64 t] w fun e w' => e = .returned (.bool true) ∧ Ext w w' := by
  have H0 := Lib.hid h
  obtain ⟨A, c, rfl, hc, hm, hA⟩ := h.cut
  have hm' := hm
  unfold maxLen at hm
  obtain ⟨q, hq, hq3, hmin⟩ : ∃ q, q ≤ l.length ∧ q ≤ 300 ∧ ((¬ (300 : Int) < l.length ∧ q = l.length) ∨ ((300 : Int) < l.length ∧ q = 300)) := by
    by_cases h3 : 300 < l.length
    · exact ⟨300, by omega, by omega, .inr ⟨by omega, rfl⟩⟩
    · exact ⟨_, Nat.le_refl _, by omega, .inl ⟨by omega, rfl⟩⟩
  obtain ⟨c', A', hA', hqc, hcc, hpos, s1, s2⟩ := head_any hq hc hA (by omega)
  have hL : RowI w (.slice A' q c') (l.take q) := by
    by_cases h0 : 0 < q
    · obtain ⟨rfl, rfl⟩ := hpos h0
      exact h.head q hq
    · obtain rfl : q = 0 := by omega
      rw [List.take_zero]
      exact rowI_zero w hA' (by unfold maxLen; omega)
  obtain ⟨L, hLL⟩ : ∃ L, l.take q = L := ⟨_, rfl⟩
  have hlen : L.length = q := by rw [← hLL]; simp; omega
  have HSZ : Hid (∀ x ∈ L, x.to.length * 8 ≤ 140737488351232 ∧ x.ks.length * 8 ≤ 140737488351232) := Lib.hid (fun x hx => hs x (by rw [← hLL] at hx; exact List.mem_of_mem_take hx))
  rw [hLL] at hL
  have HL := Lib.hid hL
  have Hn := Lib.hid hlen
  have HJ := Lib.hid (fun W u (o : RowI W u L) => Join_any u L W o)
  have HRJ := Lib.hid (fun W (e : Ext w W) => refJoin_any (.slice A' q c') L W (HL.out.ext e))
  have HP := Lib.hid (fun W u (o : RowI W u L) => Place_any u L t W o)
  have HRP := Lib.hid (fun W (e : Ext w W) => refPlace_any (.slice A' q c') L t W (HL.out.ext e))
  have HS := Lib.hid (fun W u (e : Ext w W) (o1 : RowI W u L) => refSameL_any u (.slice A' q c') L L W o1 (HL.out.ext e))
  rw [decide_eq_true (rfl : L = L)] at HS
  obtain ⟨R, hR⟩ : ∃ R, joinZ L = R := ⟨_, rfl⟩
  obtain ⟨P, hP⟩ : ∃ P, placeZ L t = P := ⟨_, rfl⟩
  rw [hR] at HJ HRJ
  rw [hP] at HP HRP
  obtain ⟨bs, er⟩ := R
  obtain ⟨pa, pb⟩ := P
  have HQ := Lib.hid (fun W u1 u2 (o1 : Row W .u8 u1 bs) (o2 : Row W .u8 u2 bs) => eqBytes_any u1 u2 bs bs W o1 o2)
  rw [show decide (bs = bs) = true by simp] at HQ
  have hpb : (pb == pb) = true := by cases pb <;> rfl
  obtain ⟨nl, hnl⟩ : ∃ nl, l.length = nl := ⟨_, rfl⟩
  rw [hnl] at hmin s1 s2 hc ⊢
  clear h hs hL hLL hlen hR hP hpos hq hnl ht hA hA' H0
  go_enter Try.func4, Try.ntmps4
  have hif : (if (300 : Int) < nl then (300 : Int) else nl) = q := by
    rcases hmin with ⟨q1, q2⟩ | ⟨q1, q2⟩
    · rw [if_neg q1, q2]
    · rw [if_pos q1, q2]; rfl
  clear hmin
  go_wp2_with fail
  clear s1 s2 hif hqc hcc
  go_loopw [5, 6] (fun u i wr => ∃ (k : Nat), i = .int .i64 k ∧ k ≤ q ∧ Hid (OwnI w.heap.size wr u (L.take k)) ∧ Hid (Ext w wr)) (fun _ i _ => q - (intOf i).toNat)
  case atStart => exact ⟨0, rfl, by omega, Lib.hid (OwnI.nil _ _), Lib.hid (Ext.refl w)⟩
  case round =>
    obtain ⟨k, rfl, hk, HO, HX⟩ := hrel
    by_cases hlt : k < q
    · have hkl : k < L.length := by have := Hn.out; omega
      obtain ⟨b, o, rfl, hat⟩ := HL.out.at (by omega)
      obtain ⟨v1, v2, hat⟩ := hat k hkl
      have hr1 := (hat _ HX.out).2.1
      have hr2 := (hat _ HX.out).2.2
      obtain ⟨A1, c1, rfl, -⟩ := id hr1
      obtain ⟨A2, c2, rfl, -⟩ := id hr2
      obtain ⟨y0, y1, y2, y3, y4, y5⟩ := (hat _ HX.out).1
      have hsz := HSZ.out _ (gn_mem hkl)
      have HT := Lib.hid (take_next hkl)
      have hc := refCopy_any (gn L k) _ _ wr hr1 hr2 (by omega) (by omega)
      obtain ⟨x, hx⟩ : ∃ x, gn L k = x := ⟨_, rfl⟩
      rw [hx] at y0 y1 y2 y3 y4 y5 hc HT
      have HC := Lib.hid hc
      have hxs := HX.out.size
      have hol : (L.take k).length ≤ 1000 := by rw [List.length_take]; omega
      unfold In.vals at HC
      clear hat hx hkl hr1 hr2 hsz hc
      go_wp2_with fail
      refine HC.out.mono ?_
      rintro e w1 ⟨v', rfl, ⟨u1, u2, rfl, o1, o2, -⟩, x1⟩
      obtain ⟨B1, n1, k1, rfl⟩ := o1.slice
      obtain ⟨B2, n2, k2, rfl⟩ := o2.slice
      have O1 := Lib.hid o1
      have O2 := Lib.hid o2
      have X1 := Lib.hid x1
      have hx1 := x1.size
      unfold In.vals
      clear o1 o2 x1
      go_wp2_with (at_builtin; go_loud (refine wpList_appI _ rfl _ _ w.heap.size rfl _ (L.take k) rfl ((HO.out.ext X1.out).ext ((Ext.refl _).alloc _)) w1.heap.size x (.slice B1 n1 k1) (.slice B2 n2 k2) 34 rfl (heap_alloc_new _ _) ((O1.out.base hxs).ext ((Ext.refl _).alloc _)) ((O2.out.base hxs).ext ((Ext.refl _).alloc _)) (by omega) (by simp; omega) ?_); intro u' w2 ho2 hg2 _)
      have X2 := Lib.hid (((HX.out.trans X1.out).alloc (.cells #[.int .i64 x.a, .int .i64 x.o, .int .i64 x.n, .int .i64 x.m, .slice B1 n1 k1, .slice B2 n2 k2] 34)).grown hg2 (fun g hg => HO.out.low g hg))
      have HO2 := Lib.hid ho2
      clear ho2 hg2
      go_wp2_with fail
      go_roundw
      case rel => exact ⟨k + 1, by go_num, by omega, by rw [HT.out]; exact HO2, X2⟩
      case measure => simp [intOf]; omega
    · have HI : Hid (RowI wr _ L) := Lib.hid (by have := HO.out.row; rwa [List.take_of_length_le (by have := Hn.out; omega)] at this)
      go_wp2_with fail
      refine (HJ.out _ _ HI.out).mono ?_
      rintro e w1 ⟨v1, rfl, ⟨u1, rfl, o1⟩, x1⟩
      have O1 := Lib.hid o1.row
      have X1 := Lib.hid (HX.out.trans x1)
      have I1 := Lib.hid (HI.out.ext x1)
      clear o1 x1
      go_wp2_with fail
      refine (HRJ.out _ X1.out).mono ?_
      rintro e w2 ⟨v2, rfl, ⟨u2, rfl, o2⟩, x2⟩
      have O2 := Lib.hid o2.row
      have O12 := Lib.hid (O1.out.ext x2)
      have X2 := Lib.hid (X1.out.trans x2)
      have I2 := Lib.hid (I1.out.ext x2)
      clear o2 x2
      go_wp2_with fail
      refine (HP.out _ _ I2.out).mono ?_
      rintro e w3 ⟨rfl, x3⟩
      have X3 := Lib.hid (X2.out.trans x3)
      have O13 := Lib.hid (O12.out.ext x3)
      have O23 := Lib.hid (O2.out.ext x3)
      have I3 := Lib.hid (I2.out.ext x3)
      clear x3
      go_wp2_with fail
      refine (HRP.out _ X3.out).mono ?_
      rintro e w4 ⟨rfl, x4⟩
      have X4 := Lib.hid (X3.out.trans x4)
      have O14 := Lib.hid (O13.out.ext x4)
      have O24 := Lib.hid (O23.out.ext x4)
      have I4 := Lib.hid (I3.out.ext x4)
      clear x4
      go_wp2_with fail
      refine (HQ.out _ _ _ O14.out O24.out).mono ?_
      rintro e w5 ⟨rfl, n5, rfl⟩
      go_wp2_with fail
      refine (HS.out _ _ (X4.out.drewN _) (I4.out.ext ((Ext.refl _).drewN _))).mono ?_
      rintro e w6 ⟨rfl, x6⟩
      go_wp2_with fail
      refine (awake_any _).mono ?_
      rintro e w7 ⟨rfl, x7⟩
      go_wp2
      go_ret
      exact ⟨rfl, ((X4.out.drewN _).trans x6).trans x7⟩

set_option maxRecDepth 100000 in
theorem codeJoins_lifted (os : Os) (started : os.Started) (H : Type) (enc : TypeId × Value → H) :
    ReturnsInHanded {} Try.checked os 4 .any (Rows.codeJoinsSpec.pre6 enc Try.prog Try.f4 Rows.codeJoinsRow.domain false) (Rows.codeJoinsSpec.post enc Try.prog Try.f4 false true false false) := by
  refine returnsInHanded_of_change_sized (C := Try.checked) own started (by kernel_rfl) Try.func4
    (ChangeSpec.witness6 (enc := enc) (C := Try.checked) false ⟨#[], #[.slice none 0 0, .int .i64 0], []⟩ 8 (by kernel_rfl) (by kernel_rfl) (by kernel_rfl) (by kernel_rfl)) ?_
  intro W base args ds gs before hval0 hW hcnd hsz0 _
  have hval : ∀ (j : Nat) t v, Try.f4.params[j]? = some t → args[j]? = some v → Value.okWide Try.prog W .any base t v := hval0
  have hsz : (DataW.weightsEach Try.prog (Try.f4.params.toList ++ Rows.codeJoinsSpec.plain.varTypes Try.prog) (ds ++ gs)).all (· ≤ reachBytes) = true := hsz0
  have hW' := hW
  obtain ⟨p, q, hA0, hV, rfl, hfz, hnd⟩ := hW
  have hA : DataW.TrodAll enc Try.prog W 0 (fun _ => true) true Try.f4.params.toList args.toList ds p := hA0
  rw [Try.params4] at hA hval hsz
  obtain ⟨v0, vs0, d0, ds0, p0, q0, hargs, rfl, rfl, h0, r0⟩ := trodAll_cons hA
  obtain ⟨v1, vs1, d1, ds1, p1, q1, rfl, rfl, rfl, h1, r1⟩ := trodAll_cons r0
  obtain ⟨rfl, rfl, rfl⟩ := trodAll_nil r1
  obtain rfl : args = #[v0, v1] := by cases args; simp_all
  obtain ⟨rfl, rfl⟩ := trodVars_none hV
  obtain ⟨a0, len0, cap0, rfl⟩ := okWide_slice Try.underlying24 (hval 0 24 v0 rfl rfl)
  have k0 := h0
  have lt0 : ∀ x ∈ p0, x.block < W.heap.size := by obtain ⟨m, hm⟩ := k0; exact DataW.trod_lt m _ _ _ hm
  obtain ⟨l0, w0, z0⟩ : ∃ l, RowI W (.slice a0 len0 cap0) l ∧ ∀ x ∈ l, x.to.length * 8 ≤ 140737488351232 ∧ x.ks.length * 8 ≤ 140737488351232 := by
    obtain ⟨fuel, hf⟩ := h0
    obtain ⟨A, n, c, l, hcs, hln, hrow, hb, hq⟩ := open_listG ShI (bytes := 80) (Q := InOk) Try.underlying24 (by kernel_rfl) (by kernel_rfl) open_insG hf (light_of hsz (j := 0) rfl rfl)
    simp [Value.cells] at hcs
    obtain ⟨rfl, rfl, rfl⟩ := hcs
    refine ⟨l.map (·.1), ⟨l, rfl, hrow⟩, fun x hx => ?_⟩
    obtain ⟨y, hy, rfl⟩ := List.mem_map.1 hx
    exact (hq y hy).2
  obtain ⟨a1, rfl, rfl, rfl, w1⟩ := open_int Try.underlying3 (hval 1 3 v1 rfl rfl) h1
  have z1 : B64 a1 := bounds_i64 w1
  clear hA0 hval0 hsz0
  refine (codeJoins_walk W (.slice a0 len0 cap0) l0 w0 z0 a1 z1).mono fun e W' ⟨he, bel⟩ => ?_
  subst he
  exact ⟨_, rfl, _, _, _, [], _, [], hW', trodAll_mk1 (shut_bool Try.underlying4 _), (trodAll_cons_mk (Below.trod laidOut (by kernel_rfl) (of_decide_eq_true (by kernel_rfl)) k0 bel lt0) (trodAll_cons_mk (shut_int Try.underlying3 w1) trodAll_mk0)), rfl, bel.frame _, fun h => by cases h⟩

theorem codeJoins_over : Rows.codeJoinsRow.holds Try.pinned (OpenSpec.ofChange Rows.codeJoinsSpec) :=
  OpenClaim.holds_of_wide 4 Try.f4 rfl rfl rfl rfl rfl rfl rfl ⟨rfl, rfl, rfl, rfl, rfl⟩ rfl rfl rfl rfl rfl (by kernel_rfl) Try.func4 (by kernel_rfl)
    (of_decide_eq_true (by kernel_rfl)) (by unfold Func.isWrapper; first | (rw [if_pos (by decide +kernel)]; kernel_rfl) | (rw [if_neg (by decide +kernel)]; exact ⟨rfl, rfl⟩))
    (fun os started H enc _ => codeJoins_lifted os started H enc)

/-- The statement. -/
theorem codeJoins_proved : Rows.CodeJoinsSaid := codeJoins_over
#print axioms codeJoins_proved

end Go.Proofs.Ytcgajgileehbbaa
/- CodeChecks: whether a method's code fits, or where it does not, and which handlers have a byte, is the document's. Of all methods, constants and bytes. -/
namespace Go.Proofs.Ytcgajgileehbbaa
open Go.ChangeShapes Go.WideShapes Go.ChangeAt Go.RowKit
open Go.ChangeMaps (open_string shut_string)
set_option linter.unusedVariables false
theorem conj20 {a b c d e f g h i j : Prop} {Q : Prop} (p : a ∧ b ∧ c ∧ d ∧ e ∧ f ∧ g ∧ h ∧ i ∧ j) (q : Q) : a ∧ b ∧ c ∧ d ∧ e ∧ f ∧ g ∧ h ∧ i ∧ j ∧ Q := by
  obtain ⟨p1, p2, p3, p4, p5, p6, p7, p8, p9, p10⟩ := p
  exact ⟨p1, p2, p3, p4, p5, p6, p7, p8, p9, p10, q⟩
set_option maxRecDepth 100000 in
set_option maxHeartbeats 8000000 in
theorem codeChecks_walk (w : World) (m : Me) (va vc vh : Value) (hm : MeAt w m va vc vh) (hok : MeOk m) (v : Value) (pool : List Cst) (hp : ShC.Row w v pool) (hpl : pool.length * 56 ≤ 140737488351232) (t : Int) (ht : B64 t) :
    Calls Try.prog 5 #[.agg (m.vals va vc vh), v, .int .i64 t] w fun e w' => e = .returned (.bool true) ∧ Ext w w' := by
  obtain ⟨z1, z2, z3, -⟩ := hok
  have er0 : reachBytes = 140737488351232 := rfl
  rw [er0] at z1 z2 z3
  have HP := Lib.hid hp
  have HM := Lib.hid hm
  have HC := Lib.hid (fun W (e : Ext w W) => refCopyM_any m va vc vh W (hm.ext e) (by omega) (by omega) (by omega))
  have HK := Lib.hid (fun a b c W (e : Ext w W) (h : MeAt W m a b c) => Check_any m a b c v pool W h (hp.ext e))
  have HRK := Lib.hid (fun W (e : Ext w W) => refCheck_any m va vc vh v pool W (hm.ext e) (hp.ext e) (by omega))
  have HV := Lib.hid (fun a b c W (h : MeAt W m a b c) => Covers_any m a b c t W h (by omega))
  have HRV := Lib.hid (fun W (e : Ext w W) => refCovers_any m va vc vh t W (hm.ext e) (by omega))
  have HSM := Lib.hid (fun a b c W (e : Ext w W) (h : MeAt W m a b c) => refSameM_same m a b c va vc vh W h (hm.ext e))
  have HI := Lib.hid (fun u1 u2 W (h1 : Row W .i64 u1 (coverZ m.hs t)) (h2 : Row W .i64 u2 (coverZ m.hs t)) => eqInts_any u1 u2 _ _ W h1 h2)
  rw [show decide (coverZ m.hs t = coverZ m.hs t) = true by simp] at HI
  obtain ⟨R, hR⟩ : ∃ R, checkZ m pool = R := ⟨_, rfl⟩
  rw [hR] at HK HRK
  obtain ⟨l, k, er⟩ := R
  have HS := Lib.hid (fun W u1 u2 (o1 : RowI W u1 l) (o2 : RowI W u2 l) => refSameL_any u1 u2 l l W o1 o2)
  rw [decide_eq_true (rfl : l = l)] at HS
  obtain ⟨Aa, ca, rfl, -⟩ := hm.1.cut
  obtain ⟨Ac, cc, rfl, -⟩ := id hm.2.1
  obtain ⟨Ah, ch, rfl, -⟩ := hm.2.2.cut
  obtain ⟨Ap, cp, rfl, -⟩ := hp.cut
  have HMB := Lib.hid (fun W (e : Ext (w.alloc (.cells (m.vals (.slice Aa m.args.length ca) (.slice Ac m.code.length cc) (.slice Ah m.hs.length ch)) 48)) W) => ((MeB.new w m (.slice Aa m.args.length ca) (.slice Ac m.code.length cc) (.slice Ah m.hs.length ch)).ext e).cells)
  unfold Me.vals at HMB HC HK HRK HV HRV HSM ⊢
  clear hm hp hR z1 z2 z3 hpl ht er0
  obtain ⟨y0, y1, y2, y3, y4, y5, y6, y7, y8, y9⟩ := HMB.out _ (Ext.refl _)
  go_enter Try.func5, Try.ntmps5
  go_wp2_with fail
  refine (HC.out _ ((Ext.refl w).alloc _)).mono ?_
  rintro e w1 ⟨v', rfl, ⟨ua, uc, uh, rfl, hm1⟩, x1⟩
  have M1 := Lib.hid hm1
  have X1 := Lib.hid x1
  obtain ⟨Ba, da, rfl, -⟩ := hm1.1.cut
  obtain ⟨Bc, dc, rfl, -⟩ := id hm1.2.1
  obtain ⟨Bh, dh, rfl, -⟩ := hm1.2.2.cut
  unfold Me.vals
  have HIB := Lib.hid (fun W (e : Ext (w1.alloc (.cells (m.vals (.slice Ba m.args.length da) (.slice Bc m.code.length dc) (.slice Bh m.hs.length dh)) 48)) W) => ((MeB.new w1 m (.slice Ba m.args.length da) (.slice Bc m.code.length dc) (.slice Bh m.hs.length dh)).ext e).cells)
  unfold Me.vals at HIB
  have EX := Lib.hid (fun W (e : Ext (w1.alloc (.cells #[.bool m.st, .bool m.ab, .string m.nm, .int .i64 m.ret.k, .string m.ret.s, .slice Ba m.args.length da, .int .i64 m.sk, .int .i64 m.lo, .slice Bc m.code.length dc, .slice Bh m.hs.length dh] 48)) W) => ((((Ext.refl w).alloc (.cells #[.bool m.st, .bool m.ab, .string m.nm, .int .i64 m.ret.k, .string m.ret.s, .slice Aa m.args.length ca, .int .i64 m.sk, .int .i64 m.lo, .slice Ac m.code.length cc, .slice Ah m.hs.length ch] 48)).trans X1.out).alloc _).trans e)
  have EB := Lib.hid (fun W (e : Ext (w1.alloc (.cells #[.bool m.st, .bool m.ab, .string m.nm, .int .i64 m.ret.k, .string m.ret.s, .slice Ba m.args.length da, .int .i64 m.sk, .int .i64 m.lo, .slice Bc m.code.length dc, .slice Bh m.hs.length dh] 48)) W) => HMB.out W ((X1.out.alloc _).trans e))
  have EM := Lib.hid (fun W (e : Ext (w1.alloc (.cells #[.bool m.st, .bool m.ab, .string m.nm, .int .i64 m.ret.k, .string m.ret.s, .slice Ba m.args.length da, .int .i64 m.sk, .int .i64 m.lo, .slice Bc m.code.length dc, .slice Bh m.hs.length dh] 48)) W) => M1.out.ext (((Ext.refl w1).alloc _).trans e))
  clear hm1 x1 y0 y1 y2 y3 y4 y5 y6 y7 y8 y9
  obtain ⟨y0, y1, y2, y3, y4, y5, y6, y7, y8, y9⟩ := HIB.out _ (Ext.refl _)
  go_wp2_with fail
  refine (HK.out _ _ _ _ (EX.out _ (Ext.refl _)) (EM.out _ (Ext.refl _))).mono ?_
  rintro e w2 ⟨v2, rfl, ⟨u, rfl, ho⟩, x2⟩
  have P2 := Lib.hid ho.row
  have X2 := Lib.hid x2
  clear ho x2 y0 y1 y2 y3 y4 y5 y6 y7 y8 y9
  obtain ⟨y0, y1, y2, y3, y4, y5, y6, y7, y8, y9⟩ := EB.out _ X2.out
  go_wp2_with fail
  refine (HRK.out _ (EX.out _ X2.out)).mono ?_
  rintro e w3 ⟨v3, rfl, ⟨u3, rfl, ho⟩, x3⟩
  have P3 := Lib.hid ho.row
  have P23 := Lib.hid (P2.out.ext x3)
  have X3 := Lib.hid (X2.out.trans x3)
  clear ho x3 y0 y1 y2 y3 y4 y5 y6 y7 y8 y9
  go_wp2_with fail
  have F : ∀ W, Ext (w1.alloc (.cells #[.bool m.st, .bool m.ab, .string m.nm, .int .i64 m.ret.k, .string m.ret.s, .slice Ba m.args.length da, .int .i64 m.sk, .int .i64 m.lo, .slice Bc m.code.length dc, .slice Bh m.hs.length dh] 48)) W → W.cell? ⟨w1.heap.size, 0, none⟩ = some (.bool m.st) ∧ W.cell? ⟨w1.heap.size, 1, none⟩ = some (.bool m.ab) ∧ W.cell? ⟨w1.heap.size, 2, none⟩ = some (.string m.nm) ∧ W.cell? ⟨w1.heap.size, 3, none⟩ = some (.int .i64 m.ret.k) ∧ W.cell? ⟨w1.heap.size, 4, none⟩ = some (.string m.ret.s) ∧ W.cell? ⟨w1.heap.size, 5, none⟩ = some (.slice Ba m.args.length da) ∧ W.cell? ⟨w1.heap.size, 6, none⟩ = some (.int .i64 m.sk) ∧ W.cell? ⟨w1.heap.size, 7, none⟩ = some (.int .i64 m.lo) ∧ W.cell? ⟨w1.heap.size, 8, none⟩ = some (.slice Bc m.code.length dc) ∧ W.cell? ⟨w1.heap.size, 9, none⟩ = some (.slice Bh m.hs.length dh) ∧ W.cell? ⟨w.heap.size, 0, none⟩ = some (.bool m.st) ∧ W.cell? ⟨w.heap.size, 1, none⟩ = some (.bool m.ab) ∧ W.cell? ⟨w.heap.size, 2, none⟩ = some (.string m.nm) ∧ W.cell? ⟨w.heap.size, 3, none⟩ = some (.int .i64 m.ret.k) ∧ W.cell? ⟨w.heap.size, 4, none⟩ = some (.string m.ret.s) ∧ W.cell? ⟨w.heap.size, 5, none⟩ = some (.slice Aa m.args.length ca) ∧ W.cell? ⟨w.heap.size, 6, none⟩ = some (.int .i64 m.sk) ∧ W.cell? ⟨w.heap.size, 7, none⟩ = some (.int .i64 m.lo) ∧ W.cell? ⟨w.heap.size, 8, none⟩ = some (.slice Ac m.code.length cc) ∧ W.cell? ⟨w.heap.size, 9, none⟩ = some (.slice Ah m.hs.length ch) := fun W e => conj20 (HIB.out W e) (EB.out W e)
  have FH := Lib.hid F
  have e3 := X3.out.drew
  have f3 := F _ e3
  have P23d := Lib.hid (P23.out.ext (Ext.refl w3).drew)
  have P3d := Lib.hid (P3.out.ext (Ext.refl w3).drew)
  clear F
  go_region_held3 (fun w' => w'.cell? ⟨w1.heap.size, 0, none⟩ = some (.bool m.st) ∧ w'.cell? ⟨w1.heap.size, 1, none⟩ = some (.bool m.ab) ∧ w'.cell? ⟨w1.heap.size, 2, none⟩ = some (.string m.nm) ∧ w'.cell? ⟨w1.heap.size, 3, none⟩ = some (.int .i64 m.ret.k) ∧ w'.cell? ⟨w1.heap.size, 4, none⟩ = some (.string m.ret.s) ∧ w'.cell? ⟨w1.heap.size, 5, none⟩ = some (.slice Ba m.args.length da) ∧ w'.cell? ⟨w1.heap.size, 6, none⟩ = some (.int .i64 m.sk) ∧ w'.cell? ⟨w1.heap.size, 7, none⟩ = some (.int .i64 m.lo) ∧ w'.cell? ⟨w1.heap.size, 8, none⟩ = some (.slice Bc m.code.length dc) ∧ w'.cell? ⟨w1.heap.size, 9, none⟩ = some (.slice Bh m.hs.length dh) ∧ w'.cell? ⟨w.heap.size, 0, none⟩ = some (.bool m.st) ∧ w'.cell? ⟨w.heap.size, 1, none⟩ = some (.bool m.ab) ∧ w'.cell? ⟨w.heap.size, 2, none⟩ = some (.string m.nm) ∧ w'.cell? ⟨w.heap.size, 3, none⟩ = some (.int .i64 m.ret.k) ∧ w'.cell? ⟨w.heap.size, 4, none⟩ = some (.string m.ret.s) ∧ w'.cell? ⟨w.heap.size, 5, none⟩ = some (.slice Aa m.args.length ca) ∧ w'.cell? ⟨w.heap.size, 6, none⟩ = some (.int .i64 m.sk) ∧ w'.cell? ⟨w.heap.size, 7, none⟩ = some (.int .i64 m.lo) ∧ w'.cell? ⟨w.heap.size, 8, none⟩ = some (.slice Ac m.code.length cc) ∧ w'.cell? ⟨w.heap.size, 9, none⟩ = some (.slice Ah m.hs.length ch)) (first | with_reducible assumption) (first
    | (go_at_call 14; (with_reducible refine (HS.out _ _ _ P23d.out P3d.out).mono ?_); rintro e w4 ⟨rfl, x4⟩; have e4 := e3.trans x4; have f4 := FH.out _ e4)
    | (go_at_call 26; (with_reducible refine (HV.out _ _ _ _ (EM.out _ e4)).mono ?_); rintro e w5 ⟨v5, rfl, o5, x5⟩; have e5 := e4.trans x5; have f5 := FH.out _ e5)
    | (go_at_call 27; (with_reducible refine (HRV.out _ (EX.out _ e5)).mono ?_); rintro e w6 ⟨v6, rfl, o6, x6⟩; have e6 := e5.trans x6; have f6 := FH.out _ e6; have o56 := o5.row.ext x6)
    | (go_at_call 25; (with_reducible refine (HI.out _ _ _ o56 o6.row).mono ?_); rintro e w7 ⟨rfl, n7, rfl⟩; have e7 := e6.drewN n7; have f7 := FH.out _ e7)
    | (go_at_call 28; (with_reducible refine (HSM.out _ _ _ _ (EX.out _ e7) (EM.out _ e7)).mono ?_); rintro e w8 ⟨rfl, x8⟩; have e8 := e7.trans x8; have f8 := FH.out _ e8)
    | (go_at_call 16; (with_reducible refine (awake_any _).mono ?_); rintro e w9 ⟨rfl, x9⟩; have e9 := e8.trans x9; have f9 := FH.out _ e9))
  go_wp2
  go_ret
  exact ⟨rfl, EX.out _ e9⟩

set_option maxRecDepth 100000 in
theorem codeChecks_lifted (os : Os) (started : os.Started) (H : Type) (enc : TypeId × Value → H) :
    ReturnsInHanded {} Try.checked os 5 .any (Rows.codeChecksSpec.pre6 enc Try.prog Try.f5 Rows.codeChecksRow.domain false) (Rows.codeChecksSpec.post enc Try.prog Try.f5 false true false false) := by
  refine returnsInHanded_of_change_sized (C := Try.checked) own started (by kernel_rfl) Try.func5
    (ChangeSpec.witness6 (enc := enc) (C := Try.checked) false ⟨#[], #[.agg #[.bool false, .bool false, .string ⟨#[]⟩, .int .i64 0, .string ⟨#[]⟩, .slice none 0 0, .int .i64 0, .int .i64 0, .slice none 0 0, .slice none 0 0], .slice none 0 0, .int .i64 0], []⟩ 8 (by kernel_rfl) (by kernel_rfl) (by kernel_rfl) (by kernel_rfl)) ?_
  intro W base args ds gs before hval0 hW hcnd hsz0 _
  have hval : ∀ (j : Nat) t v, Try.f5.params[j]? = some t → args[j]? = some v → Value.okWide Try.prog W .any base t v := hval0
  have hsz : (DataW.weightsEach Try.prog (Try.f5.params.toList ++ Rows.codeChecksSpec.plain.varTypes Try.prog) (ds ++ gs)).all (· ≤ reachBytes) = true := hsz0
  have hW' := hW
  obtain ⟨p, q, hA0, hV, rfl, hfz, hnd⟩ := hW
  have hA : DataW.TrodAll enc Try.prog W 0 (fun _ => true) true Try.f5.params.toList args.toList ds p := hA0
  rw [Try.params5] at hA hval hsz
  obtain ⟨v0, vs0, d0, ds0, p0, q0, hargs, rfl, rfl, h0, r0⟩ := trodAll_cons hA
  obtain ⟨v1, vs1, d1, ds1, p1, q1, rfl, rfl, rfl, h1, r1⟩ := trodAll_cons r0
  obtain ⟨v2, vs2, d2, ds2, p2, q2, rfl, rfl, rfl, h2, r2⟩ := trodAll_cons r1
  obtain ⟨rfl, rfl, rfl⟩ := trodAll_nil r2
  obtain rfl : args = #[v0, v1, v2] := by cases args; simp_all
  obtain ⟨rfl, rfl⟩ := trodVars_none hV
  obtain ⟨cs0, rfl, -⟩ := okWide_struct Try.underlying48 (hval 0 48 v0 rfl rfl)
  have k0 := h0
  have lt0 : ∀ x ∈ p0, x.block < W.heap.size := by obtain ⟨m, hm⟩ := k0; exact DataW.trod_lt m _ _ _ hm
  obtain ⟨m0, va0, vc0, vh0, e0, w0, z0⟩ : ∃ (m : Me) (va vc vh : Value), cs0 = m.vals va vc vh ∧ MeAt W m va vc vh ∧ MeOk m := by
    obtain ⟨fuel, hf⟩ := h0
    obtain ⟨m, va, vc, vh, hcs, hm, hok⟩ := open_methG _ _ _ hf (light_of hsz (j := 0) rfl rfl)
    have hcs : cs0.toList = (m.vals va vc vh).toList := by simpa [Value.cells] using hcs
    exact ⟨m, va, vc, vh, Array.toList_inj.1 hcs, hm, hok⟩
  subst e0
  obtain ⟨a1, len1, cap1, rfl⟩ := okWide_slice Try.underlying49 (hval 1 49 v1 rfl rfl)
  have k1 := h1
  have lt1 : ∀ x ∈ p1, x.block < W.heap.size := by obtain ⟨m, hm⟩ := k1; exact DataW.trod_lt m _ _ _ hm
  obtain ⟨l1, w1, z1⟩ : ∃ l, ShC.Row W (.slice a1 len1 cap1) l ∧ l.length * 56 ≤ 140737488351232 := by
    obtain ⟨fuel, hf⟩ := h1
    obtain ⟨A, n, c, l, hcs, hln, hrow, hb, -⟩ := open_listG ShC (bytes := 56) (Q := fun _ => True) Try.underlying49 (by kernel_rfl) (by kernel_rfl) open_cstG hf (light_of hsz (j := 1) rfl rfl)
    simp [Value.cells] at hcs
    obtain ⟨rfl, rfl, rfl⟩ := hcs
    exact ⟨l, hrow, hb⟩
  obtain ⟨a2, rfl, rfl, rfl, w2⟩ := open_int Try.underlying3 (hval 2 3 v2 rfl rfl) h2
  have z2 : B64 a2 := bounds_i64 w2
  clear hA0 hval0 hsz0
  refine (codeChecks_walk W m0 va0 vc0 vh0 w0 z0 (.slice a1 len1 cap1) l1 w1 z1 a2 z2).mono fun e W' ⟨he, bel⟩ => ?_
  subst he
  exact ⟨_, rfl, _, _, _, [], _, [], hW', trodAll_mk1 (shut_bool Try.underlying4 _), (trodAll_cons_mk (Below.trod laidOut (by kernel_rfl) (of_decide_eq_true (by kernel_rfl)) k0 bel lt0) (trodAll_cons_mk (Below.trod laidOut (by kernel_rfl) (of_decide_eq_true (by kernel_rfl)) k1 bel lt1) (trodAll_cons_mk (shut_int Try.underlying3 w2) trodAll_mk0))), rfl, bel.frame _, fun h => by cases h⟩

theorem codeChecks_over : Rows.codeChecksRow.holds Try.pinned (OpenSpec.ofChange Rows.codeChecksSpec) :=
  OpenClaim.holds_of_wide 5 Try.f5 rfl rfl rfl rfl rfl rfl rfl ⟨rfl, rfl, rfl, rfl, rfl⟩ rfl rfl rfl rfl rfl (by kernel_rfl) Try.func5 (by kernel_rfl)
    (of_decide_eq_true (by kernel_rfl)) (by unfold Func.isWrapper; first | (rw [if_pos (by decide +kernel)]; kernel_rfl) | (rw [if_neg (by decide +kernel)]; exact ⟨rfl, rfl⟩))
    (fun os started H enc _ => codeChecks_lifted os started H enc)

/-- The statement. -/
theorem codeChecks_proved : Rows.CodeChecksSaid := codeChecks_over
#print axioms codeChecks_proved

end Go.Proofs.Ytcgajgileehbbaa
/- What CodeKnown wants: the law CodeChecks as a contract, and lists of structs that are written out. -/
namespace Go.Proofs.Ytcgajgileehbbaa
open Go.RowKit
set_option linter.unusedVariables false

theorem chk_ok {W : World} (sk lo : Int) (vc vh : Value) (code : List Int) (hs : List Hd) (hc : Row W .u8 vc code) (lc : code.length ≤ 100000) (hh : ShH.Row W vh hs) (lh : hs.length ≤ 100000) (b1 : B64 sk) (b2 : B64 lo)
    (vp : Value) (pool : List Cst) (hp : ShC.Row W vp pool) (lp : pool.length ≤ 100000) (t : Int) (ht : B64 t) :
    Calls Try.prog 5 #[.agg #[.bool false, .bool false, .string ⟨#[]⟩, .int .i64 0, .string ⟨#[]⟩, .slice none 0 0, .int .i64 sk, .int .i64 lo, vc, vh], vp, .int .i64 t] W fun e w' => e = .returned (.bool true) ∧ Ext W w' := by
  have er0 : reachBytes = 140737488351232 := rfl
  exact codeChecks_walk W ⟨false, false, ⟨#[]⟩, t0, [], sk, lo, code, hs⟩ (.slice none 0 0) vc vh ⟨Shp.Row.nil _ _, hc, hh⟩ ⟨by simp only; omega, by simp only; omega, by simp, b1, b2⟩ vp pool hp (by omega) t ht
/-- Structs that are written out. -/
theorem Shp.Row.lit {α : Type} {S : Shp α} {w : World} {g n : Nat} {cs : Array Value} (l : List α) (h : w.heap[g]? = some (.cells cs S.T (0, 0))) (hc : cs = (l.flatMap fun x => (S.vals x).toList).toArray) (hn : n = l.length) (hx : ∀ x ∈ l, S.nestO 0 w x) (hm : l.length ≤ 65536) :
    S.Row w (.slice (some ⟨g, 0, none⟩) n n) l := by
  subst hn hc
  have e := S.flat_len l
  exact Shp.Own.row (B := 0) ⟨⟨e, .inr ⟨g, l.length, _, rfl, Nat.zero_le _, h, Nat.le_refl _, by simp only [maxLen]; omega, by rw [List.size_toArray, e], by rw [← e]; exact List.take_length⟩⟩, hx⟩
/-- A block of handlers, whatever they are. -/
def HBl (w : World) (g n : Nat) : Prop := ∃ c : Array Value, w.heap[g]? = some (.cells c 64 (0, 0)) ∧ c.size = n * 4 ∧ ∀ (j : Nat) (u : Value), c[j]? = some u → ∃ x : Int, u = .int .i64 x
theorem HBl.set {w : World} {g n : Nat} (h : HBl w g n) (j : Nat) (x : Int) : HBl (w.setCell ⟨g, j, none⟩ (.int .i64 x)) g n := by
  obtain ⟨c, h1, h2, h3⟩ := h
  refine ⟨_, heap_setCell_same w g j c _ _ h1, by simpa using h2, fun i u hu => ?_⟩
  rw [Array.getElem?_setIfInBounds] at hu
  split at hu
  · split at hu
    · injection hu with hu
      exact ⟨x, hu.symm⟩
    · cases hu
  · exact h3 i u hu
theorem HBl.cell {w : World} {g n : Nat} (h : HBl w g n) {j : Nat} (hj : j < n * 4) : ∃ x : Int, w.cell? ⟨g, j, none⟩ = some (.int .i64 x) := by
  obtain ⟨c, h1, h2, h3⟩ := h
  have hc : c[j]? = some c[j] := Array.getElem?_eq_getElem (by omega)
  obtain ⟨x, hx⟩ := h3 j _ hc
  exact ⟨x, by rw [cell_of_row w g j c _ (0, 0) h1, hc, hx]⟩
theorem HBl.free {w : World} {g n : Nat} (h : HBl w g n) (j : Nat) : w.frozen? ⟨g, j, none⟩ = false := by
  obtain ⟨c, h1, -⟩ := h
  simp [World.frozen?, h1]
theorem HBl.ext {w w' : World} {g n : Nat} (h : HBl w g n) (e : Ext w w') : HBl w' g n := by
  obtain ⟨c, h1, h2⟩ := h
  exact ⟨c, (e.block g (lt_of_get h1)).trans h1, h2⟩
theorem HBl.row {w : World} {g n : Nat} (h : HBl w g n) (hn : n ≤ 65536) : ∃ l : List Hd, l.length = n ∧ ShH.Row w (.slice (some ⟨g, 0, none⟩) n n) l := by
  obtain ⟨c, h1, h2, h3⟩ := h
  refine ⟨(List.range n).map fun j => ⟨intOf (c.getD (j * 4) undef), intOf (c.getD (j * 4 + 1) undef), intOf (c.getD (j * 4 + 2) undef), intOf (c.getD (j * 4 + 3) undef)⟩, by simp, ?_⟩
  have hlen : ((List.range n).map fun j => (⟨intOf (c.getD (j * 4) undef), intOf (c.getD (j * 4 + 1) undef), intOf (c.getD (j * 4 + 2) undef), intOf (c.getD (j * 4 + 3) undef)⟩ : Hd)).length = n := by simp
  have hat : ∀ i, i < n * 4 → c[i]? = some (.int .i64 (intOf (c.getD i undef))) := by
    intro i hi
    have hc : c[i]? = some c[i] := Array.getElem?_eq_getElem (by omega)
    obtain ⟨x, hx⟩ := h3 i _ hc
    rw [hc, hx, Array.getD_eq_getD_getElem?, hc, hx]
    rfl
  refine ⟨_, _, by rw [hlen], by rw [hlen]; exact Nat.le_refl _, by simp only [maxLen]; omega, (fun h => by cases h), fun hl => ⟨g, 0, rfl, lt_of_get h1, fun j hj i hi => ?_⟩, fun x hx => trivial⟩
  rw [hlen] at hj
  have hj4 : j * 4 + i < n * 4 := by have : i < 4 := hi; omega
  rw [cell_of_row w g _ c _ (0, 0) h1, show 0 + j * ShH.n + i = j * 4 + i by rw [show ShH.n = 4 from rfl]; omega, hat _ hj4]
  have e : ShH.el ((List.range n).map fun j => (⟨intOf (c.getD (j * 4) undef), intOf (c.getD (j * 4 + 1) undef), intOf (c.getD (j * 4 + 2) undef), intOf (c.getD (j * 4 + 3) undef)⟩ : Hd)) j = ⟨intOf (c.getD (j * 4) undef), intOf (c.getD (j * 4 + 1) undef), intOf (c.getD (j * 4 + 2) undef), intOf (c.getD (j * 4 + 3) undef)⟩ := by
    simp [Shp.el, hj]
  rw [e]
  have hi4 : i = 0 ∨ i = 1 ∨ i = 2 ∨ i = 3 := by have : i < 4 := hi; omega
  rcases hi4 with rfl | rfl | rfl | rfl <;> rfl
/-- So many handlers of zeros. -/
theorem run_zerosH (n : Nat) (h : n ≤ 60000) (W : World) : (Instr.makeSlice 46 (.int .i64 n) (.int .i64 n)).run Try.prog W = .ok (.slice (some ⟨W.heap.size, 0, none⟩) n n) (W.alloc (.cells (madeCells (Value.agg #[.int .i64 0, .int .i64 0, .int .i64 0, .int .i64 0]).cells (n * 4)) 64)) := by
  obtain ⟨i, hi1, hi2, hi3, hi4⟩ := info_parts infoH
  have hr := run_make (P := Try.prog) W 46 64 i _ Try.underlying46 hi1 hi2 .i64 .i64 n n (by omega) (Int.le_refl _) (by rw [hi4]; omega) (by omega)
  rw [hi3, Int.toNat_natCast] at hr
  exact hr
theorem hbl_zeros (n : Nat) (W : World) : HBl (W.alloc (.cells (madeCells (Value.agg #[.int .i64 0, .int .i64 0, .int .i64 0, .int .i64 0]).cells (n * 4)) 64)) W.heap.size n := by
  refine ⟨_, heap_alloc_new _ _, by simp [size_madeCells], fun j u hu => ⟨0, ?_⟩⟩
  simp only [madeCells, Array.getElem?_map] at hu
  obtain ⟨k, -, hk⟩ := Option.map_eq_some_iff.1 hu
  have h4 : k % 4 = 0 ∨ k % 4 = 1 ∨ k % 4 = 2 ∨ k % 4 = 3 := by omega
  rw [← hk]
  rcases h4 with e | e | e | e <;> simp [Value.cells, e]
theorem run_headC (g c N n : Nat) (X : Int) (hX : X = n) (hn : n ≤ c) (hc : ¬ c = 0) (W : World) :
    (Instr.slice 49 (.slice (some ⟨g, 0, none⟩) N c) none (some (.int .i64 X)) none).run Try.prog W = .ok (.slice (some ⟨g, 0, none⟩) n c) W ∧
    (Instr.sliceAt 49 (.slice (some ⟨g, 0, none⟩) N c) none (some (.int .i64 X)) none).run Try.prog W = .ok (.slice (some ⟨g, 0, none⟩) n c) W := by
  subst hX
  have k1 : ¬ c < n := by omega
  exact ⟨by go_simp, by go_simp⟩
end Go.Proofs.Ytcgajgileehbbaa
