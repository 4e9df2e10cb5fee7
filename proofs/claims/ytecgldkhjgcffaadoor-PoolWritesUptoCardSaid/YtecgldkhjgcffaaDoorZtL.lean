/- Several texts of this proof, one behind the other. -/
import Derived.Test.YtecgldkhjgcffaaDoorRows
import Derived.Test.YtecgldkhjgcffaaDoorCards
import Derived.Test.YtecgldkhjgcffaaDoorTie
import Derived.Test.YtecgldkhjgcffaaDoorZtH
import Derived.ProofKit
import Derived.OpenShut
import Derived.ShutString
import Derived.ChangeOld
import Derived.SizedLaws
import Derived.Deep.DeepHandedRow
import Derived.Deep.DeepWitnessRowRef
import Derived.Lib.LaidIn
import Derived.Lib.LaidU8T
import Derived.Test.YtecgldkhjgcffaaDoorZtA
import Derived.Lib.ValidLaws
import Derived.Deep.Slices
import Derived.Deep.Fields
import Derived.ChangeSame
/- What the end of each law's proof needs: the tables that its row lists, and a world that holds them. -/
namespace Go.Proofs.YtecgldkhjgcffaaDoor
open Go.ChangeShapes Go.WideShapes Go.ChangeAt Go.RowKit Go.Lib
set_option linter.unusedVariables false
theorem own : ownKnob Tryd.prog.godebug = none := by kernel_rfl
theorem laidOut : laidOutB Tryd.prog = true := by kernel_rfl
theorem bytes8 : Tryd.prog.bytesOf 5 = 1 := by kernel_rfl
/-- What each row lists. -/
def Listed : List (String × DataW Unit) := [("unicode/utf8.acceptRanges", Rows.laid_unicode_utf8_acceptRanges), ("unicode/utf8.first", Rows.laid_unicode_utf8_first)]
theorem accept_eq : (Rows.laid_unicode_utf8_acceptRanges : DataW Unit) = Lib.acceptData := by kernel_rfl
theorem first_eq : Rows.laid_unicode_utf8_first = Lib.firstData := by kernel_rfl
theorem Listed_eq : Listed = [("unicode/utf8.acceptRanges", Lib.acceptData), ("unicode/utf8.first", Lib.firstData)] := by
  unfold Listed
  rw [accept_eq, first_eq]
theorem tabs_of {W : World} (hL : laidMetH Tryd.prog Listed W) : Tabs W := by
  rw [Listed_eq] at hL
  exact utf8Tabs_of_readsT (U8Types.of196 Tryd.lays196) ⟨by kernel_rfl, by kernel_rfl, by kernel_rfl, by kernel_rfl, by kernel_rfl, by kernel_rfl, by kernel_rfl⟩ (Lib.laidMet.reads hL (.tail _ (.head _))) (Lib.laidMet.reads hL (.head _))
/-- A world that holds them. -/
noncomputable def laidWorld (os : Os) : World :=
  let w0 := World.holding Tryd.prog os ⟨#[], #[], []⟩
  let put (h : Array Obj) (g : Nat) (cs : Array Value) : Array Obj := h.modify g fun
    | .cells _ t frozen => .cells cs t frozen
    | o => o
  let h1 := put w0.heap 0 (Lib.firstTab.map fun z => Value.int .u8 z).toArray
  let h2 := put h1 1 ((List.range 16).flatMap fun i => [Value.int .u8 (Lib.accLo i), Value.int .u8 (Lib.accHi i)]).toArray
  { w0 with heap := h2 }
theorem laid_met (os : Os) (args : Array Value) : laidMet Tryd.prog Listed ((laidWorld os).forCall (fun _ _ => 0) ⟨#[], args, []⟩).memory := by
  rw [Listed_eq]
  exact (LaidIn.of_run (l := [("unicode/utf8.acceptRanges", Lib.acceptData), ("unicode/utf8.first", Lib.firstData)]) [0, 1] 8 (by kernel_rfl) (by kernel_rfl) (by kernel_rfl) (by kernel_rfl)).met
end Go.Proofs.YtecgldkhjgcffaaDoor
/- A parameter that is a list of constants, opened: what is told of it, as a list. -/
namespace Go.Proofs.YtecgldkhjgcffaaDoor
open Go.RowKit Go.ChangeShapes Go.WideShapes Go.Deep
set_option linter.unusedVariables false

/-- Things that there are at each place make a list. -/
theorem list_of {Q : Nat → Cst → Prop} : ∀ (n : Nat), (∀ i, i < n → ∃ y, Q i y) → ∃ l : List Cst, l.length = n ∧ ∀ i, i < n → Q i (gc l i) := by
  intro n
  induction n with
  | zero => exact fun _ => ⟨[], rfl, fun i h => absurd h (Nat.not_lt_zero i)⟩
  | succ n ih =>
    intro h
    obtain ⟨l, hl, hq⟩ := ih (fun i hi => h i (by omega))
    obtain ⟨y, hy⟩ := h n (by omega)
    refine ⟨l ++ [y], by simp [hl], fun i hi => ?_⟩
    by_cases hin : i < n
    · have e : gc (l ++ [y]) i = gc l i := by simp [gc, List.getElem?_append_left (show i < l.length by omega)]
      rw [e]
      exact hq i hin
    · have e : gc (l ++ [y]) i = y := by
        have : i = l.length := by omega
        subst this
        simp [gc]
      rw [e, show i = n by omega]
      exact hy
theorem gc_of_mem {l : List Cst} {y : Cst} (h : y ∈ l) : ∃ i, i < l.length ∧ gc l i = y := by
  obtain ⟨i, hi, he⟩ := List.mem_iff_getElem.1 h
  exact ⟨i, hi, by simp [gc, hi, he]⟩

section
variable {H : Type} {enc : TypeId × Value → H} {w : World} {base : Nat} {spare : Nat → Bool} {held : Bool}
/-- What is told of a constant. -/
def dat (y : Cst) : DataW H := .agg [.lit (.int .i64 y.k), .lit (.string y.t.data.toList), .lit (.int .i64 y.n), .lit (.int .i64 y.a), .lit (.int .i64 y.b), .lit (.int .i64 y.c)]
theorem wf_I64 {x : Int} (h : (Lit.int .i64 x).wf = true) : I64 x := by
  simp [Lit.wf, IntKind.min, IntKind.max, IntKind.signed, IntKind.bits] at h
  exact ⟨by omega, by omega⟩
set_option maxRecDepth 100000 in
theorem open_const {fuel : Nat} {cs : List Value} {x : DataW H × List MemPlace} (h : DataW.trod enc Tryd.prog w base spare held fuel 44 cs = some x) :
    ∃ y : Cst, cs = y.vals.toList ∧ x.1 = dat y ∧ y.ok ∧ y.t.size ≤ maxLen := by
  obtain ⟨ys, n', hn', hy, hlen, hyl, hf⟩ := DataW.trod_struct Tryd.underlying44 h
  have hc : cs.length = 6 := hlen.trans (by kernel_rfl)
  have k3 : Tryd.prog.cellsOf 3 = 1 := by kernel_rfl
  have k9 : Tryd.prog.cellsOf 9 = 1 := by kernel_rfl
  match cs, hc with
  | [c0, c1, c2, c3, c4, c5], _ =>
    have hyl' : ys.length = 6 := hyl
    clear hyl
    match ys, hyl' with
    | [y0, y1, y2, y3, y4, y5], _ =>
      have h0 : DataW.trod enc Tryd.prog w base spare held n' 3 [c0] = some y0 := by simpa [k3, k9] using hf 0 _ rfl
      have h1 : DataW.trod enc Tryd.prog w base spare held n' 9 [c1] = some y1 := by simpa [k3, k9] using hf 1 _ rfl
      have h2 : DataW.trod enc Tryd.prog w base spare held n' 3 [c2] = some y2 := by simpa [k3, k9] using hf 2 _ rfl
      have h3 : DataW.trod enc Tryd.prog w base spare held n' 3 [c3] = some y3 := by simpa [k3, k9] using hf 3 _ rfl
      have h4 : DataW.trod enc Tryd.prog w base spare held n' 3 [c4] = some y4 := by simpa [k3, k9] using hf 4 _ rfl
      have h5 : DataW.trod enc Tryd.prog w base spare held n' 3 [c5] = some y5 := by simpa [k3, k9] using hf 5 _ rfl
      obtain ⟨x0, e0, r0, w0⟩ := DataW.trod_int Tryd.underlying3 h0
      obtain ⟨x1, e1, r1, w1⟩ := DataW.trod_string Tryd.underlying9 h1
      obtain ⟨x2, e2, r2, w2⟩ := DataW.trod_int Tryd.underlying3 h2
      obtain ⟨x3, e3, r3, w3⟩ := DataW.trod_int Tryd.underlying3 h3
      obtain ⟨x4, e4, r4, w4⟩ := DataW.trod_int Tryd.underlying3 h4
      obtain ⟨x5, e5, r5, w5⟩ := DataW.trod_int Tryd.underlying3 h5
      injection e0 with e0
      injection e1 with e1
      injection e2 with e2
      injection e3 with e3
      injection e4 with e4
      injection e5 with e5
      subst e0 e1 e2 e3 e4 e5 r0 r1 r2 r3 r4 r5
      exact ⟨⟨x0, x1, x2, x3, x4, x5⟩, rfl, by rw [hy]; rfl, ⟨wf_I64 w0, wf_I64 w2, wf_I64 w3, wf_I64 w4, wf_I64 w5⟩, w1⟩
/-- A list of constants. -/
theorem open_consts {fuel : Nat} {cs : List Value} {x : DataW H × List MemPlace} (h : DataW.trod enc Tryd.prog w base spare held fuel 24 cs = some x) :
    ∃ (A : Option Addr) (n c : Nat) (l : List Cst) (sp : List (DataW H)), cs = [.slice A n c] ∧ l.length = n ∧ RowC w (.slice A n c) l ∧ (∀ y ∈ l, y.t.size ≤ maxLen) ∧ ((l = [] ∧ x.1 = .nil) ∨ x.1 = .slice (l.map dat) sp) := by
  rcases open_slice Tryd.underlying24 h with ⟨rfl, rfl⟩ | ⟨a, len, cap, m, n, D, Pl, rfl, hb, hl, hm, hmm, rfl, hi⟩
  · exact ⟨none, 0, 0, [], [], rfl, rfl, RowC.nil w, (fun _ h => by cases h), .inl ⟨rfl, rfl⟩⟩
  · have hlm : len ≤ m := by rw [hmm]; split <;> omega
    have k6 : Tryd.prog.cellsOf 44 = 6 := by kernel_rfl
    obtain ⟨l, hll, hq⟩ := list_of (Q := fun i y => D i = dat y ∧ y.ok ∧ y.t.size ≤ maxLen ∧ ∀ j, j < 6 → w.cell? (a.add (i * 6 + j)) = y.vals[j]?) len (fun i hil => by
      obtain ⟨cs', hc, ht'⟩ := hi i (by omega)
      rw [k6] at hc
      obtain ⟨y, hv, hd, hok, hs⟩ := open_const ht'
      obtain ⟨_, hcl, hat⟩ := World.cells?_some hc
      refine ⟨y, hd, hok, hs, fun j hj => ?_⟩
      have := hat j hj
      rw [← Go.Deep.add_add, this, hv]
      simp)
    have hdat : (List.range len).map D = l.map dat := by
      apply List.ext_getElem
      · simp [hll]
      · intro i h1 h2
        have hi' : i < len := by simpa using h1
        have := (hq i hi').1
        simp [this, gc, show i < l.length by omega]
    refine ⟨some a, len, cap, l, _, rfl, hll, ⟨some a, cap, by rw [hll], by omega, hm, (fun h => by cases h), fun y hy => ?_, fun hp => ?_⟩, fun y hy => ?_, .inr (by rw [hdat])⟩
    · obtain ⟨i, hi', rfl⟩ := gc_of_mem hy
      exact (hq i (by omega)).2.1
    · have h0 := (hq 0 (by omega)).2.2.2 0 (by omega)
      obtain ⟨b, o, spot⟩ := a
      have hs : spot = none := by
        have h0' : w.cell? ((⟨b, o, spot⟩ : Addr).add (0 * 6 + 0)) = some (.int .i64 (gc l 0).k) := h0
        simpa [Addr.add] using World.cell?_spot h0'
      subst hs
      refine ⟨b, o, rfl, World.block_lt_of_cell? w ((⟨b, o, none⟩ : Addr).add (0 * 6 + 0)) h0, fun j hj => ?_⟩
      have hc := (hq j (by omega)).2.2.2
      have hx : ∀ f, f < 6 → w.cell? ⟨b, o + j * 6 + f, none⟩ = (gc l j).vals[f]? := fun f hf => by
        have := hc f hf
        rw [Addr.add_lit] at this
        rw [Nat.add_assoc]
        exact this
      exact ⟨hx 0 (by omega), hx 1 (by omega), hx 2 (by omega), hx 3 (by omega), hx 4 (by omega), hx 5 (by omega)⟩
    · obtain ⟨i, hi', rfl⟩ := gc_of_mem hy
      exact (hq i (by omega)).2.2.1
/-- What each part weighs. -/
theorem weights_at {P : Program} : ∀ {ts : List TypeId} {ds : List (DataW H)}, (DataW.weightsEach P ts ds).all (· ≤ reachBytes) = true → ∀ {j : Nat} {t : TypeId} {d : DataW H}, ts[j]? = some t → ds[j]? = some d → ∀ x ∈ d.weights P t, x ≤ reachBytes := by
  intro ts
  induction ts with
  | nil => intro ds _ j t d ht; simp at ht
  | cons a ts ih =>
    intro ds h j t d ht hd x hx
    match ds, hd with
    | [], hd => simp at hd
    | b :: ds, hd =>
      rw [DataW.weightsEach, List.all_append, Bool.and_eq_true] at h
      match j, ht, hd with
      | 0, ht, hd =>
        simp at ht hd
        subst ht hd
        exact of_decide_eq_true (List.all_eq_true.1 h.1 x hx)
      | j + 1, ht, hd => exact ih h.2 (by simpa using ht) (by simpa using hd) x hx
theorem weightsAll_mem {P : Program} {e : TypeId} {d : DataW H} {x : Nat} (hx : x ∈ d.weights P e) : ∀ {l : List (DataW H)}, d ∈ l → x ∈ DataW.weightsAll P e l := by
  intro l
  induction l with
  | nil => intro h; cases h
  | cons a l ih =>
    intro h
    rw [DataW.weightsAll]
    rcases List.mem_cons.1 h with rfl | h
    · exact List.mem_append_left _ hx
    · exact List.mem_append_right _ (ih h)
theorem dat_weights (y : Cst) : y.t.data.toList.length ∈ (dat y : DataW H).weights Tryd.prog 44 := by
  unfold dat
  rw [DataW.weights, Tryd.underlying44]
  simp [DataW.weightsEach, DataW.weights]
theorem consts_weights {ts : List TypeId} {ds : List (DataW H)} (h : (DataW.weightsEach Tryd.prog ts ds).all (· ≤ reachBytes) = true) {j : Nat} {l : List Cst} {sp : List (DataW H)} (ht : ts[j]? = some 24) (hd : ds[j]? = some (.slice (l.map dat) sp)) :
    l.length * 56 ≤ 140737488351232 ∧ ∀ y ∈ l, y.t.size ≤ 140737488351232 := by
  have hw := weights_at h ht hd
  have hb : Tryd.prog.bytesOf 44 = 56 := by kernel_rfl
  have hu : (DataW.slice (l.map dat) sp : DataW H).weights Tryd.prog 24 = ((l.map (dat : Cst → DataW H)).length + sp.length) * Tryd.prog.bytesOf 44 :: (DataW.weightsAll Tryd.prog 44 (l.map (dat : Cst → DataW H)) ++ DataW.weightsAll Tryd.prog 44 sp) := by
    rw [DataW.weights, Tryd.underlying24]
  rw [hu, hb] at hw
  constructor
  · have := hw _ (List.mem_cons_self ..)
    rw [List.length_map] at this
    have e : reachBytes = 140737488351232 := rfl
    omega
  · intro y hy
    have := hw _ (List.mem_cons_of_mem _ (List.mem_append_left _ (weightsAll_mem (dat_weights y) (List.mem_map_of_mem hy))))
    rw [Lib.size_eq]
    exact this
/-- How much a list of constants is, with its texts. -/
def tot (l : List Cst) : Nat := (l.map fun y => y.t.size + 1).sum
theorem tot_len (l : List Cst) : l.length ≤ tot l := by
  induction l with
  | nil => exact Nat.le_refl _
  | cons x l ih =>
    have e : tot (x :: l) = x.t.size + 1 + tot l := by simp [tot]
    rw [e, List.length_cons]
    omega
theorem tot_mem {l : List Cst} {y : Cst} (h : y ∈ l) : y.t.size < tot l := by
  induction l with
  | nil => cases h
  | cons x l ih =>
    have e : tot (x :: l) = x.t.size + 1 + tot l := by simp [tot]
    rw [e]
    rcases List.mem_cons.1 h with rfl | h
    · omega
    · have := ih h
      omega
theorem bulk_dat (y : Cst) : y.t.size + 1 ≤ Rows.uptoBulk (dat y : DataW H) := by
  have e : y.t.size = y.t.data.toList.length := Lib.size_eq _
  unfold dat
  rw [e]
  simp only [Rows.uptoBulk, Rows.uptoBulkAll]
  omega
theorem bulk_consts (l : List Cst) (sp : List (DataW H)) : tot l ≤ Rows.uptoBulk (.slice (l.map dat) sp : DataW H) := by
  have h : tot l ≤ Rows.uptoBulkAll (l.map (dat : Cst → DataW H)) := by
    induction l with
    | nil => exact Nat.le_refl _
    | cons x l ih =>
      have e : tot (x :: l) = x.t.size + 1 + tot l := by simp [tot]
      have := bulk_dat (H := H) x
      rw [e, List.map_cons, Rows.uptoBulkAll]
      omega
  simp only [Rows.uptoBulk]
  omega
end
end Go.Proofs.YtecgldkhjgcffaaDoor
