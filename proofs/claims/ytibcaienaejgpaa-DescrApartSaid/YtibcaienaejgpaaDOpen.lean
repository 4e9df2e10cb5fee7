/- A parameter that is a type, a list of types, a proto, opened: what is told of it. -/
import Derived.Test.YtibcaienaejgpaaRows
import Derived.Test.YtibcaienaejgpaaDescE
import Derived.ProofKit
import Derived.OpenShut
import Derived.ShutString
import Derived.ChangeOld
import Derived.SizedLaws
import Derived.Lib.ValidLaws
import Derived.Deep.Slices
import Derived.Deep.Fields
import Derived.ChangeSame
namespace Go.Proofs.Ytibcaienaejgpaa
open Go.RowKit Go.ChangeShapes Go.WideShapes Go.Deep
set_option linter.unusedVariables false
theorem own : ownKnob Try.prog.godebug = none := by kernel_rfl
theorem laidOut : laidOutB Try.prog = true := by kernel_rfl
theorem bs_data (x : ByteArray) : bs x.data.toList = x := rfl
/-- Things that there are at each place make a list. -/
theorem list_ofT {Q : Nat → Ty → Prop} : ∀ (n : Nat), (∀ i, i < n → ∃ y, Q i y) → ∃ l : List Ty, l.length = n ∧ ∀ i, i < n → Q i (gt l i) := by
  intro n
  induction n with
  | zero => exact fun _ => ⟨[], rfl, fun i h => absurd h (Nat.not_lt_zero i)⟩
  | succ n ih =>
    intro h
    obtain ⟨l, hl, hq⟩ := ih (fun i hi => h i (by omega))
    obtain ⟨y, hy⟩ := h n (by omega)
    refine ⟨l ++ [y], by simp [hl], fun i hi => ?_⟩
    by_cases hin : i < n
    · have e : gt (l ++ [y]) i = gt l i := by simp [gt, List.getElem?_append_left (show i < l.length by omega)]
      rw [e]
      exact hq i hin
    · have e : gt (l ++ [y]) i = y := by
        have : i = l.length := by omega
        subst this
        simp [gt]
      rw [e, show i = n by omega]
      exact hy
theorem gt_of_mem {l : List Ty} {y : Ty} (h : y ∈ l) : ∃ i, i < l.length ∧ gt l i = y := by
  obtain ⟨i, hi, he⟩ := List.mem_iff_getElem.1 h
  exact ⟨i, hi, by simp [gt, hi, he]⟩

section
variable {H : Type} {enc : TypeId × Value → H} {w : World} {base : Nat} {spare : Nat → Bool} {held : Bool}
/-- What is told of a type. -/
def dat (y : Ty) : DataW H := .agg [.lit (.int .i64 y.k), .lit (.string y.s)]
theorem wf_I64 {x : Int} (h : (Lit.int .i64 x).wf = true) : I64 x := by
  simp [Lit.wf, IntKind.min, IntKind.max, IntKind.signed, IntKind.bits] at h
  exact ⟨by omega, by omega⟩
set_option maxRecDepth 100000 in
theorem open_type {fuel : Nat} {cs : List Value} {x : DataW H × List MemPlace} (h : DataW.trod enc Try.prog w base spare held fuel 23 cs = some x) :
    ∃ y : Ty, cs = y.vals.toList ∧ x.1 = dat y ∧ I64 y.k := by
  obtain ⟨ys, n', hn', hy, hlen, hyl, hf⟩ := DataW.trod_struct Try.underlying23 h
  have hc : cs.length = 2 := hlen.trans (by kernel_rfl)
  have k3 : Try.prog.cellsOf 3 = 1 := by kernel_rfl
  have k9 : Try.prog.cellsOf 9 = 1 := by kernel_rfl
  match cs, hc with
  | [c0, c1], _ =>
    have hyl' : ys.length = 2 := hyl
    clear hyl
    match ys, hyl' with
    | [y0, y1], _ =>
      have h0 : DataW.trod enc Try.prog w base spare held n' 3 [c0] = some y0 := by simpa [k3, k9] using hf 0 _ rfl
      have h1 : DataW.trod enc Try.prog w base spare held n' 9 [c1] = some y1 := by simpa [k3, k9] using hf 1 _ rfl
      obtain ⟨x0, e0, r0, w0⟩ := DataW.trod_int Try.underlying3 h0
      obtain ⟨x1, e1, r1, w1⟩ := DataW.trod_string Try.underlying9 h1
      injection e0 with e0
      injection e1 with e1
      subst e0 e1 r0 r1
      exact ⟨⟨x0, x1.data.toList⟩, rfl, by rw [hy]; rfl, wf_I64 w0⟩
/-- A list of types. -/
theorem open_types {fuel : Nat} {cs : List Value} {x : DataW H × List MemPlace} (h : DataW.trod enc Try.prog w base spare held fuel 27 cs = some x) :
    ∃ (A : Option Addr) (n c : Nat) (l : List Ty) (sp : List (DataW H)), cs = [.slice A n c] ∧ l.length = n ∧ ((∀ y ∈ l, y.s.length ≤ 140737488351232) → RowT w (.slice A n c) l) ∧ ((l = [] ∧ x.1 = .nil) ∨ x.1 = .slice (l.map dat) sp) := by
  rcases open_slice Try.underlying27 h with ⟨rfl, rfl⟩ | ⟨a, len, cap, m, n, D, Pl, rfl, hb, hl, hm, hmm, rfl, hi⟩
  · exact ⟨none, 0, 0, [], [], rfl, rfl, fun _ => RowT.nil w, .inl ⟨rfl, rfl⟩⟩
  · have hlm : len ≤ m := by rw [hmm]; split <;> omega
    have k6 : Try.prog.cellsOf 23 = 2 := by kernel_rfl
    obtain ⟨l, hll, hq⟩ := list_ofT (Q := fun i y => D i = dat y ∧ I64 y.k ∧ ∀ j, j < 2 → w.cell? (a.add (i * 2 + j)) = y.vals[j]?) len (fun i hil => by
      obtain ⟨cs', hc, ht'⟩ := hi i (by omega)
      rw [k6] at hc
      obtain ⟨y, hv, hd, hok⟩ := open_type ht'
      obtain ⟨_, hcl, hat⟩ := World.cells?_some hc
      refine ⟨y, hd, hok, fun j hj => ?_⟩
      have := hat j hj
      rw [← Go.Deep.add_add, this, hv]
      simp)
    have hdat : (List.range len).map D = l.map dat := by
      apply List.ext_getElem
      · simp [hll]
      · intro i h1 h2
        have hi' : i < len := by simpa using h1
        have := (hq i hi').1
        simp [this, gt, show i < l.length by omega]
    refine ⟨some a, len, cap, l, _, rfl, hll, fun hs => ⟨some a, cap, by rw [hll], by omega, hm, (fun h => by cases h), fun y hy => ?_, fun hp => ?_⟩, .inr (by rw [hdat])⟩
    · obtain ⟨i, hi', rfl⟩ := gt_of_mem hy
      exact ⟨(hq i (by omega)).2.1, hs _ hy⟩
    · have h0 := (hq 0 (by omega)).2.2 0 (by omega)
      obtain ⟨b, o, spot⟩ := a
      have hs : spot = none := by
        have h0' : w.cell? ((⟨b, o, spot⟩ : Addr).add (0 * 2 + 0)) = some (.int .i64 (gt l 0).k) := h0
        simpa [Addr.add] using World.cell?_spot h0'
      subst hs
      refine ⟨b, o, rfl, World.block_lt_of_cell? w ((⟨b, o, none⟩ : Addr).add (0 * 2 + 0)) h0, fun j hj => ?_⟩
      have hc := (hq j (by omega)).2.2
      have hx : ∀ f, f < 2 → w.cell? ⟨b, o + j * 2 + f, none⟩ = (gt l j).vals[f]? := fun f hf => by
        have := hc f hf
        rw [Addr.add_lit] at this
        rw [Nat.add_assoc]
        exact this
      exact ⟨hx 0 (by omega), hx 1 (by omega)⟩
set_option maxRecDepth 100000 in
/-- A proto. -/
theorem open_protoV {fuel : Nat} {cs : List Value} {x : DataW H × List MemPlace} (h : DataW.trod enc Try.prog w base spare held fuel 29 cs = some x) :
    ∃ (A : Option Addr) (n c : Nat) (p : Pr) (sp : List (DataW H)) (da : DataW H), cs = (p.vals (.slice A n c)).toList ∧ p.args.length = n ∧ ((∀ y ∈ p.args, y.s.length ≤ 140737488351232) → RowT w (.slice A n c) p.args) ∧ x.1 = .agg [dat p.ret, da] ∧ ((p.args = [] ∧ da = .nil) ∨ da = .slice (p.args.map dat) sp) := by
  obtain ⟨ys, n', hn', hy, hlen, hyl, hf⟩ := DataW.trod_struct Try.underlying29 h
  have hc : cs.length = 3 := hlen.trans (by kernel_rfl)
  have k2 : Try.prog.cellsOf 23 = 2 := by kernel_rfl
  have k1 : Try.prog.cellsOf 27 = 1 := by kernel_rfl
  match cs, hc with
  | [c0, c1, c2], _ =>
    have hyl' : ys.length = 2 := hyl
    clear hyl
    match ys, hyl' with
    | [y0, y1], _ =>
      have h0 : DataW.trod enc Try.prog w base spare held n' 23 [c0, c1] = some y0 := by simpa [k2, k1] using hf 0 _ rfl
      have h1 : DataW.trod enc Try.prog w base spare held n' 27 [c2] = some y1 := by simpa [k2, k1] using hf 1 _ rfl
      obtain ⟨t, e0, r0, _⟩ := open_type h0
      obtain ⟨A, n, c, l, sp, e1, hl, hr, hd⟩ := open_types h1
      have e0' : c0 = .int .i64 t.k ∧ c1 = .string (bs t.s) := by
        simp [Ty.vals] at e0
        exact e0
      injection e1 with e1
      obtain ⟨rfl, rfl⟩ := e0'
      subst e1
      refine ⟨A, n, c, ⟨t, l⟩, sp, y1.1, rfl, hl, hr, ?_, hd⟩
      rw [hy]
      simp [r0]
/-- What each part weighs. -/
theorem weights_at {P : Program} : ∀ {ts : List TypeId} {ds : List (DataW H)}, (DataW.weightsEach P ts ds).all (· ≤ reachBytes) = true → ∀ {j : Nat} {t : TypeId} {d : DataW H}, ts[j]? = some t → ds[j]? = some d → ∀ x ∈ d.weights P t, x ≤ reachBytes := by
  intro ts
  induction ts with
  | nil => intro ds _ j t d ht; simp at ht
  | cons a ts ih =>
    intro ds h j t d ht hd x hx
    match ds, hd with
    | [], hd => simp at hd
    | b :: ds, hd =>
      rw [DataW.weightsEach, List.all_append, Bool.and_eq_true] at h
      match j, ht, hd with
      | 0, ht, hd =>
        simp at ht hd
        subst ht hd
        exact of_decide_eq_true (List.all_eq_true.1 h.1 x hx)
      | j + 1, ht, hd => exact ih h.2 (by simpa using ht) (by simpa using hd) x hx
theorem weightsAll_mem {P : Program} {e : TypeId} {d : DataW H} {x : Nat} (hx : x ∈ d.weights P e) : ∀ {l : List (DataW H)}, d ∈ l → x ∈ DataW.weightsAll P e l := by
  intro l
  induction l with
  | nil => intro h; cases h
  | cons a l ih =>
    intro h
    rw [DataW.weightsAll]
    rcases List.mem_cons.1 h with rfl | h
    · exact List.mem_append_left _ hx
    · exact List.mem_append_right _ (ih h)
theorem dat_weights (y : Ty) : y.s.length ∈ (dat y : DataW H).weights Try.prog 23 := by
  unfold dat
  rw [DataW.weights, Try.underlying23]
  simp [DataW.weightsEach, DataW.weights]
theorem types_weights {l : List Ty} {sp : List (DataW H)} (hw : ∀ x ∈ (DataW.slice (l.map dat) sp : DataW H).weights Try.prog 27, x ≤ reachBytes) :
    l.length * 24 ≤ 140737488351232 ∧ ∀ y ∈ l, y.s.length ≤ 140737488351232 := by
  have hb : Try.prog.bytesOf 23 = 24 := by kernel_rfl
  have hu : (DataW.slice (l.map dat) sp : DataW H).weights Try.prog 27 = ((l.map (dat : Ty → DataW H)).length + sp.length) * Try.prog.bytesOf 23 :: (DataW.weightsAll Try.prog 23 (l.map (dat : Ty → DataW H)) ++ DataW.weightsAll Try.prog 23 sp) := by
    rw [DataW.weights, Try.underlying27]
  rw [hu, hb] at hw
  constructor
  · have := hw _ (List.mem_cons_self ..)
    rw [List.length_map] at this
    have e : reachBytes = 140737488351232 := rfl
    omega
  · intro y hy
    exact hw _ (List.mem_cons_of_mem _ (List.mem_append_left _ (weightsAll_mem (dat_weights y) (List.mem_map_of_mem hy))))
theorem proto_weights {t : Ty} {da : DataW H} (hw : ∀ x ∈ (DataW.agg [dat t, da] : DataW H).weights Try.prog 29, x ≤ reachBytes) :
    t.s.length ≤ 140737488351232 ∧ ∀ x ∈ da.weights Try.prog 27, x ≤ reachBytes := by
  have hu : (DataW.agg [dat t, da] : DataW H).weights Try.prog 29 = (dat t : DataW H).weights Try.prog 23 ++ da.weights Try.prog 27 := by
    rw [DataW.weights, Try.underlying29]
    simp [DataW.weightsEach]
  rw [hu] at hw
  exact ⟨hw _ (List.mem_append_left _ (dat_weights t)), fun x hx => hw x (List.mem_append_right _ hx)⟩
end
end Go.Proofs.Ytibcaienaejgpaa
