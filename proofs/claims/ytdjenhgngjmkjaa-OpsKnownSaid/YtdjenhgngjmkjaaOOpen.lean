/- A parameter that is an instruction, opened: what is told of it. -/
import Derived.Test.YtdjenhgngjmkjaaRows
import Derived.Test.YtdjenhgngjmkjaaOpsC
import Derived.ProofKit
import Derived.OpenShut
import Derived.ShutString
import Derived.ChangeOld
import Derived.SizedLaws
import Derived.Lib.ValidLaws
import Derived.Deep.Slices
import Derived.Deep.Fields
import Derived.ChangeSame
namespace Go.Proofs.Ytdjenhgngjmkjaa
open Go.RowKit Go.ChangeShapes Go.WideShapes Go.Deep
set_option linter.unusedVariables false
theorem own : ownKnob Try.prog.godebug = none := by kernel_rfl
theorem laidOut : laidOutB Try.prog = true := by kernel_rfl
theorem bytes8 : Try.prog.bytesOf 5 = 1 := by kernel_rfl
theorem bounds_i64 {x : Int} (h : (Lit.int .i64 x).wf = true) : -9223372036854775808 ≤ x ∧ x ≤ 9223372036854775807 := by
  simp [Lit.wf, IntKind.min, IntKind.max, IntKind.signed, IntKind.bits] at h
  omega
/-- An int of 64 bits. -/
def B64 (x : Int) : Prop := -9223372036854775808 ≤ x ∧ x ≤ 9223372036854775807
section
variable {H : Type} {enc : TypeId × Value → H} {w : World}
/-- What is told of a list of ints. -/
def DL (d : DataW H) (l : List Int) : Prop := (l = [] ∧ d = .nil) ∨ ∃ sp, d = .slice (lits .i64 l) sp
theorem open_list {fuel : Nat} {cs : List Value} {x : DataW H × List MemPlace} (h : DataW.trod enc Try.prog w 0 (fun _ => true) true fuel 24 cs = some x) :
    ∃ (v : Value) (l : List Int), cs = [v] ∧ Row w .i64 v l ∧ DL x.1 l := by
  rcases open_ints Try.underlying24 Try.underlying3 (by kernel_rfl) h with ⟨rfl, rfl⟩ | ⟨a, n, c, zs, rfl, _, hl, hm, hz, rfl, hcell, hwz⟩
  · exact ⟨_, [], rfl, (Own.nil 0 _ 0 _).row, .inl ⟨rfl, rfl⟩⟩
  · simp only [if_true] at hz
    exact ⟨_, _, rfl, row_of_open hl hm hz hcell hwz, .inr ⟨_, rfl⟩⟩
set_option maxRecDepth 100000 in
theorem open_ins {fuel : Nat} {cs : List Value} {x : DataW H × List MemPlace} (h : DataW.trod enc Try.prog w 0 (fun _ => true) true fuel 26 cs = some x) :
    ∃ (y : In) (v1 v2 : Value) (d1 d2 : DataW H), cs = (y.vals v1 v2).toList ∧ Row w .i64 v1 y.to ∧ Row w .i64 v2 y.ks ∧ (B64 y.a ∧ B64 y.o ∧ B64 y.n ∧ B64 y.m) ∧
      x.1 = .agg [.lit (.int .i64 y.a), .lit (.int .i64 y.o), .lit (.int .i64 y.n), .lit (.int .i64 y.m), d1, d2] ∧ DL d1 y.to ∧ DL d2 y.ks := by
  obtain ⟨ys, n', hn', hy, hlen, hyl, hf⟩ := DataW.trod_struct Try.underlying26 h
  have hc : cs.length = 6 := hlen.trans (by kernel_rfl)
  have k3 : Try.prog.cellsOf 3 = 1 := by kernel_rfl
  have k9 : Try.prog.cellsOf 24 = 1 := by kernel_rfl
  match cs, hc with
  | [c0, c1, c2, c3, c4, c5], _ =>
    have hyl' : ys.length = 6 := hyl
    clear hyl
    match ys, hyl' with
    | [y0, y1, y2, y3, y4, y5], _ =>
      have h0 : DataW.trod enc Try.prog w 0 (fun _ => true) true n' 3 [c0] = some y0 := by simpa [k3, k9] using hf 0 _ rfl
      have h1 : DataW.trod enc Try.prog w 0 (fun _ => true) true n' 3 [c1] = some y1 := by simpa [k3, k9] using hf 1 _ rfl
      have h2 : DataW.trod enc Try.prog w 0 (fun _ => true) true n' 3 [c2] = some y2 := by simpa [k3, k9] using hf 2 _ rfl
      have h3 : DataW.trod enc Try.prog w 0 (fun _ => true) true n' 3 [c3] = some y3 := by simpa [k3, k9] using hf 3 _ rfl
      have h4 : DataW.trod enc Try.prog w 0 (fun _ => true) true n' 24 [c4] = some y4 := by simpa [k3, k9] using hf 4 _ rfl
      have h5 : DataW.trod enc Try.prog w 0 (fun _ => true) true n' 24 [c5] = some y5 := by simpa [k3, k9] using hf 5 _ rfl
      obtain ⟨x0, e0, r0, w0⟩ := DataW.trod_int Try.underlying3 h0
      obtain ⟨x1, e1, r1, w1⟩ := DataW.trod_int Try.underlying3 h1
      obtain ⟨x2, e2, r2, w2⟩ := DataW.trod_int Try.underlying3 h2
      obtain ⟨x3, e3, r3, w3⟩ := DataW.trod_int Try.underlying3 h3
      obtain ⟨v4, l4, e4, q4, s4⟩ := open_list h4
      obtain ⟨v5, l5, e5, q5, s5⟩ := open_list h5
      injection e0 with e0
      injection e1 with e1
      injection e2 with e2
      injection e3 with e3
      injection e4 with e4
      injection e5 with e5
      subst e0 e1 e2 e3 e4 e5 r0 r1 r2 r3
      exact ⟨⟨x0, x1, x2, x3, l4, l5⟩, _, _, y4.1, y5.1, rfl, q4, q5, ⟨bounds_i64 w0, bounds_i64 w1, bounds_i64 w2, bounds_i64 w3⟩, by rw [hy]; rfl, s4, s5⟩
/-- What each part weighs. -/
theorem weights_at {P : Program} : ∀ {ts : List TypeId} {ds : List (DataW H)}, (DataW.weightsEach P ts ds).all (· ≤ reachBytes) = true → ∀ {j : Nat} {t : TypeId} {d : DataW H}, ts[j]? = some t → ds[j]? = some d → ∀ x ∈ d.weights P t, x ≤ reachBytes := by
  intro ts
  induction ts with
  | nil => intro ds _ j t d ht; simp at ht
  | cons a ts ih =>
    intro ds h j t d ht hd x hx
    match ds, hd with
    | [], hd => simp at hd
    | b :: ds, hd =>
      rw [DataW.weightsEach, List.all_append, Bool.and_eq_true] at h
      match j, ht, hd with
      | 0, ht, hd =>
        simp at ht hd
        subst ht hd
        exact of_decide_eq_true (List.all_eq_true.1 h.1 x hx)
      | j + 1, ht, hd => exact ih h.2 (by simpa using ht) (by simpa using hd) x hx
theorem list_weights {d : DataW H} {l : List Int} (h : DL d l) (hw : ∀ x ∈ d.weights Try.prog 24, x ≤ reachBytes) : l.length * 8 ≤ 140737488351232 := by
  have hb : Try.prog.bytesOf 3 = 8 := by kernel_rfl
  rcases h with ⟨rfl, _⟩ | ⟨sp, rfl⟩
  · simp
  · have hu : (DataW.slice (lits .i64 l) sp : DataW H).weights Try.prog 24 = ((lits .i64 l : List (DataW H)).length + sp.length) * Try.prog.bytesOf 3 :: (DataW.weightsAll Try.prog 3 (lits .i64 l : List (DataW H)) ++ DataW.weightsAll Try.prog 3 sp) := by
      rw [DataW.weights, Try.underlying24]
    rw [hu, hb] at hw
    have := hw _ (List.mem_cons_self ..)
    simp only [lits, List.length_map] at this
    have e : reachBytes = 140737488351232 := rfl
    omega
theorem ins_weights {y : In} {d1 d2 : DataW H} (h1 : DL d1 y.to) (h2 : DL d2 y.ks) (hw : ∀ x ∈ (DataW.agg [.lit (.int .i64 y.a), .lit (.int .i64 y.o), .lit (.int .i64 y.n), .lit (.int .i64 y.m), d1, d2] : DataW H).weights Try.prog 26, x ≤ reachBytes) :
    y.to.length * 8 ≤ 140737488351232 ∧ y.ks.length * 8 ≤ 140737488351232 := by
  have hu : (DataW.agg [.lit (.int .i64 y.a), .lit (.int .i64 y.o), .lit (.int .i64 y.n), .lit (.int .i64 y.m), d1, d2] : DataW H).weights Try.prog 26 = d1.weights Try.prog 24 ++ d2.weights Try.prog 24 := by
    rw [DataW.weights, Try.underlying26]
    simp [DataW.weightsEach, DataW.weights]
  rw [hu] at hw
  exact ⟨list_weights h1 fun x hx => hw x (List.mem_append_left _ hx), list_weights h2 fun x hx => hw x (List.mem_append_right _ hx)⟩
end
end Go.Proofs.Ytdjenhgngjmkjaa
