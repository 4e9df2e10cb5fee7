/- Several texts of this proof, one behind the other. -/
import Derived.Test.YtecgldkhjgcffaaDoorZsN
import Derived.Test.YtecgldkhjgcffaaDoorZsA
import Derived.Test.YtecgldkhjgcffaaDoorZsC
import Derived.RegionCalls
import Derived.Deep.RegionWith
import Derived.Deep.RegionHeld3
/- Constants as bytes: the document's answer, walked. -/
namespace Go.Proofs.YtecgldkhjgcffaaDoor
open Go.RowKit
set_option linter.unusedVariables false

/-- A constant's bytes. -/
def encC (x : Cst) : List Int :=
  x.k :: (if x.k = 1 then dg 1 10 (encZ x.t.data.toList).length ++ encZ x.t.data.toList else if x.k = 2 ∨ x.k = 3 then dg 2 10 x.n else if x.k = 4 then dg 1 10 x.a else dg 1 10 x.a ++ dg 1 10 x.b ++ dg 1 10 x.c)
/-- Constants' bytes, up to a place. -/
def encTo (l : List Cst) (k : Nat) : List Int := dg 1 10 l.length ++ ((l.take k).drop 1).flatMap encC
def bytesZ (l : List Cst) : List Int := encTo l l.length
theorem encTo_one (l : List Cst) : encTo l 1 = dg 1 10 l.length := by
  unfold encTo
  rw [List.drop_eq_nil_iff.2 (by rw [List.length_take]; omega)]
  simp
theorem encTo_next {l : List Cst} {k : Nat} (h1 : 1 ≤ k) (h : k < l.length) : encTo l (k + 1) = encTo l k ++ encC (gc l k) := by
  unfold encTo
  rw [takeC_one h, List.drop_append_of_le_length (by rw [List.length_take]; omega), List.flatMap_append, List.append_assoc]
  simp
theorem encTo_le {l : List Cst} {k m : Nat} (h1 : 1 ≤ k) (h : k ≤ m) : (encTo l k).length ≤ (encTo l m).length := by
  induction m with
  | zero => omega
  | succ m ih =>
    by_cases hk : k = m + 1
    · rw [hk]; exact Nat.le_refl _
    · have h2 := ih (by omega)
      by_cases hm : m < l.length
      · rw [encTo_next (by omega) hm, List.length_append]
        omega
      · have e : encTo l (m + 1) = encTo l m := by
          unfold encTo
          rw [List.take_of_length_le (by omega), List.take_of_length_le (by omega)]
        rw [e]
        exact h2
/-- What Bytes answers. -/
def BytesAns (w : World) (l : List Cst) (v : Value) (w' : World) : Prop :=
  (checkC l = 0 ∧ ∃ b, v = .tuple #[b, .int .i64 0] ∧ Own w.heap.size w' 5 .u8 b (bytesZ l)) ∨ (¬ checkC l = 0 ∧ v = .tuple #[.slice none 0 0, .int .i64 (checkC l)])
theorem check_all {l : List Cst} (h : checkC l = 0) : l.length ≤ 4096 ∧ 0 < l.length ∧ AllMay l := by
  by_cases h1 : 4096 < l.length
  · rw [checkC_big h1] at h; cases h
  · by_cases h2 : l = []
    · rw [h2, checkC_nil] at h; cases h
    · refine ⟨by omega, List.length_pos_iff.2 h2, ?_⟩
      by_cases h3 : AllMay l
      · exact h3
      · rw [checkC_no (by omega) h3] at h; cases h

theorem Row.one (w : World) (T : TypeId) (g : Nat) (x : Int) (hx : (Lit.int .u8 x).wf = true) (hg : g = w.heap.size) : Row (w.alloc (.cells #[.int .u8 x] T)) .u8 (.slice (some ⟨g, 0, none⟩) 1 1) [x] := by
  subst hg
  exact Row.built1 w .u8 T x hx
/-- The copy of a constant that a round keeps stays as its row grows. -/
theorem kept_copy {w wr w3 : World} {B : Nat} {e T : TypeId} {k : IntKind} {v : Value} {p : List Int} {y : Cst} {o : Obj} (ho : Own B wr e k v p) (hx : Ext w wr) (hB : w.heap.size ≤ B) (hg : ((wr.alloc (.cells y.vals T)).alloc o).grownBy w3 v.ownBlock) :
    At0 w3 wr.heap.size y ∧ wr.heap.size < w3.heap.size ∧ Ext w w3 := by
  have hs := hg.size
  simp at hs
  refine ⟨At0.of (T := T) ?_, by omega, ((hx.alloc _).alloc _).grown hg (fun g hgb => Nat.le_trans hB (ho.low g hgb))⟩
  rw [hg.block wr.heap.size (by simp; omega) (fun e => by have := ho.high _ e.symm; omega)]
  rw [heap_alloc_old _ _ (by simp), heap_alloc_new]
end Go.Proofs.YtecgldkhjgcffaaDoor
