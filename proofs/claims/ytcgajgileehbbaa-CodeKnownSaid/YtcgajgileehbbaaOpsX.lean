/- The project's writer: put, place. -/
import Derived.Test.YtcgajgileehbbaaOpsQ
namespace Go.Proofs.Ytcgajgileehbbaa
open Go.RowKit
set_option linter.unusedVariables false

/-- The project's writer in block g: what is written, where the instruction begins. -/
def WR (w : World) (g : Nat) (v : Value) (a : Int) : Prop := w.heap[g]? = some (.cells #[v, .int .i64 a] 83 (0, 0))
theorem WR.cells {w : World} {g : Nat} {v : Value} {a : Int} (h : WR w g v a) : w.cell? ⟨g, 0, none⟩ = some v ∧ w.cell? ⟨g, 1, none⟩ = some (.int .i64 a) ∧ w.frozen? ⟨g, 0, none⟩ = false ∧ w.frozen? ⟨g, 1, none⟩ = false :=
  ⟨by rw [cell_of_row w g 0 _ _ (0, 0) h]; rfl, by rw [cell_of_row w g 1 _ _ (0, 0) h]; rfl, by simp [World.frozen?, show w.heap[g]? = _ from h], by simp [World.frozen?, show w.heap[g]? = _ from h]⟩
theorem Own.sl {B : Nat} {w : World} {e : TypeId} {k : IntKind} {v : Value} {l : List Int} (h : Own B w e k v l) : ∃ A n k, v = .slice A n k := by
  obtain ⟨A, k, rfl, -⟩ := h.row
  exact ⟨_, _, _, rfl⟩
/-- All blocks at once: the writer, what is written, the instruction. -/
structure WS (w0 w : World) (h g : Nat) (x : In) (v1 v2 : Value) (a : Int) (v : Value) (l : List Int) : Prop where
  wr : WR w g v a
  own : Own w0.heap.size w 5 .u8 v l
  xb : XP w h x v1 v2
  ext : Ext w0 w
  hg : w0.heap.size ≤ g
section
variable {w0 w w' : World} {h g : Nat} {x : In} {v1 v2 : Value} {a : Int} {v : Value} {l : List Int}
theorem WS.later (H : WS w0 w h g x v1 v2 a v l) (e : Ext w w') : WS w0 w' h g x v1 v2 a v l :=
  ⟨(e.block g (lt_of_get H.wr)).trans H.wr, H.own.ext e, (e.block h (lt_of_get H.xb)).trans H.xb, H.ext.trans e, H.hg⟩
theorem WS.app (H : WS w0 w h g x v1 v2 a v l) {u : Value} {m : List Int} (ho : Own w0.heap.size w' 5 .u8 u m) (hgr : w.grownBy w' v.ownBlock) :
    WS w0 (w'.setCell ⟨g, 0, none⟩ u) h g x v1 v2 a u m ∧ w'.cell? ⟨g, 0, none⟩ = some v ∧ w'.frozen? ⟨g, 0, none⟩ = false ∧ w'.cell? ⟨h, 1, none⟩ = some (.int .i64 x.o) := by
  have n1 : v.ownBlock ≠ some h := own_ne H.own H.xb (by decide)
  have n2 : v.ownBlock ≠ some g := own_ne H.own H.wr (by decide)
  have n3 : h ≠ g := blocks_ne H.xb H.wr (by decide)
  have xb' : XP w' h x v1 v2 := (hgr.block h (lt_of_get H.xb) (fun e => n1 e.symm)).trans H.xb
  have wr' : WR w' g v a := (hgr.block g (lt_of_get H.wr) (fun e => n2 e.symm)).trans H.wr
  have e' : Ext w0 w' := H.ext.grown hgr H.own.low
  have hset : ∀ i, i ≠ g → (w'.setCell ⟨g, 0, none⟩ u).heap[i]? = w'.heap[i]? := fun i hi => Below.heap_setCell w' ⟨g, 0, none⟩ u i hi
  have hgrow : w'.grownBy (w'.setCell ⟨g, 0, none⟩ u) (some g) := only_set (World.grownBy.refl w' _) 0 u
  have hw := heap_setCell_same w' g 0 _ 83 u wr'
  refine ⟨⟨?_, ho.kept hgrow ?_, (hset h n3).trans xb', e'.set_ H.hg u, H.hg⟩, wr'.cells.1, wr'.cells.2.2.1, xb'.cells.2.1⟩
  · unfold WR
    rw [hw]
    rfl
  · intro b hb e
    injection e with e
    subst e
    exact own_ne ho wr' (by decide) hb
end
/-- What a call of the writer's leaves. -/
def WLeft (w0 : World) (h g : Nat) (x : In) (v1 v2 : Value) (a : Int) (l : List Int) (e : Ending) (w' : World) : Prop := e = .returned (.tuple #[]) ∧ ∃ v, WS w0 w' h g x v1 v2 a v l
set_option maxHeartbeats 2000000 in
theorem put_any (w0 w : World) (h g : Nat) (x : In) (v1 v2 : Value) (a : Int) (v : Value) (l : List Int) (H : WS w0 w h g x v1 v2 a v l) (n size : Int) (m : List Int) (hm : bS n size = (m, 0))
    (hn0 : -9223372036854775808 ≤ n) (hn1 : n ≤ 9223372036854775807) (hs : size = 1 ∨ size = 2 ∨ size = 4) (hb : l.length + m.length ≤ 140737488355328) :
    Calls Try.prog 85 #[.pointer (some ⟨g, 0, none⟩), .int .i64 n, .int .i64 size] w (WLeft w0 h g x v1 v2 a (l ++ m)) := by
  have hB := Big_any n size w hn0 hn1 (by omega) (by omega)
  rw [hm] at hB
  have HB := Lib.hid hB
  have H0 := Lib.hid H
  clear hB H hm
  go_enter Try.func85, Try.ntmps85
  go_wp2_with (first
    | (go_at_call 99; refine HB.out.mono ?_; rintro e w1 ⟨v3, rfl, ⟨b, rfl, ho⟩, x1⟩; have hs1 := H0.out.later x1; obtain ⟨c0, c1, f0, f1⟩ := hs1.wr.cells)
    | (at_builtin; refine wpList_app _ rfl _ _ w0.heap.size 22 5 _ 1 .u8 rfl Try.underlying22 info8 rfl (by omega) v l rfl hs1.own b m rfl ho.row (by omega) hs1.ext.size ?_; intro u w2 ho2 hg2 _; obtain ⟨A2, n2, k2, rfl⟩ := ho2.sl; obtain ⟨hs2, y0, f2, -⟩ := hs1.app ho2 hg2))
  go_end0
  exact ⟨rfl, _, hs2⟩
theorem place_any' (w0 w : World) (h g : Nat) (x : In) (v1 v2 : Value) (a : Int) (v : Value) (l : List Int) (H : WS w0 w h g x v1 v2 a v l) (t : Int) (ht : -32768 ≤ t - a ∧ t - a ≤ 32767) (ha : 0 ≤ a ∧ a < 8192) (hb : l.length + 2 ≤ 140737488355328) :
    Calls Try.prog 86 #[.pointer (some ⟨g, 0, none⟩), .int .i64 t] w (WLeft w0 h g x v1 v2 a (l ++ be2 (t - a))) := by
  have hp := put_any w0 w h g x v1 v2 a v l H (t - a) 2 (be2 (t - a)) (bS_2 (by omega)) (by omega) (by omega) (.inr (.inl rfl)) (by simp [be2]; omega)
  obtain ⟨c0, c1, f0, f1⟩ := H.wr.cells
  have hw : IntKind.i64.wrap (t - a) = t - a := by rw [IntKind.wrap_i64]; omega
  go_enter Try.func86, Try.ntmps86
  go_wp2_with (go_at_call 85; refine hp.mono ?_; rintro e w1 ⟨rfl, u, hs1⟩)
  go_end0
  exact ⟨rfl, _, hs1⟩
end Go.Proofs.Ytcgajgileehbbaa
