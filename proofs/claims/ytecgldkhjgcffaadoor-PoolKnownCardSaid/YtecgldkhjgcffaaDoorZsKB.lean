/- Several texts of this proof, one behind the other. -/
import Derived.Test.YtecgldkhjgcffaaDoorZsX
import Derived.Test.YtecgldkhjgcffaaDoorZsL
import Derived.Test.YtecgldkhjgcffaaDoorZsZ
/- PoolKnown: its lists, ahead of the walk. -/
namespace Go.Proofs.YtecgldkhjgcffaaDoor
open Go.RowKit
set_option linter.unusedVariables false

/-- So many ints. -/
def longG (k : Nat) : List Cst := (List.range k).map fun (i : Nat) => (⟨2, .empty, (i : Int), 0, 0, 0⟩ : Cst)
theorem longG_next (k : Nat) : longG (k + 1) = longG k ++ [⟨2, .empty, (k : Int), 0, 0, 0⟩] := by simp [longG, List.range_succ]
theorem longG_len (k : Nat) : (longG k).length = k := by simp [longG]
/-- The first one is none. -/
def longL : List Cst := (longG 4096).set 0 c0
theorem longL_len : longL.length = 4096 := by simp [longL, longG_len]
theorem longL_zero : gc longL 0 = c0 := by simp [gc, longL, longG_len]
theorem longL_at {j : Nat} (h0 : 1 ≤ j) (h : j < 4096) : gc longL j = ⟨2, .empty, (j : Int), 0, 0, 0⟩ := by
  have h1 : ¬ 0 = j := by omega
  simp [gc, longL, h1, longG, h]
theorem longL_all : ∀ x ∈ longL, x.ok ∧ x.t = .empty := by
  intro x hx
  obtain ⟨j, hj, rfl⟩ := gc_of_mem hx
  rw [longL_len] at hj
  by_cases h0 : j = 0
  · rw [h0, longL_zero]
    exact ⟨c0_ok, rfl⟩
  · rw [longL_at (by omega) hj]
    exact ⟨⟨⟨by simp, by simp⟩, ⟨by simp only; omega, by simp only; omega⟩, i64_zero, i64_zero, i64_zero⟩, rfl⟩
theorem longL_check : checkC longL = 0 := by
  refine checkC_yes (by rw [longL_len]; omega) (by rw [longL_len]; omega) ⟨longL_zero, fun j h0 h => ?_⟩
  rw [longL_len] at h
  rw [longL_at h0 h]
  exact decide_eq_true (.inr (.inl ⟨rfl, toList_nil.2 rfl, rfl, rfl, rfl, by simp only; omega, by simp only; omega⟩))
theorem longL_texts : Texts longL := fun x hx => by
  rw [(longL_all x hx).2]
  exact Nat.zero_le _
theorem tot_plain : ∀ {l : List Cst}, (∀ x ∈ l, x.t = .empty) → tot l = l.length := by
  intro l
  induction l with
  | nil => exact fun _ => rfl
  | cons x l ih =>
    intro h
    have e : tot (x :: l) = x.t.size + 1 + tot l := by simp [tot]
    rw [e, ih (fun y hy => h y (List.mem_cons_of_mem _ hy)), h x (List.mem_cons_self ..), List.length_cons]
    show 0 + 1 + l.length = l.length + 1
    omega
theorem longL_tot : tot longL ≤ 1048576 := by
  rw [tot_plain (fun x hx => (longL_all x hx).2), longL_len]
  omega
theorem isK_long {j : Nat} {k : Int} (h0 : 1 ≤ j) (h : j < 4096) : isK longL j k = decide (2 = k) := by
  have e : gc longL (j : Int).toNat = gc longL j := rfl
  unfold isK
  rw [e, longL_at h0 h, longL_len]
  have h1 : decide ((1 : Int) ≤ (j : Int)) = true := by simp; omega
  have h2 : decide ((j : Int) < ((4096 : Nat) : Int)) = true := by simp; omega
  rw [h1, h2]
  rfl
theorem long_num (k : Int) (hk : ¬ k = 2) : tNum longL 5 k = (0, 40) := by
  unfold tNum
  rw [if_neg]
  rintro ⟨-, h⟩
  have := isK_long (j := 5) (k := k) (by omega) (by omega)
  rw [show ((5 : Nat) : Int) = 5 from rfl, h] at this
  exact hk (of_decide_eq_true this.symm).symm
theorem long_num2 : tNum longL 5 2 = (5, 0) := by
  unfold tNum
  have h := isK_long (j := 5) (k := 2) (by omega) (by omega)
  rw [show ((5 : Nat) : Int) = 5 from rfl] at h
  rw [if_pos ⟨.inl rfl, by rw [h]; rfl⟩, show (5 : Int).toNat = 5 from rfl, longL_at (by omega) (by omega)]
  rfl
theorem longL_zk : (gc longL 0).k = 0 := by rw [longL_zero]; rfl
theorem longL_more : Texts (longL ++ [⟨1, .empty, 0, 0, 0, 0⟩]) := fun x hx => by
  rcases List.mem_append.1 hx with hx | hx
  · exact longL_texts x hx
  · rw [List.mem_singleton.1 hx]
    exact Nat.zero_le _
theorem long_ref : tRef longL 5 2 = (.empty, .empty, .empty, 40) := by
  unfold tRef
  rw [if_neg]
  rintro ⟨h, -⟩
  omega
/-- The first constant of a list of the call's own is written. -/
theorem OwnC.put0 {B : Nat} {w : World} {T : TypeId} {g n c : Nat} {l : List Cst} (h : OwnC B w T (.slice (some ⟨g, 0, none⟩) n c) l) (hl : 0 < l.length) (x : Cst) (hx : x.ok) :
    OwnC B ((((((w.setCell ⟨g, 0, none⟩ (.int .i64 x.k)).setCell ⟨g, 1, none⟩ (.string x.t)).setCell ⟨g, 2, none⟩ (.int .i64 x.n)).setCell ⟨g, 3, none⟩ (.int .i64 x.a)).setCell ⟨g, 4, none⟩ (.int .i64 x.b)).setCell ⟨g, 5, none⟩ (.int .i64 x.c)) T (.slice (some ⟨g, 0, none⟩) n c) (l.set 0 x) := by
  obtain ⟨⟨h1, h2⟩, hf⟩ := h
  have hok : ∀ y ∈ l.set 0 x, y.ok := fun y hy => by
    rcases List.mem_or_eq_of_mem_set hy with hy | rfl
    · exact hf y hy
    · exact hx
  rcases h2 with ⟨h0, _⟩ | ⟨g', cap, cur, hv, hb, hg, hn, hm, hs, ht⟩
  · cases h0
  · injection hv with e1 e2 e3
    injection e1 with e1
    injection e1 with e1
    subst e1 e2 e3
    have hh : ∀ {W : World} {cu : Array Value}, W.heap[g]? = some (.cells cu T (0, 0)) → ∀ (j : Nat) (v : Value), (W.setCell ⟨g, j, none⟩ v).heap[g]? = some (.cells (cu.setIfInBounds j v) T (0, 0)) := fun h j v => heap_setCell_same _ g j _ T v h
    refine ⟨⟨by rw [cells_len, List.length_set], .inr ⟨g, c, _, by rw [List.length_set], hb, hh (hh (hh (hh (hh (hh hg _ _) _ _) _ _) _ _) _ _) _ _, by rw [List.length_set]; exact hn, hm, by simpa using hs, ?_⟩⟩, hok⟩
    simp only [Array.toList_setIfInBounds, List.take_set, List.length_set]
    rw [ht]
    have := flat_set l 0 x hl
    simp only [Nat.zero_mul, Nat.zero_add] at this
    exact this
/-- Lists that may not be. -/
def bads : List (List Cst) := [[], [⟨0, .empty, 1, 0, 0, 0⟩], [⟨0, .empty, 0, 0, 0, 0⟩, ⟨0, .empty, 0, 0, 0, 0⟩], [⟨0, .empty, 0, 0, 0, 0⟩, ⟨7, .empty, 0, 0, 0, 0⟩], [⟨0, .empty, 0, 0, 0, 0⟩, ⟨1, .empty, 1, 0, 0, 0⟩], [⟨0, .empty, 0, 0, 0, 0⟩, ⟨1, ⟨#[255]⟩, 0, 0, 0, 0⟩], [⟨0, .empty, 0, 0, 0, 0⟩, ⟨2, .empty, 2147483648, 0, 0, 0⟩], [⟨0, .empty, 0, 0, 0, 0⟩, ⟨2, .empty, -2147483649, 0, 0, 0⟩], [⟨0, .empty, 0, 0, 0, 0⟩, ⟨2, .empty, 0, 1, 0, 0⟩], [⟨0, .empty, 0, 0, 0, 0⟩, ⟨3, ⟨#[97]⟩, 0, 0, 0, 0⟩], [⟨0, .empty, 0, 0, 0, 0⟩, ⟨4, .empty, 0, 1, 0, 0⟩], [⟨0, .empty, 0, 0, 0, 0⟩, ⟨4, .empty, 0, 0, 0, 0⟩], [⟨0, .empty, 0, 0, 0, 0⟩, ⟨4, .empty, 0, 2, 0, 0⟩], [⟨0, .empty, 0, 0, 0, 0⟩, ⟨4, .empty, 0, -1, 0, 0⟩], [⟨0, .empty, 0, 0, 0, 0⟩, ⟨1, .empty, 0, 0, 0, 0⟩, ⟨5, .empty, 0, 1, 1, 1⟩], [⟨0, .empty, 0, 0, 0, 0⟩, ⟨1, .empty, 0, 0, 0, 0⟩, ⟨4, .empty, 0, 1, 0, 0⟩, ⟨5, .empty, 0, 2, 2, 1⟩], [⟨0, .empty, 0, 0, 0, 0⟩, ⟨1, .empty, 0, 0, 0, 0⟩, ⟨4, .empty, 0, 1, 0, 0⟩, ⟨6, .empty, 0, 2, 1, 2⟩], [⟨0, .empty, 0, 0, 0, 0⟩, ⟨1, .empty, 0, 0, 0, 0⟩, ⟨4, .empty, 0, 1, 1, 0⟩]]
def badG (i : Nat) : List Cst := bads.getD i []
theorem bad_all : ∀ i, i < 18 → checkC (badG i) = 40 ∧ Texts (badG i) := by
  have h : bads.all (fun l => decide (checkQ l = 40) && textsQ l) = true := by decide +kernel
  intro i hi
  have hm : badG i ∈ bads := by
    have hl : i < bads.length := by simpa [bads] using hi
    unfold badG
    rw [List.getD_eq_getElem?_getD, List.getElem?_eq_getElem hl]
    exact List.getElem_mem hl
  have := List.all_eq_true.1 h _ hm
  simp only [Bool.and_eq_true] at this
  exact ⟨by rw [checkC_eq]; exact of_decide_eq_true this.1, texts_of this.2⟩
/-- They lie in a block, one behind the other. -/
def BadAt (w : World) (g : Nat) : Prop := ∀ i, i < 18 → ∃ A n c, w.cell? ⟨g, i, none⟩ = some (.slice A n c) ∧ RowC w (.slice A n c) (badG i)
theorem BadAt.ext {w w' : World} {g : Nat} (h : BadAt w g) (he : Ext w w') (hg : g < w.heap.size) : BadAt w' g := fun i hi => by
  obtain ⟨A, n, c, h1, h2⟩ := h i hi
  exact ⟨A, n, c, (he.cell (p := ⟨g, i, none⟩) hg).trans h1, h2.ext he⟩
/-- Their cells. -/
def arrs : List (Array Value) := [#[.int .i64 0, .string ⟨#[]⟩, .int .i64 1, .int .i64 0, .int .i64 0, .int .i64 0], #[.int .i64 0, .string ⟨#[]⟩, .int .i64 0, .int .i64 0, .int .i64 0, .int .i64 0, .int .i64 0, .string ⟨#[]⟩, .int .i64 0, .int .i64 0, .int .i64 0, .int .i64 0], #[.int .i64 0, .string ⟨#[]⟩, .int .i64 0, .int .i64 0, .int .i64 0, .int .i64 0, .int .i64 7, .string ⟨#[]⟩, .int .i64 0, .int .i64 0, .int .i64 0, .int .i64 0], #[.int .i64 0, .string ⟨#[]⟩, .int .i64 0, .int .i64 0, .int .i64 0, .int .i64 0, .int .i64 1, .string ⟨#[]⟩, .int .i64 1, .int .i64 0, .int .i64 0, .int .i64 0], #[.int .i64 0, .string ⟨#[]⟩, .int .i64 0, .int .i64 0, .int .i64 0, .int .i64 0, .int .i64 1, .string ⟨#[255]⟩, .int .i64 0, .int .i64 0, .int .i64 0, .int .i64 0], #[.int .i64 0, .string ⟨#[]⟩, .int .i64 0, .int .i64 0, .int .i64 0, .int .i64 0, .int .i64 2, .string ⟨#[]⟩, .int .i64 2147483648, .int .i64 0, .int .i64 0, .int .i64 0], #[.int .i64 0, .string ⟨#[]⟩, .int .i64 0, .int .i64 0, .int .i64 0, .int .i64 0, .int .i64 2, .string ⟨#[]⟩, .int .i64 (-2147483649), .int .i64 0, .int .i64 0, .int .i64 0], #[.int .i64 0, .string ⟨#[]⟩, .int .i64 0, .int .i64 0, .int .i64 0, .int .i64 0, .int .i64 2, .string ⟨#[]⟩, .int .i64 0, .int .i64 1, .int .i64 0, .int .i64 0], #[.int .i64 0, .string ⟨#[]⟩, .int .i64 0, .int .i64 0, .int .i64 0, .int .i64 0, .int .i64 3, .string ⟨#[97]⟩, .int .i64 0, .int .i64 0, .int .i64 0, .int .i64 0], #[.int .i64 0, .string ⟨#[]⟩, .int .i64 0, .int .i64 0, .int .i64 0, .int .i64 0, .int .i64 4, .string ⟨#[]⟩, .int .i64 0, .int .i64 1, .int .i64 0, .int .i64 0], #[.int .i64 0, .string ⟨#[]⟩, .int .i64 0, .int .i64 0, .int .i64 0, .int .i64 0, .int .i64 4, .string ⟨#[]⟩, .int .i64 0, .int .i64 0, .int .i64 0, .int .i64 0], #[.int .i64 0, .string ⟨#[]⟩, .int .i64 0, .int .i64 0, .int .i64 0, .int .i64 0, .int .i64 4, .string ⟨#[]⟩, .int .i64 0, .int .i64 2, .int .i64 0, .int .i64 0], #[.int .i64 0, .string ⟨#[]⟩, .int .i64 0, .int .i64 0, .int .i64 0, .int .i64 0, .int .i64 4, .string ⟨#[]⟩, .int .i64 0, .int .i64 (-1), .int .i64 0, .int .i64 0], #[.int .i64 0, .string ⟨#[]⟩, .int .i64 0, .int .i64 0, .int .i64 0, .int .i64 0, .int .i64 1, .string ⟨#[]⟩, .int .i64 0, .int .i64 0, .int .i64 0, .int .i64 0, .int .i64 5, .string ⟨#[]⟩, .int .i64 0, .int .i64 1, .int .i64 1, .int .i64 1], #[.int .i64 0, .string ⟨#[]⟩, .int .i64 0, .int .i64 0, .int .i64 0, .int .i64 0, .int .i64 1, .string ⟨#[]⟩, .int .i64 0, .int .i64 0, .int .i64 0, .int .i64 0, .int .i64 4, .string ⟨#[]⟩, .int .i64 0, .int .i64 1, .int .i64 0, .int .i64 0, .int .i64 5, .string ⟨#[]⟩, .int .i64 0, .int .i64 2, .int .i64 2, .int .i64 1], #[.int .i64 0, .string ⟨#[]⟩, .int .i64 0, .int .i64 0, .int .i64 0, .int .i64 0, .int .i64 1, .string ⟨#[]⟩, .int .i64 0, .int .i64 0, .int .i64 0, .int .i64 0, .int .i64 4, .string ⟨#[]⟩, .int .i64 0, .int .i64 1, .int .i64 0, .int .i64 0, .int .i64 6, .string ⟨#[]⟩, .int .i64 0, .int .i64 2, .int .i64 1, .int .i64 2], #[.int .i64 0, .string ⟨#[]⟩, .int .i64 0, .int .i64 0, .int .i64 0, .int .i64 0, .int .i64 1, .string ⟨#[]⟩, .int .i64 0, .int .i64 0, .int .i64 0, .int .i64 0, .int .i64 4, .string ⟨#[]⟩, .int .i64 0, .int .i64 1, .int .i64 1, .int .i64 0]]
set_option maxRecDepth 100000 in
theorem arrs_eq : arrs = (bads.drop 1).map fun l => (l.flatMap fun x => x.vals.toList).toArray := by rfl
/-- Blocks, one behind the other. -/
def lays : World → List (Array Value) → World
  | w, [] => w
  | w, a :: r => lays (w.alloc (.cells a 44)) r
theorem lays_ext : ∀ (xs : List (Array Value)) (w : World), Ext w (lays w xs) := by
  intro xs
  induction xs with
  | nil => exact fun w => Ext.refl w
  | cons a r ih => exact fun w => ((Ext.refl w).alloc _).trans (ih _)
theorem lays_size : ∀ (xs : List (Array Value)) (w : World), (lays w xs).heap.size = w.heap.size + xs.length := by
  intro xs
  induction xs with
  | nil => exact fun w => rfl
  | cons a r ih =>
    intro w
    rw [lays, ih, List.length_cons]
    simp
    omega
theorem lays_at : ∀ (ls : List (List Cst)) (w : World) (i : Nat) (l : List Cst), (∀ l ∈ ls, (∀ x ∈ l, x.ok) ∧ l.length ≤ 65536) → ls[i]? = some l →
    RowC (lays w (ls.map fun l => (l.flatMap fun x => x.vals.toList).toArray)) (.slice (some ⟨w.heap.size + i, 0, none⟩) l.length l.length) l := by
  intro ls
  induction ls with
  | nil => intro w i l _ h; simp at h
  | cons m r ih =>
    intro w i l hall h
    obtain ⟨h1, h2⟩ := hall m (List.mem_cons_self ..)
    rw [List.map_cons, lays]
    match i with
    | 0 =>
      have e : m = l := by simpa using h
      subst e
      exact (RowC.litA (T := 44) w.heap.size m.length _ m rfl rfl h1 h2 rfl).ext (lays_ext _ _)
    | i + 1 =>
      have := ih (w.alloc (.cells ((m.flatMap fun x => x.vals.toList).toArray) 44)) i l (fun l hl => hall l (List.mem_cons_of_mem _ hl)) (by simpa using h)
      rw [show (w.alloc (.cells ((m.flatMap fun x => x.vals.toList).toArray) 44)).heap.size + i = w.heap.size + (i + 1) by simp; omega] at this
      exact this
def outs (w : World) : Array Value := #[.slice none 0 0, .slice (some ⟨w.heap.size, 0, none⟩) 1 1, .slice (some ⟨w.heap.size + 1, 0, none⟩) 2 2, .slice (some ⟨w.heap.size + 1 + 1, 0, none⟩) 2 2, .slice (some ⟨w.heap.size + 1 + 1 + 1, 0, none⟩) 2 2, .slice (some ⟨w.heap.size + 1 + 1 + 1 + 1, 0, none⟩) 2 2, .slice (some ⟨w.heap.size + 1 + 1 + 1 + 1 + 1, 0, none⟩) 2 2, .slice (some ⟨w.heap.size + 1 + 1 + 1 + 1 + 1 + 1, 0, none⟩) 2 2, .slice (some ⟨w.heap.size + 1 + 1 + 1 + 1 + 1 + 1 + 1, 0, none⟩) 2 2, .slice (some ⟨w.heap.size + 1 + 1 + 1 + 1 + 1 + 1 + 1 + 1, 0, none⟩) 2 2, .slice (some ⟨w.heap.size + 1 + 1 + 1 + 1 + 1 + 1 + 1 + 1 + 1, 0, none⟩) 2 2, .slice (some ⟨w.heap.size + 1 + 1 + 1 + 1 + 1 + 1 + 1 + 1 + 1 + 1, 0, none⟩) 2 2, .slice (some ⟨w.heap.size + 1 + 1 + 1 + 1 + 1 + 1 + 1 + 1 + 1 + 1 + 1, 0, none⟩) 2 2, .slice (some ⟨w.heap.size + 1 + 1 + 1 + 1 + 1 + 1 + 1 + 1 + 1 + 1 + 1 + 1, 0, none⟩) 2 2, .slice (some ⟨w.heap.size + 1 + 1 + 1 + 1 + 1 + 1 + 1 + 1 + 1 + 1 + 1 + 1 + 1, 0, none⟩) 3 3, .slice (some ⟨w.heap.size + 1 + 1 + 1 + 1 + 1 + 1 + 1 + 1 + 1 + 1 + 1 + 1 + 1 + 1, 0, none⟩) 4 4, .slice (some ⟨w.heap.size + 1 + 1 + 1 + 1 + 1 + 1 + 1 + 1 + 1 + 1 + 1 + 1 + 1 + 1 + 1, 0, none⟩) 4 4, .slice (some ⟨w.heap.size + 1 + 1 + 1 + 1 + 1 + 1 + 1 + 1 + 1 + 1 + 1 + 1 + 1 + 1 + 1 + 1, 0, none⟩) 3 3]
theorem bads_ok : ∀ l ∈ bads.drop 1, (∀ x ∈ l, x.ok) ∧ l.length ≤ 65536 := by
  have h : (bads.drop 1).all (fun l => okQ l && decide (l.length ≤ 65536)) = true := by decide +kernel
  intro l hl
  have := List.all_eq_true.1 h l hl
  simp only [Bool.and_eq_true] at this
  exact ⟨ok_of this.1, of_decide_eq_true this.2⟩
set_option maxRecDepth 100000 in
theorem badAt_of (w : World) : BadAt ((lays w arrs).alloc (.cells (outs w) 24)) (w.heap.size + 1 + 1 + 1 + 1 + 1 + 1 + 1 + 1 + 1 + 1 + 1 + 1 + 1 + 1 + 1 + 1 + 1) := by
  have hs : (lays w arrs).heap.size = w.heap.size + 1 + 1 + 1 + 1 + 1 + 1 + 1 + 1 + 1 + 1 + 1 + 1 + 1 + 1 + 1 + 1 + 1 := lays_size arrs w
  have hcell : ∀ j, ((lays w arrs).alloc (.cells (outs w) 24)).cell? ⟨w.heap.size + 1 + 1 + 1 + 1 + 1 + 1 + 1 + 1 + 1 + 1 + 1 + 1 + 1 + 1 + 1 + 1 + 1, j, none⟩ = (outs w)[j]? := fun j =>
    cell_of_row _ _ j _ 24 (0, 0) (by rw [← hs]; exact heap_alloc_new _ _)
  have hrow : ∀ i l, (bads.drop 1)[i]? = some l → RowC ((lays w arrs).alloc (.cells (outs w) 24)) (.slice (some ⟨w.heap.size + i, 0, none⟩) l.length l.length) l := fun i l h => by
    have := lays_at (bads.drop 1) w i l bads_ok h
    rw [← arrs_eq] at this
    exact this.ext ((Ext.refl _).alloc _)
  intro i hi
  match i, hi with
  | 0, _ => exact ⟨none, 0, 0, hcell 0, RowC.nil _⟩
  | 1, _ => exact ⟨_, _, _, hcell 1, hrow 0 _ rfl⟩
  | 2, _ => exact ⟨_, _, _, hcell 2, hrow 1 _ rfl⟩
  | 3, _ => exact ⟨_, _, _, hcell 3, hrow 2 _ rfl⟩
  | 4, _ => exact ⟨_, _, _, hcell 4, hrow 3 _ rfl⟩
  | 5, _ => exact ⟨_, _, _, hcell 5, hrow 4 _ rfl⟩
  | 6, _ => exact ⟨_, _, _, hcell 6, hrow 5 _ rfl⟩
  | 7, _ => exact ⟨_, _, _, hcell 7, hrow 6 _ rfl⟩
  | 8, _ => exact ⟨_, _, _, hcell 8, hrow 7 _ rfl⟩
  | 9, _ => exact ⟨_, _, _, hcell 9, hrow 8 _ rfl⟩
  | 10, _ => exact ⟨_, _, _, hcell 10, hrow 9 _ rfl⟩
  | 11, _ => exact ⟨_, _, _, hcell 11, hrow 10 _ rfl⟩
  | 12, _ => exact ⟨_, _, _, hcell 12, hrow 11 _ rfl⟩
  | 13, _ => exact ⟨_, _, _, hcell 13, hrow 12 _ rfl⟩
  | 14, _ => exact ⟨_, _, _, hcell 14, hrow 13 _ rfl⟩
  | 15, _ => exact ⟨_, _, _, hcell 15, hrow 14 _ rfl⟩
  | 16, _ => exact ⟨_, _, _, hcell 16, hrow 15 _ rfl⟩
  | 17, _ => exact ⟨_, _, _, hcell 17, hrow 16 _ rfl⟩
  | n + 18, h => exact absurd h (by omega)
end Go.Proofs.YtecgldkhjgcffaaDoor
