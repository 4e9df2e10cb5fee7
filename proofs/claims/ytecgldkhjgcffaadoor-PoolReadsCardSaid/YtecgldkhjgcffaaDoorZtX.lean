/- Several texts of this proof, one behind the other. -/
import Derived.Test.YtecgldkhjgcffaaDoorZtM
import Derived.Test.YtecgldkhjgcffaaDoorZtO
import Derived.Test.YtecgldkhjgcffaaDoorZtT
import Derived.Test.YtecgldkhjgcffaaDoorZtW
import Derived.Test.YtecgldkhjgcffaaDoorZtS
import Derived.Test.YtecgldkhjgcffaaDoorZtL
/- The program's own constants of a class, walked: all of it. -/
namespace Go.Proofs.YtecgldkhjgcffaaDoor
/-- All texts have room, however many constants there are. -/
theorem Texts.nil : Texts [] := fun _ h => by cases h
end Go.Proofs.YtecgldkhjgcffaaDoor
/- Answers of layer 4 that can be computed: for closed calls. -/
namespace Go.Proofs.YtecgldkhjgcffaaDoor
open Go.RowKit
set_option linter.unusedVariables false

/-- Is the first one none? -/
def headz : List Cst → Bool
  | [] => false
  | x :: _ => decide (x.k = 0 ∧ x.t.data.toList = [] ∧ x.n = 0 ∧ x.a = 0 ∧ x.b = 0 ∧ x.c = 0)
def checkQ (l : List Cst) : Int := if 4096 < l.length then 5 else if (headz l && (l.drop 1).all (mayC l)) = true then 0 else 40
theorem headz_eq (l : List Cst) : headz l = true ↔ 0 < l.length ∧ gc l 0 = c0 := by
  match l with
  | [] => simp [headz]
  | x :: m =>
    have e : gc (x :: m) 0 = x := rfl
    rw [e]
    constructor
    · intro h
      have h : x.k = 0 ∧ x.t.data.toList = [] ∧ x.n = 0 ∧ x.a = 0 ∧ x.b = 0 ∧ x.c = 0 := of_decide_eq_true h
      obtain ⟨h0, h1, h2, h3, h4, h5⟩ := h
      exact ⟨by simp, zero_of h0 (by rw [ByteArray.toList_eq]; exact h1) h2 h3 h4 h5⟩
    · rintro ⟨-, rfl⟩
      rfl
theorem all_may (l : List Cst) : (l.drop 1).all (mayC l) = true ↔ ∀ j, 1 ≤ j → j < l.length → mayC l (gc l j) = true := by
  rw [List.all_eq_true]
  constructor
  · intro h j h1 h2
    refine h _ ?_
    rw [List.mem_drop_iff_getElem]
    refine ⟨j - 1, by omega, ?_⟩
    have : 1 + (j - 1) = j := by omega
    simp [gc, h2, this]
  · intro h x hx
    rw [List.mem_drop_iff_getElem] at hx
    obtain ⟨j, hj, rfl⟩ := hx
    have := h (j + 1) (by omega) (by omega)
    simpa [gc, show j + 1 < l.length by omega, Nat.add_comm] using this
theorem checkC_eq (l : List Cst) : checkC l = checkQ l := by
  unfold checkQ
  by_cases h1 : 4096 < l.length
  · rw [if_pos h1, checkC_big h1]
  · rw [if_neg h1]
    by_cases h2 : (headz l && (l.drop 1).all (mayC l)) = true
    · rw [if_pos h2]
      rw [Bool.and_eq_true] at h2
      obtain ⟨h3, h4⟩ := h2
      obtain ⟨h5, h6⟩ := (headz_eq l).1 h3
      exact checkC_yes (by omega) h5 ⟨h6, (all_may l).1 h4⟩
    · rw [if_neg h2]
      by_cases he : l = []
      · rw [he, checkC_nil]
      refine checkC_no (by omega) fun ha => h2 ?_
      rw [Bool.and_eq_true]
      exact ⟨(headz_eq l).2 ⟨List.length_pos_iff.2 he, ha.1⟩, (all_may l).2 ha.2⟩
def errQ (b : List Int) : Int := if (manyZ b).2.2 = 0 then checkQ (manyZ b).1 else (manyZ b).2.2
theorem errZ_eq (b : List Int) : errZ b = errQ b := by
  unfold errZ errQ
  rw [checkC_eq]
/-- A literal list of constants in a block. -/
theorem RowC.lit {w : World} {g : Nat} {T : TypeId} {cur : Array Value} {l : List Cst} (h : w.heap[g]? = some (.cells cur T (0, 0))) (hc : cur.toList = l.flatMap fun x => x.vals.toList) (hok : ∀ x ∈ l, x.ok) (hl : l.length ≤ 65536) (n : Nat) (hn : n = l.length) :
    RowC w (.slice (some ⟨g, 0, none⟩) n n) l := by
  subst hn
  refine ⟨_, _, rfl, Nat.le_refl _, by simp only [maxLen]; omega, (fun h => by cases h), hok, fun _ => ⟨g, 0, rfl, lt_of_get h, fun j hj => ?_⟩⟩
  have hx : ∀ i, i < 6 → w.cell? ⟨g, j * 6 + i, none⟩ = (gc l j).vals[i]? := fun i hi => by
    rw [cell_of_row w g _ cur T (0, 0) h, ← cells_at l j i hj hi, ← hc]
    simp
  rw [Nat.zero_add]
  exact ⟨hx 0 (by omega), hx 1 (by omega), hx 2 (by omega), hx 3 (by omega), hx 4 (by omega), hx 5 (by omega)⟩
/-- Its numbers are ints, decided. -/
def okQ (l : List Cst) : Bool := l.all fun x => decide (-9223372036854775808 ≤ x.k) && decide (x.k ≤ 9223372036854775807) && decide (-9223372036854775808 ≤ x.n) && decide (x.n ≤ 9223372036854775807) && decide (-9223372036854775808 ≤ x.a) && decide (x.a ≤ 9223372036854775807) && decide (-9223372036854775808 ≤ x.b) && decide (x.b ≤ 9223372036854775807) && decide (-9223372036854775808 ≤ x.c) && decide (x.c ≤ 9223372036854775807)
theorem ok_of {l : List Cst} (h : okQ l = true) : ∀ x ∈ l, x.ok := fun x hx => by
  have := List.all_eq_true.1 h x hx
  simp only [Bool.and_eq_true, decide_eq_true_eq] at this
  obtain ⟨⟨⟨⟨⟨⟨⟨⟨⟨h0, h1⟩, h2⟩, h3⟩, h4⟩, h5⟩, h6⟩, h7⟩, h8⟩, h9⟩ := this
  exact ⟨⟨h0, h1⟩, ⟨h2, h3⟩, ⟨h4, h5⟩, ⟨h6, h7⟩, ⟨h8, h9⟩⟩
end Go.Proofs.YtecgldkhjgcffaaDoor
/- The statements' own examples of constants: is, fails. -/
namespace Go.Proofs.YtecgldkhjgcffaaDoor
open Go.RowKit
set_option linter.unusedVariables false

theorem Row.two {w : World} {T : TypeId} {g : Nat} (hg : g = w.heap.size) (x y : Int) (h : Fit .u8 [x, y]) : Row (w.alloc (.cells #[.int .u8 x, .int .u8 y] T)) .u8 (.slice (some ⟨g, 0, none⟩) 2 2) [x, y] := by
  subst hg
  exact Row.built w .u8 T [x, y] h (by simp)
theorem fit99 : Fit .u8 [9, 9] := fun x hx => by
  have : x = 9 := by simpa using hx
  subst this
  decide
theorem eqBytes_yes (v1 v2 : Value) (l : List Int) (w : World) (h1 : Row w .u8 v1 l) (h2 : Row w .u8 v2 l) :
    Calls Tryd.prog 15 #[v1, v2] w fun e w' => e = .returned (.bool true) ∧ Ext w w' :=
  (eqBytes_any v1 v2 l l w h1 h2).mono fun e w' ⟨h, m, hm⟩ => by
    subst hm
    rw [decide_eq_true rfl] at h
    exact ⟨h, (Ext.refl w).drewN m⟩
theorem refSame_yes (v1 v2 : Value) (l : List Cst) (w : World) (h1 : RowC w v1 l) (h2 : RowC w v2 l) :
    Calls Tryd.prog 14 #[v1, v2] w fun e w' => e = .returned (.bool true) ∧ Ext w w' :=
  (refSame_any v1 v2 l l w h1 h2).mono fun e w' ⟨h, m, hm⟩ => by
    subst hm
    rw [eqL_yes rfl] at h
    exact ⟨h, (Ext.refl w).drewN m⟩
set_option maxHeartbeats 2000000 in
theorem is_yes (lv bv : Value) (l : List Cst) (b : List Int) (w : World) (hT : Tabs w) (h : RowC w lv l) (hb : Row w .u8 bv b) (hX : Texts l) (hc : checkC l = 0) (ht : Told l) (hz : bytesZ l = b) (hs : b.length ≤ 1000000) :
    Calls Tryd.prog 27 #[lv, bv] w (RetB w true) := by
  obtain ⟨hm, he⟩ := parse_bytes hc ht [9, 9]
  rw [hz] at hm he
  have HM := Lib.hid hm
  have HE := Lib.hid he
  have HC := Lib.hid hc
  have HZ := Lib.hid hz
  clear hm he hz
  go_enter Tryd.func27, Tryd.ntmps27
  go_wp2_with fail
  refine (Bytes_any lv l _ (by exact h) hT hX (fun _ => by rw [HZ.out]; omega)).mono ?_
  rintro e w1 ⟨u1, rfl, ⟨-, x, rfl, ho1⟩ | ⟨hn, rfl⟩, x1⟩
  rotate_left
  · exact absurd HC.out hn
  rw [HZ.out] at ho1
  go_wp2_with fail
  refine (copyBytes_any bv b _ (by exact hb.ext x1) (by omega)).mono ?_
  rintro e w2 ⟨v2, rfl, ho2, x2⟩
  go_wp2_with (at_builtin; go_loud (refine wpList_app _ rfl _ _ w1.heap.size 22 5 _ 1 .u8 rfl Tryd.underlying22 info8 rfl (by omega) v2 b rfl (ho2.ext ((Ext.refl _).alloc _)) _ [9, 9] rfl (Row.two rfl 9 9 fit99) (by simp; omega) (by have := x2.size; simp; omega) ?_); intro v3 w3 ho3 hg3 hb3)
  have x3 : Ext w1 w3 := (x2.alloc _).grown hg3 ho2.low
  clear hg3 hb3
  have xx3 := x1.trans x3
  go_wp2_with fail
  refine (Parse_any v3 (b ++ [9, 9]) _ (by exact ho3.row) (hT.ext xx3) (by simp; omega)).mono ?_
  rintro e w4 ⟨u4, rfl, ⟨-, m, y, rfl, hm4, hy4⟩ | ⟨hn, rfl⟩, x4⟩
  rotate_left
  · exact absurd HE.out hn
  rw [HM.out] at hm4 hy4
  simp only at hm4 hy4
  have xx4 := xx3.trans x4
  go_wp2_with fail
  refine (eqBytes_yes x bv b _ (by exact ho1.row.ext (x3.trans x4)) (by exact hb.ext xx4)).mono ?_
  rintro e w5 ⟨rfl, q5⟩
  have xx5 := xx4.trans q5
  have y5 := q5
  go_wp2_with fail
  refine (refSame_yes lv m l _ (by exact h.ext xx5) (by exact hm4.row.ext y5)).mono ?_
  rintro e w6 ⟨rfl, q6⟩
  have xx6 := xx5.trans q6
  have y6 := y5.trans q6
  go_wp2_with fail
  refine (eqBytes_yes y _ [9, 9] _ (by exact hy4.row.ext (y6.alloc _)) (by exact Row.two (by simp) 9 9 fit99)).mono ?_
  rintro e w7 ⟨rfl, q7⟩
  have xx7 := (xx6.alloc (.cells #[.int .u8 9, .int .u8 9] 5)).trans q7
  go_wp2
  go_ret
  exact ⟨rfl, xx7⟩

theorem fails_yes (k : Int) (v : Value) (b : List Int) (w : World) (hT : Tabs w) (h : Row w .u8 v b) (hb : b.length ≤ 1000000) (hk : errZ b = k) (h0 : ¬ k = 0) :
    Calls Tryd.prog 28 #[.int .i64 k, v] w (RetB w true) := by
  have HK := Lib.hid hk
  clear hk
  go_enter Tryd.func28, Tryd.ntmps28
  go_wp2_with fail
  refine (Parse_any v b _ (by exact h) hT (by omega)).mono ?_
  rintro e w2 ⟨u2, rfl, ⟨heq, _⟩ | ⟨-, rfl⟩, x2⟩
  · rw [HK.out] at heq; exact absurd heq h0
  rw [HK.out]
  go_wp2
  go_ret
  exact ⟨rfl, x2⟩
end Go.Proofs.YtecgldkhjgcffaaDoor
/- What the laws on constants need of sizes, and of constants that may be: plain mathematics. -/
namespace Go.Proofs.YtecgldkhjgcffaaDoor
open Go.RowKit
set_option linter.unusedVariables false

theorem Texts.told {l : List Cst} (h : Texts l) (hok : ∀ x ∈ l, x.ok) : Told l := fun x hx => ⟨hok x hx, by
  have h1 := enc_len x.t.data.toList
  have h2 := h x hx
  rw [Lib.size_eq] at h2
  omega⟩
theorem tot_texts {l : List Cst} (h : tot l ≤ 1048576) : Texts l := fun y hy => by
  have := tot_mem hy
  omega
theorem tot_room {l : List Cst} (h : tot l ≤ 1048576) : Room l := fun y hy => by
  have h1 := tot_mem hy
  have h2 := enc_len y.t.data.toList
  have h3 : y.t.size = y.t.data.toList.length := Lib.size_eq _
  omega
theorem encC_len (x : Cst) : (encC x).length ≤ 41 * (x.t.size + 1) := by
  have h2 := enc_len x.t.data.toList
  have h3 : x.t.size = x.t.data.toList.length := Lib.size_eq _
  have d := dg_len 1 10
  have d2 := dg_len 2 10
  unfold encC
  rw [List.length_cons]
  split
  · rw [List.length_append]
    have := d (encZ x.t.data.toList).length
    omega
  · split
    · have := d2 x.n
      omega
    · split
      · have := d x.a
        omega
      · rw [List.length_append, List.length_append]
        have := d x.a
        have := d x.b
        have := d x.c
        omega
theorem encs_len (l : List Cst) : (encs l).length ≤ 41 * tot l := by
  induction l with
  | nil => simp [encs]
  | cons x l ih =>
    have e : tot (x :: l) = x.t.size + 1 + tot l := by simp [tot]
    have := encC_len x
    unfold encs at ih ⊢
    rw [List.flatMap_cons, List.length_append, e]
    omega
theorem tot_drop (l : List Cst) : tot (l.drop 1) ≤ tot l := by
  match l with
  | [] => exact Nat.le_refl _
  | x :: l => simp [tot]
theorem bytesZ_len (l : List Cst) : (bytesZ l).length ≤ 10 + 41 * tot l := by
  rw [bytesZ_eq, List.length_append]
  have h1 := dg_len 1 10 (l.length : Int)
  have h2 := encs_len (l.drop 1)
  have h3 := tot_drop l
  omega
theorem bytesZ_pos (l : List Cst) : 0 < (bytesZ l).length := by
  rw [bytesZ_eq, List.length_append]
  have : 0 < (dg 1 10 (l.length : Int)).length := dg_pos 1 9 (l.length : Int)
  omega
theorem many_texts {b : List Int} (hf : Fit .u8 b) (hl : b.length ≤ 140737488351232) : Texts (manyZ b).1 := fun y hy => by
  have := ((many_all hf).1 y hy).2.1
  omega
/-- What each kind tells of itself. -/
theorem tText_no {l : List Cst} {j : Nat} (h : ¬ (gc l j).k = 1 ∨ j = 0) : tText l j = (.empty, 40) := by
  unfold tText
  rw [if_neg]
  intro h1
  obtain ⟨i, hi, h2, h3, h4⟩ := isK_at h1
  have : i = j := by omega
  subst this
  rcases h with h | h
  · exact h h4
  · omega
theorem tText_yesN {l : List Cst} {j : Nat} (h1 : 1 ≤ j) (h2 : j < l.length) (h : (gc l j).k = 1) : tText l j = ((gc l j).t, 0) := by
  unfold tText
  rw [if_pos (isK_of h1 h2 h)]
  rfl
theorem tNum_no {l : List Cst} {j : Nat} {k : Int} (h : ¬ (k = 2 ∨ k = 3) ∨ j = 0) : tNum l j k = (0, 40) := by
  unfold tNum
  rw [if_neg]
  rintro ⟨h0, h1⟩
  obtain ⟨i, hi, h2, h3, h4⟩ := isK_at h1
  rcases h with h | h
  · exact h h0
  · omega
theorem tNum_yes {l : List Cst} {j : Nat} {k : Int} (hk : k = 2 ∨ k = 3) (h1 : 1 ≤ j) (h2 : j < l.length) (h : (gc l j).k = k) : tNum l j k = ((gc l j).n, 0) := by
  unfold tNum
  rw [if_pos ⟨hk, isK_of h1 h2 h⟩]
  rfl
theorem tClass_no {l : List Cst} {j : Nat} (h : ¬ (gc l j).k = 4 ∨ j = 0) : tClass l j = (.empty, 40) := by
  unfold tClass
  rw [if_neg]
  intro h1
  obtain ⟨i, hi, h2, h3, h4⟩ := isK_at h1
  have : i = j := by omega
  subst this
  rcases h with h | h
  · exact h h4
  · omega
theorem tText_at {l : List Cst} {i : Int} (h : isK l i 1 = true) : (tText l i).2 = 0 := by
  unfold tText
  rw [if_pos h]
theorem tClass_at {l : List Cst} {i : Int} (ha : AllMay l) (hl : l.length ≤ 4096) (h : isK l i 4 = true) : (tClass l i).2 = 0 := by
  have hm := ha.2
  obtain ⟨j, rfl, h1, h2, h3⟩ := isK_at h
  have h4 : MayC l (gc l j) := of_decide_eq_true (hm j h1 h2)
  have h5 : isK l (gc l j).a 1 = true := by
    rcases h4 with h | h | h | h | h
    · omega
    · omega
    · omega
    · exact h.2.2.2.2.2
    · omega
  unfold tClass
  rw [if_pos h]
  exact tText_at h5
theorem tRef_no {l : List Cst} {j : Nat} {k : Int} (h : ¬ (k = 5 ∨ k = 6) ∨ j = 0) : tRef l j k = (.empty, .empty, .empty, 40) := by
  unfold tRef
  rw [if_neg]
  rintro ⟨h0, h1, -⟩
  obtain ⟨i, hi, h2, h3, h4⟩ := isK_at h1
  rcases h with h | h
  · exact h h0
  · omega
theorem tRef_yes {l : List Cst} {j : Nat} {k : Int} (ha : AllMay l) (hl : l.length ≤ 4096) (hk : k = 5 ∨ k = 6) (h1 : 1 ≤ j) (h2 : j < l.length) (h : (gc l j).k = k) :
    tRef l j k = ((tClass l (gc l j).a).1, (tText l (gc l j).b).1, (tText l (gc l j).c).1, 0) ∧ (gc l j).t = .empty ∧ (gc l j).n = 0 := by
  have h4 : MayC l (gc l j) := of_decide_eq_true (ha.2 j h1 h2)
  have h5 : (gc l j).t.toList = [] ∧ (gc l j).n = 0 ∧ isK l (gc l j).a 4 = true ∧ isK l (gc l j).b 1 = true ∧ isK l (gc l j).c 1 = true := by
    rcases h4 with h | h | h | h | h
    · omega
    · omega
    · omega
    · omega
    · exact h.2
  refine ⟨?_, t_empty h5.1, h5.2.1⟩
  unfold tRef
  rw [if_pos]
  · rfl
  · exact ⟨hk, isK_of h1 h2 h, tClass_at ha hl h5.2.2.1, tText_at h5.2.2.2.1, tText_at h5.2.2.2.2⟩
end Go.Proofs.YtecgldkhjgcffaaDoor
/- The statements' own examples of constants: works. -/
namespace Go.Proofs.YtecgldkhjgcffaaDoor
open Go.RowKit
set_option linter.unusedVariables false

instance : DecidableEq Cst := fun x y =>
  if h : x.k = y.k ∧ x.t = y.t ∧ x.n = y.n ∧ x.a = y.a ∧ x.b = y.b ∧ x.c = y.c then .isTrue (Cst.ext_ h.1 h.2.1 h.2.2.1 h.2.2.2.1 h.2.2.2.2.1 h.2.2.2.2.2)
  else .isFalse fun e => h (by subst e; exact ⟨rfl, rfl, rfl, rfl, rfl, rfl⟩)
def textsQ (l : List Cst) : Bool := l.all fun y => decide (y.t.size ≤ 140737488351232)
theorem texts_of {l : List Cst} (h : textsQ l = true) : Texts l := fun y hy => of_decide_eq_true (List.all_eq_true.1 h y hy)
theorem is_lit (lv bv : Value) (l : List Cst) (b : List Int) (w : World) (hT : Tabs w) (h : RowC w lv l) (hb : Row w .u8 bv b) (ho : okQ l = true) (ht : textsQ l = true) (hc : checkQ l = 0) (hz : bytesZ l = b) (hs : b.length ≤ 1000000) :
    Calls Tryd.prog 27 #[lv, bv] w (RetB w true) := is_yes lv bv l b w hT h hb (texts_of ht) (by rw [checkC_eq]; exact hc) ((texts_of ht).told (ok_of ho)) hz hs
theorem fails_lit (k : Int) (v : Value) (b : List Int) (w : World) (hT : Tabs w) (h : Row w .u8 v b) (hb : b.length ≤ 1000000) (hk : errQ b = k) (h0 : ¬ k = 0) :
    Calls Tryd.prog 28 #[.int .i64 k, v] w (RetB w true) := fails_yes k v b w hT h hb (by rw [errZ_eq]; exact hk) h0
theorem Row.litZ {w : World} (g : Nat) (l : List Int) (hg : g = w.heap.size) (hf : Fit .u8 l) (hl : l.length ≤ 65536) :
    Row (w.alloc (.cells (l.map (Value.int .u8)).toArray 5)) .u8 (.slice (some ⟨g, 0, none⟩) l.length l.length) l := by
  subst hg
  exact Row.built w .u8 5 l hf hl
/-- A literal list just made. -/
theorem RowC.litA {w : World} {T : TypeId} (g n : Nat) (cur : Array Value) (l : List Cst) (hc : cur = (l.flatMap fun x => x.vals.toList).toArray) (hg : g = w.heap.size) (hok : ∀ x ∈ l, x.ok) (hl : l.length ≤ 65536) (hn : n = l.length) :
    RowC (w.alloc (.cells cur T)) (.slice (some ⟨g, 0, none⟩) n n) l := by
  subst hg hc
  exact RowC.lit (T := T) (heap_alloc_new w _) (by simp) hok hl n hn
theorem RowC.litA2 {w : World} {T : TypeId} {o : Obj} (g n : Nat) (cur : Array Value) {l : List Cst} (hc : cur = (l.flatMap fun x => x.vals.toList).toArray) (hg : g = w.heap.size) (hok : ∀ x ∈ l, x.ok) (hl : l.length ≤ 65536) (hn : n = l.length) :
    RowC ((w.alloc (.cells cur T)).alloc o) (.slice (some ⟨g, 0, none⟩) n n) l := (RowC.litA g n cur l hc hg hok hl hn).ext ((Ext.refl _).alloc _)

/-- The chapter's first list. -/
def L1 : List Cst := [⟨0, .empty, 0, 0, 0, 0⟩, ⟨1, ⟨#[97]⟩, 0, 0, 0, 0⟩, ⟨4, .empty, 0, 1, 0, 0⟩]
theorem L1_ok : ∀ x ∈ L1, x.ok := ok_of (by decide +kernel)
theorem chapter_any (w : World) : Calls Tryd.prog 35 #[] w (Ret w (fun v w' => RowC w' v L1)) := by
  go_enter Tryd.func35, Tryd.ntmps35
  go_wp2
  go_ret
  exact Ret.mk (RowC.litA _ _ _ L1 rfl rfl L1_ok (by decide) (by decide)) ((Ext.refl w).alloc _)

set_option maxRecDepth 100000 in
set_option maxHeartbeats 8000000 in
theorem works_any (w : World) (hT : Tabs w) : Calls Tryd.prog 16 #[] w (RetB w true) := by
  go_enter Tryd.func16, Tryd.ntmps16
  go_wp2_with fail
  refine (chapter_any _).mono ?_
  rintro e w1 ⟨v1, rfl, hrow, x1⟩
  have y1 := Ext.refl w1
  go_wp2_with fail
  refine (ClassName_any _ _ 2 _ (by exact hrow.ext y1) ⟨by decide, by decide⟩ rfl (texts_of (by decide +kernel))).mono ?_
  rw [show tClass L1 2 = (⟨#[97]⟩, 0) from by decide +kernel]
  rintro e w2 ⟨rfl, e2⟩
  have x2 := x1.trans e2
  have y2 := y1.trans e2
  go_wp2_with fail
  refine (ClassName_any _ _ 1 _ (by exact hrow.ext y2) ⟨by decide, by decide⟩ rfl (texts_of (by decide +kernel))).mono ?_
  rw [show tClass L1 1 = (.empty, 40) from by decide +kernel]
  rintro e w3 ⟨rfl, e3⟩
  have x3 := x2.trans e3
  have y3 := y2.trans e3
  go_wp2_with fail
  refine (Text_any _ _ 1 _ (by exact hrow.ext y3) ⟨by decide, by decide⟩ rfl (texts_of (by decide +kernel))).mono ?_
  rw [show tText L1 1 = (⟨#[97]⟩, 0) from by decide +kernel]
  rintro e w4 ⟨rfl, e4⟩
  have x4 := x3.trans e4
  have y4 := y3.trans e4
  go_wp2_with fail
  refine (Text_any _ _ 0 _ (by exact hrow.ext y4) ⟨by decide, by decide⟩ rfl (texts_of (by decide +kernel))).mono ?_
  rw [show tText L1 0 = (.empty, 40) from by decide +kernel]
  rintro e w5 ⟨rfl, e5⟩
  have x5 := x4.trans e5
  have y5 := y4.trans e5
  go_wp2_with fail
  refine (Text_any _ _ 3 _ (by exact hrow.ext y5) ⟨by decide, by decide⟩ rfl (texts_of (by decide +kernel))).mono ?_
  rw [show tText L1 3 = (.empty, 40) from by decide +kernel]
  rintro e w6 ⟨rfl, e6⟩
  have x6 := x5.trans e6
  have y6 := y5.trans e6
  go_wp2_with fail
  refine (Parse_any _ [1, 9] _ (by exact Row.litZ _ [1, 9] (by simp) (fit_dec (by decide)) (by decide)) (by exact hT.ext (x6.alloc _)) (by decide)).mono ?_
  rintro e w7 ⟨u7, rfl, ⟨-, m, z, rfl, hm, hz⟩ | ⟨hn, _⟩, e7⟩
  rotate_left
  · exact absurd (show errZ [1, 9] = 0 by rw [errZ_eq]; decide +kernel) hn
  rw [show manyZ [1, 9] = ([c0], [9], 0) from by decide +kernel] at hm hz
  simp only at hm hz
  have x7 := (x6.alloc (.cells #[.int .u8 1, .int .u8 9] 5)).trans e7
  have y7 := (y6.alloc (.cells #[.int .u8 1, .int .u8 9] 5)).trans e7
  obtain ⟨A1, k1, hb1, _⟩ := hm.row
  subst hb1
  clear hm
  go_wp2_with fail
  refine (eqBytes_yes z _ [9] _ (by exact hz.row.ext ((Ext.refl _).alloc _)) (by exact Row.litZ _ [9] (by simp) (fit_dec (by decide)) (by decide))).mono ?_
  rintro e w8 ⟨rfl, q8⟩
  have x9 := (x7.alloc (.cells #[.int .u8 9] 5)).trans q8
  have y9 := (y7.alloc (.cells #[.int .u8 9] 5)).trans q8
  clear hz
  go_wp2_with fail
  refine (is_lit v1 _ _ [3, 1, 1, 97, 4, 1] _ (by exact hT.ext (x9.alloc _)) (by exact hrow.ext ((y9.alloc _))) (by exact Row.litZ _ [3, 1, 1, 97, 4, 1] (by simp) (fit_dec (by decide)) (by decide)) (by decide +kernel) (by decide +kernel) (by decide +kernel) (by decide +kernel) (by decide)).mono ?_
  rintro e w10 ⟨rfl, e10⟩
  have x10 := (x9.alloc (.cells (([3, 1, 1, 97, 4, 1] : List Int).map (Value.int .u8)).toArray 5)).trans e10
  go_wp2_with fail
  refine (is_lit _ _ ([⟨0, .empty, 0, 0, 0, 0⟩, ⟨2, .empty, -1, 0, 0, 0⟩, ⟨3, .empty, 64, 0, 0, 0⟩] : List Cst) [3, 2, 127, 3, 192, 0] _ (by exact hT.ext ((x10.alloc _).alloc _)) (by exact RowC.litA2 _ _ _ rfl (by simp) (ok_of (by decide +kernel)) (by decide) (by decide)) (by exact Row.litZ _ [3, 2, 127, 3, 192, 0] (by simp) (fit_dec (by decide)) (by decide)) (by decide +kernel) (by decide +kernel) (by decide +kernel) (by decide +kernel) (by decide)).mono ?_
  rintro e w11 ⟨rfl, e11⟩
  have x11 := ((x10.alloc (.cells _ 44)).alloc (.cells (([3, 2, 127, 3, 192, 0] : List Int).map (Value.int .u8)).toArray 5)).trans e11
  go_wp2_with fail
  refine (fails_lit 4 _ [2, 7, 0] _ (by exact hT.ext (x11.alloc _)) (by exact Row.litZ _ [2, 7, 0] (by simp) (fit_dec (by decide)) (by decide)) (by decide) (by decide +kernel) (by decide)).mono ?_
  rintro e w12 ⟨rfl, e12⟩
  have x12 := (x11.alloc (.cells (([2, 7, 0] : List Int).map (Value.int .u8)).toArray 5)).trans e12
  go_wp2_with fail
  refine (fails_lit 40 _ [2, 4, 1] _ (by exact hT.ext (x12.alloc _)) (by exact Row.litZ _ [2, 4, 1] (by simp) (fit_dec (by decide)) (by decide)) (by decide) (by decide +kernel) (by decide)).mono ?_
  rintro e w13 ⟨rfl, e13⟩
  have x13 := (x12.alloc (.cells (([2, 4, 1] : List Int).map (Value.int .u8)).toArray 5)).trans e13
  go_wp2_with fail
  refine (fails_lit 40 _ [0] _ (by exact hT.ext (x13.alloc _)) (by exact Row.litZ _ [0] (by simp) (fit_dec (by decide)) (by decide)) (by decide) (by decide +kernel) (by decide)).mono ?_
  rintro e w14 ⟨rfl, e14⟩
  have x14 := (x13.alloc (.cells (([0] : List Int).map (Value.int .u8)).toArray 5)).trans e14
  go_wp2_with fail
  refine (fails_lit 20 _ [2, 1, 1, 128] _ (by exact hT.ext (x14.alloc _)) (by exact Row.litZ _ [2, 1, 1, 128] (by simp) (fit_dec (by decide)) (by decide)) (by decide) (by decide +kernel) (by decide)).mono ?_
  rintro e w15 ⟨rfl, e15⟩
  have x15 := (x14.alloc (.cells (([2, 1, 1, 128] : List Int).map (Value.int .u8)).toArray 5)).trans e15
  go_wp2
  go_ret
  exact ⟨rfl, x15⟩
end Go.Proofs.YtecgldkhjgcffaaDoor
