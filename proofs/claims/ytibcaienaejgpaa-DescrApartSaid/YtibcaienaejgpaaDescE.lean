/- The document's own answers of protos, walked: how many words, are two the same. -/
import Derived.Test.YtibcaienaejgpaaDescD
namespace Go.Proofs.Ytibcaienaejgpaa
open Go.RowKit
set_option linter.unusedVariables false

/-- A proto's cells: what is answered, and the slice that reads as what is taken. -/
def Pr.vals (p : Pr) (v : Value) : Array Value := #[.int .i64 p.ret.k, .string (bs p.ret.s), v]
def wordsP (p : Pr) : Int := (p.args.map wordsT).foldl (· + ·) 0
def eqP (p q : Pr) : Bool := decide (p = q)
theorem takeT_one {l : List Ty} {k : Nat} (h : k < l.length) : l.take (k + 1) = l.take k ++ [gt l k] := by
  rw [List.take_succ_eq_append_getElem h]
  simp [gt, h]
theorem eqP_args {p q : Pr} (h : ¬ p.args = q.args) : eqP p q = false := by
  simp only [eqP, decide_eq_false_iff_not]
  exact fun e => h (by rw [e])
theorem eqP_ret {p q : Pr} (h : ¬ p.ret = q.ret) : eqP p q = false := by
  simp only [eqP, decide_eq_false_iff_not]
  exact fun e => h (by rw [e])
theorem eqP_yes {p q : Pr} (h : p.ret = q.ret) (h2 : p.args = q.args) : eqP p q = true := by
  cases p; cases q
  simp only at h h2
  subst h h2
  simp [eqP]
theorem ret_b {b c : Bool} (h : b = c) : Ending.returned (.bool b) = .returned (.bool c) := by rw [h]
theorem ext_two (w : World) (o p : Obj) : Ext w ((w.alloc o).alloc p) := ((Ext.refl w).alloc o).alloc p
set_option maxHeartbeats 8000000 in
theorem refSameProto_any (v1 v2 : Value) (p q : Pr) (w : World) (h1 : RowT w v1 p.args) (h2 : RowT w v2 q.args) :
    Calls Try.prog 16 #[.agg (p.vals v1), .agg (q.vals v2)] w fun e w' => e = .returned (.bool (eqP p q)) ∧ Ext w w' := by
  have hne := fun W => run_neqT p.ret q.ret W
  unfold Pr.vals
  unfold Ty.vals at hne
  obtain ⟨A1, c1, rfl, hc1, hm1, ha1, hf1, hg1⟩ := h1
  obtain ⟨A2, c2, rfl, hc2, hm2, ha2, hf2, hg2⟩ := h2
  unfold maxLen at hm1 hm2
  by_cases hr : p.ret = q.ret
  · rw [show eqT p.ret q.ret = true by simp [eqT, hr]] at hne
    by_cases hl : p.args.length = q.args.length
    · obtain ⟨n, hn⟩ : ∃ n, n = p.args.length := ⟨_, rfl⟩
      rw [← hn] at hc1 hg1 ⊢
      rw [← hl, ← hn] at hc2 hg2 ⊢
      have Hn := Lib.hid hn
      have Hl := Lib.hid hl
      have Hr := Lib.hid hr
      clear hn hl ha1 ha2 hr
      go_enter Try.func16, Try.ntmps16
      go_wp2
      obtain ⟨w2, hw2⟩ : ∃ w2, w2 = (w.alloc (.cells #[.int .i64 p.ret.k, .string (bs p.ret.s), .slice A1 n c1] 29)).alloc (.cells #[.int .i64 q.ret.k, .string (bs q.ret.s), .slice A2 n c2] 29) := ⟨_, rfl⟩
      have z1 : w2.heap[w.heap.size]? = some (.cells #[.int .i64 p.ret.k, .string (bs p.ret.s), .slice A1 n c1] 29 (0, 0)) := by
        rw [hw2, heap_alloc_old _ _ (by simp), heap_alloc_new]
      have z2 : w2.heap[w.heap.size + 1]? = some (.cells #[.int .i64 q.ret.k, .string (bs q.ret.s), .slice A2 n c2] 29 (0, 0)) := by
        have := heap_alloc_new (w.alloc (.cells #[.int .i64 p.ret.k, .string (bs p.ret.s), .slice A1 n c1] 29)) (.cells #[.int .i64 q.ret.k, .string (bs q.ret.s), .slice A2 n c2] 29)
        rw [hw2]
        simpa using this
      have z3 : w2.cell? ⟨w.heap.size, 2, none⟩ = some (.slice A1 n c1) := by rw [cell_of_row w2 _ _ _ _ _ z1]; rfl
      have z4 : w2.cell? ⟨w.heap.size + 1, 2, none⟩ = some (.slice A2 n c2) := by rw [cell_of_row w2 _ _ _ _ _ z2]; rfl
      rw [← hw2]
      have X2 : Ext w w2 := by rw [hw2]; exact ext_two _ _ _
      have X2 := Lib.hid X2
      clear z1 z2 hne hw2
      go_loopw [5] (fun i wr => ∃ k m : Nat, k ≤ n ∧ i = .int .i64 k ∧ wr = w2.drewN m ∧ p.args.take k = q.args.take k) (fun i _ => n - (intOf i).toNat)
      case atStart => exact ⟨0, 0, by omega, rfl, rfl, rfl⟩
      case round =>
        obtain ⟨k, m, hk, rfl, rfl, ht⟩ := hrel
        have Ht := Lib.hid ht
        clear ht
        by_cases hlt : k < n
        · obtain ⟨b1, o1, rfl, hb1, hx1⟩ := hg1 (by omega)
          obtain ⟨b2, o2, rfl, hb2, hx2⟩ := hg2 (by omega)
          obtain ⟨y0, y1⟩ := (hx1 k hlt).ext X2.out hb1
          obtain ⟨u0, u1⟩ := (hx2 k hlt).ext X2.out hb2
          have hne := fun W => run_neqT (gt p.args k) (gt q.args k) W
          unfold Ty.vals at hne
          clear hx1 hx2
          by_cases he : gt p.args k = gt q.args k
          · rw [show eqT (gt p.args k) (gt q.args k) = true by simp [eqT, he]] at hne
            have HE := Lib.hid he
            clear he
            go_wp2
            go_quiet (fail)
            go_wp2
            refine ⟨⟨k + 1, m + nq, by omega, by go_num, rfl, ?_⟩, by simp [intOf]; omega⟩
            rw [takeT_one (by have := Hn.out; omega), takeT_one (by have := Hn.out; have := Hl.out; omega), Ht.out, HE.out]
          · rw [show eqT (gt p.args k) (gt q.args k) = false by simp [eqT, he]] at hne
            have HE := Lib.hid (eqP_args (p := p) (q := q) (fun e => he (by rw [e])))
            clear he
            go_wp2
            go_quiet (fail)
            go_wp2
            go_ret
            exact ⟨ret_b HE.out.symm, by rw [World.drewN_drewN]; exact X2.out.drewN _⟩
        · obtain rfl : k = n := by omega
          go_wp2
          go_ret
          refine ⟨ret_b ?_, X2.out.drewN _⟩
          have e : p.args = q.args := by
            have := Ht.out
            rw [Hn.out] at this
            rwa [List.take_length, Hl.out, List.take_length] at this
          rw [eqP_yes Hr.out e]
    · have hb : ((p.args.length : Int) != (q.args.length : Int)) = true := by simp; omega
      have HE := Lib.hid (eqP_args (p := p) (q := q) (fun e => hl (by rw [e])))
      clear hg1 hg2 hl
      go_enter Try.func16, Try.ntmps16
      go_wp2
      go_ret
      exact ⟨ret_b HE.out.symm, by first | exact ext_two _ _ _ | exact (ext_two _ _ _).drewN _⟩
  · rw [show eqT p.ret q.ret = false by simp [eqT, hr]] at hne
    have HE := Lib.hid (eqP_ret (p := p) (q := q) hr)
    clear hg1 hg2 hr
    go_enter Try.func16, Try.ntmps16
    go_wp2
    go_ret
    exact ⟨ret_b HE.out.symm, by first | exact ext_two _ _ _ | exact (ext_two _ _ _).drewN _⟩
/-- The words of the first so many. -/
def wsum : List Ty → Int
  | [] => 0
  | t :: r => wordsT t + wsum r
theorem wsum_app (l m : List Ty) : wsum (l ++ m) = wsum l + wsum m := by
  induction l with
  | nil => simp [wsum]
  | cons t r ih => rw [List.cons_append, wsum, wsum, ih]; omega
theorem wordsT_le (t : Ty) : 0 ≤ wordsT t ∧ wordsT t ≤ 2 := by
  unfold wordsT
  split
  · omega
  · split <;> omega
theorem wsum_le (l : List Ty) : 0 ≤ wsum l ∧ wsum l ≤ 2 * l.length := by
  induction l with
  | nil => simp [wsum]
  | cons t r ih =>
    have := wordsT_le t
    simp only [wsum, List.length_cons]
    omega
set_option maxHeartbeats 8000000 in
theorem refArgWords_any (v : Value) (p : Pr) (w : World) (h : RowT w v p.args) (hlen : p.args.length ≤ 4611686018427387903) :
    Calls Try.prog 37 #[.agg (p.vals v)] w fun e w' => e = .returned (.int .i64 (wsum p.args)) ∧ Ext w w' := by
  unfold Pr.vals
  obtain ⟨A, c, rfl, hc, hm, ha, hf, hg⟩ := h
  unfold maxLen at hm
  obtain ⟨n, hn⟩ : ∃ n, n = p.args.length := ⟨_, rfl⟩
  rw [← hn] at hc hg hlen ⊢
  have Hn := Lib.hid hn
  clear hn ha
  go_enter Try.func37, Try.ntmps37
  go_wp2
  obtain ⟨w2, hw2⟩ : ∃ w2, w2 = w.alloc (.cells #[.int .i64 p.ret.k, .string (bs p.ret.s), .slice A n c] 29) := ⟨_, rfl⟩
  have z3 : w2.cell? ⟨w.heap.size, 2, none⟩ = some (.slice A n c) := by rw [hw2, cell_of_row _ _ _ _ _ _ (heap_alloc_new _ _)]; rfl
  have hlt2 : w.heap.size < w2.heap.size := by rw [hw2]; simp
  have X2 : Ext w w2 := by rw [hw2]; exact (Ext.refl w).alloc _
  rw [← hw2]
  have X2 := Lib.hid X2
  clear hw2
  go_loopw [3, 4] (fun s i wr => ∃ k : Nat, k ≤ n ∧ i = .int .i64 k ∧ s = .int .i64 (wsum (p.args.take k)) ∧ Ext w2 wr) (fun _ i _ => n - (intOf i).toNat)
  case atStart => exact ⟨0, by omega, rfl, rfl, Ext.refl _⟩
  case round =>
    obtain ⟨k, hk, rfl, rfl, hx⟩ := hrel
    have z4 := (hx.cell (p := ⟨w.heap.size, 2, none⟩) hlt2).trans z3
    by_cases hlt : k < n
    · obtain ⟨b1, o1, rfl, hb1, hx1⟩ := hg (by omega)
      have hcells := (hx1 k hlt).ext (X2.out.trans hx) hb1
      have e1 : wsum (p.args.take (k + 1)) = wsum (p.args.take k) + wordsT (gt p.args k) := by
        rw [takeT_one (by have := Hn.out; omega), wsum_app]
        simp [wsum]
      have hw0 := wordsT_le (gt p.args k)
      have hs0 := wsum_le (p.args.take k)
      have hs1 : (p.args.take k).length ≤ k := by simp; omega
      obtain ⟨y0, y1⟩ := hcells
      clear hx1
      have HC := fun W => refWords_any (gt p.args k) W
      unfold Ty.vals at HC
      have HC := Lib.hid HC
      have E1 := Lib.hid e1
      obtain ⟨a, hA⟩ : ∃ a, a = wsum (p.args.take k) := ⟨_, rfl⟩
      obtain ⟨d, hD⟩ : ∃ d, d = wordsT (gt p.args k) := ⟨_, rfl⟩
      rw [← hA] at hs0 ⊢
      rw [← hD] at hw0
      have HA := Lib.hid hA
      have HD := Lib.hid hD
      clear hA hD e1
      go_wp2_with fail
      refine (HC.out _).mono ?_
      rw [← HD.out]
      rintro e w3 ⟨rfl, x3⟩
      go_wp2
      refine ⟨⟨k + 1, by omega, by go_num, ?_, hx.trans x3⟩, by simp [intOf]; omega⟩
      rw [E1.out, ← HA.out, ← HD.out]
    · obtain rfl : k = n := by omega
      go_wp2
      go_ret
      refine ⟨?_, X2.out.trans hx⟩
      rw [Hn.out, List.take_length]
      rfl
end Go.Proofs.Ytibcaienaejgpaa
