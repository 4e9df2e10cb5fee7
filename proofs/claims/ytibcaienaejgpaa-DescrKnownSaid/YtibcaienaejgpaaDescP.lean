/- The project's own answers of protos, walked: may it be, how many words, are two the same. -/
import Derived.Test.YtibcaienaejgpaaDescO
namespace Go.Proofs.Ytibcaienaejgpaa
open Go.RowKit
set_option linter.unusedVariables false

set_option maxHeartbeats 4000000 in
theorem CheckProto_any (v : Value) (p : Pr) (w : World) (h : RowT w v p.args) (hret : p.ret.s.length ≤ 140737488351232) :
    Calls Try.prog 34 #[.agg (p.vals v)] w fun e w' => e = .returned (.int .i64 (checkP p)) ∧ Ext w w' := by
  unfold Pr.vals
  obtain ⟨A, c, rfl, hc, hm, ha, hf, hg⟩ := h
  unfold maxLen at hm
  by_cases h16 : 16 < p.args.length
  · rw [checkP_long h16]
    clear hg hf ha
    go_enter Try.func34, Try.ntmps34
    go_wp2
    go_ret
    exact ⟨rfl, (Ext.refl w).alloc _⟩
  · have hne : ∀ W, (binOp .eql 23 (.agg #[.int .i64 p.ret.k, .string (bs p.ret.s)]) (.agg #[.int .i64 0, .string ⟨#[]⟩])).run Try.prog W = .ok (.bool (eqT p.ret t0)) W := fun W => run_eqT p.ret t0 W
    have HR := fun W => CheckType_any p.ret W hret
    unfold Ty.vals at HR
    have HR := Lib.hid HR
    obtain ⟨n, hn⟩ : ∃ n, n = p.args.length := ⟨_, rfl⟩
    rw [← hn] at hc hg h16 ⊢
    have Hn := Lib.hid hn
    clear hn ha
    have hf := Lib.hid hf
    go_enter Try.func34, Try.ntmps34
    go_wp2
    obtain ⟨w2, hw2⟩ : ∃ w2, w2 = w.alloc (.cells #[.int .i64 p.ret.k, .string (bs p.ret.s), .slice A n c] 29) := ⟨_, rfl⟩
    have z5 : w2.cell? ⟨w.heap.size, 0, none⟩ = some (.int .i64 p.ret.k) := by rw [hw2, cell_of_row _ _ _ _ _ _ (heap_alloc_new _ _)]; rfl
    have z6 : w2.cell? ⟨w.heap.size, 1, none⟩ = some (.string (bs p.ret.s)) := by rw [hw2, cell_of_row _ _ _ _ _ _ (heap_alloc_new _ _)]; rfl
    have hlt2 : w.heap.size < w2.heap.size := by rw [hw2]; simp
    have X2 : Ext w w2 := by rw [hw2]; exact (Ext.refl w).alloc _
    rw [← hw2]
    clear hw2
    have X2 := Lib.hid X2
    go_loopw [13] (fun i wr => ∃ k : Nat, k ≤ n ∧ i = .int .i64 k ∧ Hid (∀ j, j < k → okT (gt p.args j) = true) ∧ Ext w2 wr) (fun i _ => n - (intOf i).toNat)
    case atStart => exact ⟨0, by omega, rfl, Lib.hid (fun j h => absurd h (Nat.not_lt_zero _)), Ext.refl _⟩
    case round =>
      obtain ⟨k, hk, rfl, Ht, hx⟩ := hrel
      by_cases hlt : k < n
      · obtain ⟨b1, o1, rfl, hb1, hx1⟩ := hg (by omega)
        obtain ⟨y0, y1⟩ := (hx1 k hlt).ext (X2.out.trans hx) hb1
        clear hx1 hne
        have HC := fun W => CheckType_any (gt p.args k) W (hf.out _ (gt_mem (by have := Hn.out; omega))).2
        unfold Ty.vals at HC
        have HC := Lib.hid HC
        cases ho : okT (gt p.args k)
        · have H2 := Lib.hid (checkT_no ho)
          have HE := Lib.hid (checkP_arg (p := p) (by have := Hn.out; omega) (by have := Hn.out; omega) ho)
          clear ho
          go_wp2_with fail
          refine (HC.out _).mono ?_
          rw [H2.out]
          rintro e w3 ⟨rfl, x3⟩
          go_wp2
          go_ret
          rw [HE.out]
          exact ⟨rfl, X2.out.trans ((hx.alloc _).trans x3)⟩
        · have H2 := Lib.hid (checkT_yes ho)
          have HO := Lib.hid ho
          clear ho
          go_wp2_with fail
          refine (HC.out _).mono ?_
          rw [H2.out]
          rintro e w3 ⟨rfl, x3⟩
          go_wp2
          refine ⟨⟨k + 1, by omega, by go_num, Lib.hid (fun j hj => ?_), (hx.alloc _).trans x3⟩, by simp [intOf]; omega⟩
          by_cases hjk : j < k
          · exact Ht.out j hjk
          · obtain rfl : j = k := by omega
            exact HO.out
      · obtain rfl : k = n := by omega
        have y5 := (hx.cell (p := ⟨w.heap.size, 0, none⟩) hlt2).trans z5
        have y6 := (hx.cell (p := ⟨w.heap.size, 1, none⟩) hlt2).trans z6
        have all : ∀ j, j < p.args.length → okT (gt p.args j) = true := fun j hj => Ht.out j (by have := Hn.out; omega)
        have HAll := Lib.hid all
        have h16' : ¬ 16 < p.args.length := by have := Hn.out; omega
        have H16 := Lib.hid h16'
        clear all h16' z5 z6
        by_cases h0 : p.ret = t0
        · rw [show eqT p.ret t0 = true by simp [eqT, h0]] at hne
          have HE := Lib.hid (checkP_yes H16.out (.inl h0) HAll.out)
          clear h0
          go_wp2
          go_ret
          rw [HE.out]
          exact ⟨rfl, X2.out.trans hx⟩
        · rw [show eqT p.ret t0 = false by simp [eqT, h0]] at hne
          cases ho : okT p.ret
          · have H2 := Lib.hid (checkT_no ho)
            have HE := Lib.hid (checkP_ret H16.out h0 ho)
            clear h0 ho
            go_wp2_with fail
            refine (HR.out _).mono ?_
            rw [H2.out]
            rintro e w3 ⟨rfl, x3⟩
            go_wp2
            go_ret
            rw [HE.out]
            exact ⟨rfl, X2.out.trans (hx.trans x3)⟩
          · have H2 := Lib.hid (checkT_yes ho)
            have HE := Lib.hid (checkP_yes H16.out (.inr ho) HAll.out)
            clear h0 ho
            go_wp2_with fail
            refine (HR.out _).mono ?_
            rw [H2.out]
            rintro e w3 ⟨rfl, x3⟩
            go_wp2
            go_ret
            rw [HE.out]
            exact ⟨rfl, X2.out.trans (hx.trans x3)⟩
set_option maxHeartbeats 4000000 in
theorem ArgWords_any (v : Value) (p : Pr) (w : World) (h : RowT w v p.args) (hlen : p.args.length ≤ 4611686018427387903) :
    Calls Try.prog 36 #[.agg (p.vals v)] w fun e w' => e = .returned (.int .i64 (wsum p.args)) ∧ Ext w w' := by
  unfold Pr.vals
  obtain ⟨A, c, rfl, hc, hm, ha, hf, hg⟩ := h
  unfold maxLen at hm
  obtain ⟨n, hn⟩ : ∃ n, n = p.args.length := ⟨_, rfl⟩
  rw [← hn] at hc hg hlen ⊢
  have Hn := Lib.hid hn
  clear hn ha
  go_enter Try.func36, Try.ntmps36
  go_wp2
  obtain ⟨w2, hw2⟩ : ∃ w2, w2 = w.alloc (.cells #[.int .i64 p.ret.k, .string (bs p.ret.s), .slice A n c] 29) := ⟨_, rfl⟩
  have X2 : Ext w w2 := by rw [hw2]; exact (Ext.refl w).alloc _
  rw [← hw2]
  have X2 := Lib.hid X2
  clear hw2
  go_loopw [3, 9] (fun s i wr => ∃ k : Nat, k ≤ n ∧ i = .int .i64 k ∧ s = .int .i64 (wsum (p.args.take k)) ∧ Ext w2 wr) (fun _ i _ => n - (intOf i).toNat)
  case atStart => exact ⟨0, by omega, rfl, rfl, Ext.refl _⟩
  case round =>
    obtain ⟨k, hk, rfl, rfl, hx⟩ := hrel
    by_cases hlt : k < n
    · obtain ⟨b1, o1, rfl, hb1, hx1⟩ := hg (by omega)
      have hcells := (hx1 k hlt).ext (X2.out.trans hx) hb1
      have e1 : wsum (p.args.take (k + 1)) = wsum (p.args.take k) + wordsT (gt p.args k) := by
        rw [takeT_one (by have := Hn.out; omega), wsum_app]
        simp [wsum]
      have hw0 := wordsT_le (gt p.args k)
      have hs0 := wsum_le (p.args.take k)
      have hs1 : (p.args.take k).length ≤ k := by simp; omega
      obtain ⟨y0, y1⟩ := hcells
      clear hx1
      have HC := fun W => Words_any (gt p.args k) W
      unfold Ty.vals at HC
      have HC := Lib.hid HC
      have E1 := Lib.hid e1
      obtain ⟨a, hA⟩ : ∃ a, a = wsum (p.args.take k) := ⟨_, rfl⟩
      obtain ⟨d, hD⟩ : ∃ d, d = wordsT (gt p.args k) := ⟨_, rfl⟩
      rw [← hA] at hs0 ⊢
      rw [← hD] at hw0
      have HA := Lib.hid hA
      have HD := Lib.hid hD
      clear hA hD e1
      go_wp2_with fail
      refine (HC.out _).mono ?_
      rw [← HD.out]
      rintro e w3 ⟨rfl, x3⟩
      go_wp2
      refine ⟨⟨k + 1, by omega, by go_num, ?_, (hx.alloc _).trans x3⟩, by simp [intOf]; omega⟩
      rw [E1.out, ← HA.out, ← HD.out]
    · obtain rfl : k = n := by omega
      go_wp2
      go_ret
      refine ⟨?_, X2.out.trans hx⟩
      rw [Hn.out, List.take_length]
      rfl
/-- Whether two lists of types are the same. -/
def eqL (l m : List Ty) : Bool := decide (l = m)
set_option maxHeartbeats 4000000 in
theorem equalT_any (v1 v2 : Value) (l1 l2 : List Ty) (w : World) (h1 : RowT w v1 l1) (h2 : RowT w v2 l2) :
    Calls Try.prog 55 #[v1, v2] w fun e w' => e = .returned (.bool (eqL l1 l2)) ∧ ∃ m, w' = w.drewN m := by
  obtain ⟨A1, c1, rfl, hc1, hm1, ha1, hf1, hg1⟩ := h1
  obtain ⟨A2, c2, rfl, hc2, hm2, ha2, hf2, hg2⟩ := h2
  unfold maxLen at hm1 hm2
  by_cases hl : l1.length = l2.length
  · obtain ⟨n, hn⟩ : ∃ n, n = l1.length := ⟨_, rfl⟩
    rw [← hn] at hc1 hg1 ⊢
    rw [← hl, ← hn] at hc2 hg2 ⊢
    have Hn := Lib.hid hn
    have Hl := Lib.hid hl
    clear hn hl ha1 ha2 hf1 hf2
    go_enter Try.func55, Try.ntmps55
    go_wp2
    go_loopw [13] (fun i wr => ∃ k m : Nat, k ≤ n ∧ i = .int .i64 k ∧ wr = w.drewN m ∧ Hid (l1.take k = l2.take k)) (fun i _ => n - (intOf i).toNat)
    case atStart => exact ⟨0, 0, by omega, rfl, rfl, Lib.hid rfl⟩
    case round =>
      obtain ⟨k, m, hk, rfl, rfl, Ht⟩ := hrel
      by_cases hlt : k < n
      · obtain ⟨b1, o1, rfl, hb1, hx1⟩ := hg1 (by omega)
        obtain ⟨b2, o2, rfl, hb2, hx2⟩ := hg2 (by omega)
        obtain ⟨y0, y1⟩ := hx1 k hlt
        obtain ⟨u0, u1⟩ := hx2 k hlt
        have hne := fun W => run_neqT (gt l1 k) (gt l2 k) W
        unfold Ty.vals at hne
        clear hx1 hx2
        by_cases he : gt l1 k = gt l2 k
        · rw [show eqT (gt l1 k) (gt l2 k) = true by simp [eqT, he]] at hne
          have HE := Lib.hid he
          clear he
          go_wp2
          go_quiet (fail)
          go_wp2
          refine ⟨⟨k + 1, m + nq, by omega, by go_num, rfl, Lib.hid ?_⟩, by simp [intOf]; omega⟩
          rw [takeT_one (by have := Hn.out; omega), takeT_one (by have := Hn.out; have := Hl.out; omega), Ht.out, HE.out]
        · rw [show eqT (gt l1 k) (gt l2 k) = false by simp [eqT, he]] at hne
          have HE := Lib.hid (show eqL l1 l2 = false by simp only [eqL, decide_eq_false_iff_not]; exact fun e => he (by rw [e]))
          clear he
          go_wp2
          go_quiet (fail)
          go_wp2
          go_ret
          exact ⟨ret_b HE.out.symm, _, World.drewN_drewN _ _ _⟩
      · obtain rfl : k = n := by omega
        go_wp2
        go_ret
        refine ⟨ret_b ?_, _, rfl⟩
        have := Ht.out
        rw [Hn.out] at this
        rw [List.take_length, Hl.out, List.take_length] at this
        exact (decide_eq_true this).symm
  · have hb : ((l1.length : Int) != (l2.length : Int)) = true := by simp; omega
    have HE := Lib.hid (show eqL l1 l2 = false by simp only [eqL, decide_eq_false_iff_not]; exact fun e => hl (by rw [e]))
    rw [HE.out]
    clear hg1 hg2 hl ha1 ha2 hf1 hf2
    go_enter Try.func55, Try.ntmps55
    go_wp2
    go_ret
    exact ⟨rfl, 0, rfl⟩
set_option maxHeartbeats 2000000 in
theorem SameProto_any (v1 v2 : Value) (p q : Pr) (w : World) (h1 : RowT w v1 p.args) (h2 : RowT w v2 q.args) :
    Calls Try.prog 38 #[.agg (p.vals v1), .agg (q.vals v2)] w fun e w' => e = .returned (.bool (eqP p q)) ∧ Ext w w' := by
  have hne := fun W => run_eqT p.ret q.ret W
  have hq := fun W (x : Ext w W) => equalT_any v1 v2 p.args q.args W (h1.ext x) (h2.ext x)
  unfold Pr.vals
  unfold Ty.vals at hne
  have HQ := Lib.hid hq
  obtain ⟨A1, c1, rfl, -⟩ := h1
  obtain ⟨A2, c2, rfl, -⟩ := h2
  by_cases hr : p.ret = q.ret
  · rw [show eqT p.ret q.ret = true by simp [eqT, hr]] at hne
    have HE := Lib.hid (show eqL p.args q.args = eqP p q by
      by_cases ha : p.args = q.args
      · rw [eqP_yes hr ha, eqL, ha]; simp
      · rw [eqP_args ha, eqL]; simpa using ha)
    clear hr hq
    go_enter Try.func38, Try.ntmps38
    go_wp2_with fail
    refine (HQ.out _ (by first | exact ext_two _ _ _ | exact (ext_two _ _ _).drewN _)).mono ?_
    rw [HE.out]
    rintro e w3 ⟨rfl, m, rfl⟩
    go_wp2
    go_ret
    exact ⟨rfl, by first | exact (ext_two _ _ _).drewN _ | exact ((ext_two _ _ _).drewN _).drewN _⟩
  · rw [show eqT p.ret q.ret = false by simp [eqT, hr]] at hne
    have HE := Lib.hid (eqP_ret (p := p) (q := q) hr)
    rw [HE.out]
    clear hr hq
    go_enter Try.func38, Try.ntmps38
    go_wp2
    go_ret
    exact ⟨rfl, by first | exact ext_two _ _ _ | exact (ext_two _ _ _).drewN _⟩
end Go.Proofs.Ytibcaienaejgpaa
