/- The document's own answers of protos, walked: may it be, how it is written. -/
import Derived.Test.YtibcaienaejgpaaDescE
namespace Go.Proofs.Ytibcaienaejgpaa
open Go.RowKit
set_option linter.unusedVariables false

theorem checkP_long {p : Pr} (h : 16 < p.args.length) : checkP p = 5 := by rw [checkP, if_pos h]
theorem checkP_ret {p : Pr} (h : ¬ 16 < p.args.length) (h1 : ¬ p.ret = t0) (h2 : okT p.ret = false) : checkP p = 2 := by
  rw [checkP, if_neg h, if_neg]
  simp [okP, h1, h2]
theorem checkP_arg {p : Pr} (h : ¬ 16 < p.args.length) {k : Nat} (hk : k < p.args.length) (h2 : okT (gt p.args k) = false) : checkP p = 2 := by
  rw [checkP, if_neg h, if_neg]
  intro ho
  unfold okP at ho
  simp only [Bool.and_eq_true, List.all_eq_true] at ho
  have := ho.2 _ (gt_mem hk)
  rw [h2] at this
  cases this
theorem checkP_yes {p : Pr} (h : ¬ 16 < p.args.length) (h1 : p.ret = t0 ∨ okT p.ret = true) (h2 : ∀ j, j < p.args.length → okT (gt p.args j) = true) : checkP p = 0 := by
  rw [checkP, if_neg h, if_pos]
  unfold okP
  simp only [Bool.and_eq_true, List.all_eq_true, Bool.or_eq_true, decide_eq_true_eq]
  refine ⟨h1, fun t ht => ?_⟩
  obtain ⟨j, hj, rfl⟩ := List.getElem_of_mem ht
  have := h2 j hj
  simpa [gt, hj] using this
set_option maxHeartbeats 8000000 in
theorem refCheckProto_any (v : Value) (p : Pr) (w : World) (h : RowT w v p.args) (hret : p.ret.s.length ≤ 140737488351232) :
    Calls Try.prog 35 #[.agg (p.vals v)] w fun e w' => e = .returned (.int .i64 (checkP p)) ∧ Ext w w' := by
  unfold Pr.vals
  obtain ⟨A, c, rfl, hc, hm, ha, hf, hg⟩ := h
  unfold maxLen at hm
  by_cases h16 : 16 < p.args.length
  · rw [checkP_long h16]
    clear hg hf ha
    go_enter Try.func35, Try.ntmps35
    go_wp2
    go_ret
    exact ⟨rfl, (Ext.refl w).alloc _⟩
  · have hne : ∀ W, (binOp .neq 23 (.agg #[.int .i64 p.ret.k, .string (bs p.ret.s)]) (.agg #[.int .i64 0, .string ⟨#[]⟩])).run Try.prog W = .ok (.bool (!eqT p.ret t0)) W := fun W => run_neqT p.ret t0 W
    have HC := fun W => refCheckType_any p.ret W hret
    unfold Ty.vals at HC
    have HC := Lib.hid HC
    obtain ⟨n, hn⟩ : ∃ n, n = p.args.length := ⟨_, rfl⟩
    rw [← hn] at hc hg h16 ⊢
    have Hn := Lib.hid hn
    clear hn ha
    have hf := Lib.hid hf
    -- what holds once the answered type is seen
    have rest : (p.ret = t0 ∨ okT p.ret = true) → Hid (p.ret = t0 ∨ okT p.ret = true) := Lib.hid
    by_cases h0 : p.ret = t0
    · rw [show eqT p.ret t0 = true by simp [eqT, h0]] at hne
      have Rest := rest (.inl h0)
      clear rest h0
      go_enter Try.func35, Try.ntmps35
      go_wp2
      obtain ⟨w2, hw2⟩ : ∃ w2, w2 = w.alloc (.cells #[.int .i64 p.ret.k, .string (bs p.ret.s), .slice A n c] 29) := ⟨_, rfl⟩
      have z3 : w2.cell? ⟨w.heap.size, 2, none⟩ = some (.slice A n c) := by rw [hw2, cell_of_row _ _ _ _ _ _ (heap_alloc_new _ _)]; rfl
      have hlt2 : w.heap.size < w2.heap.size := by rw [hw2]; simp
      have X2 : Ext w w2 := by rw [hw2]; exact (Ext.refl w).alloc _
      rw [← hw2]
      clear hw2 hne
      have X2 := Lib.hid X2
      go_loopw [3] (fun i wr => ∃ k : Nat, k ≤ n ∧ i = .int .i64 k ∧ (∀ j, j < k → okT (gt p.args j) = true) ∧ Ext w2 wr) (fun i _ => n - (intOf i).toNat)
      case atStart => exact ⟨0, by omega, rfl, (fun j h => absurd h (Nat.not_lt_zero _)), Ext.refl _⟩
      case round =>
        obtain ⟨k, hk, rfl, ht, hx⟩ := hrel
        have Ht := Lib.hid ht
        clear ht
        have z4 := (hx.cell (p := ⟨w.heap.size, 2, none⟩) hlt2).trans z3
        by_cases hlt : k < n
        · obtain ⟨b1, o1, rfl, hb1, hx1⟩ := hg (by omega)
          obtain ⟨y0, y1⟩ := (hx1 k hlt).ext (X2.out.trans hx) hb1
          clear hx1
          have HC := fun W => refCheckType_any (gt p.args k) W (hf.out _ (gt_mem (by have := Hn.out; omega))).2
          unfold Ty.vals at HC
          have HC := Lib.hid HC
          cases ho : okT (gt p.args k)
          · have H2 := Lib.hid (checkT_no ho)
            have HE := Lib.hid (checkP_arg (p := p) (by have := Hn.out; omega) (by have := Hn.out; omega) ho)
            clear ho
            go_wp2_with fail
            refine (HC.out _).mono ?_
            rw [H2.out]
            rintro e w3 ⟨rfl, x3⟩
            go_wp2
            go_ret
            rw [HE.out]
            exact ⟨rfl, X2.out.trans (hx.trans x3)⟩
          · have H2 := Lib.hid (checkT_yes ho)
            have HO := Lib.hid ho
            clear ho
            go_wp2_with fail
            refine (HC.out _).mono ?_
            rw [H2.out]
            rintro e w3 ⟨rfl, x3⟩
            go_wp2
            refine ⟨⟨k + 1, by omega, by go_num, (fun j hj => ?_), hx.trans x3⟩, by simp [intOf]; omega⟩
            by_cases hjk : j < k
            · exact Ht.out j hjk
            · obtain rfl : j = k := by omega
              exact HO.out
        · obtain rfl : k = n := by omega
          go_wp2
          go_ret
          refine ⟨?_, X2.out.trans hx⟩
          rw [checkP_yes (by have := Hn.out; omega) Rest.out (fun j hj => Ht.out j (by have := Hn.out; omega))]
          rfl
    · rw [show eqT p.ret t0 = false by simp [eqT, h0]] at hne
      cases ho : okT p.ret
      · have H2 := Lib.hid (checkT_no ho)
        have HE := Lib.hid (checkP_ret (by have := Hn.out; omega) h0 ho)
        clear rest h0 ho
        go_enter Try.func35, Try.ntmps35
        go_wp2_with fail
        refine (HC.out _).mono ?_
        rw [H2.out]
        rintro e w1 ⟨rfl, x1⟩
        go_wp2
        go_ret
        rw [HE.out]
        exact ⟨rfl, ((Ext.refl w).alloc _).trans x1⟩
      · have H2 := Lib.hid (checkT_yes ho)
        have Rest := rest (.inr ho)
        clear rest h0 ho
        go_enter Try.func35, Try.ntmps35
        go_wp2_with fail
        refine (HC.out _).mono ?_
        rw [H2.out]
        rintro e w2 ⟨rfl, x1⟩
        have z3 : w2.cell? ⟨w.heap.size, 2, none⟩ = some (.slice A n c) := by
          rw [x1.cell (p := ⟨w.heap.size, 2, none⟩) (by simp), cell_of_row _ _ _ _ _ _ (heap_alloc_new _ _)]
          rfl
        have hlt2 : w.heap.size < w2.heap.size := by have := x1.size; simp at this; omega
        have X2 : Ext w w2 := ((Ext.refl w).alloc _).trans x1
        go_wp2
        clear hne x1
        have X2 := Lib.hid X2
        go_loopw [3] (fun i wr => ∃ k : Nat, k ≤ n ∧ i = .int .i64 k ∧ (∀ j, j < k → okT (gt p.args j) = true) ∧ Ext w2 wr) (fun i _ => n - (intOf i).toNat)
        case atStart => exact ⟨0, by omega, rfl, (fun j h => absurd h (Nat.not_lt_zero _)), Ext.refl _⟩
        case round =>
          obtain ⟨k, hk, rfl, ht, hx⟩ := hrel
          have Ht := Lib.hid ht
          clear ht
          have z4 := (hx.cell (p := ⟨w.heap.size, 2, none⟩) hlt2).trans z3
          by_cases hlt : k < n
          · obtain ⟨b1, o1, rfl, hb1, hx1⟩ := hg (by omega)
            obtain ⟨y0, y1⟩ := (hx1 k hlt).ext (X2.out.trans hx) hb1
            clear hx1
            have HC := fun W => refCheckType_any (gt p.args k) W (hf.out _ (gt_mem (by have := Hn.out; omega))).2
            unfold Ty.vals at HC
            have HC := Lib.hid HC
            cases ho : okT (gt p.args k)
            · have H2 := Lib.hid (checkT_no ho)
              have HE := Lib.hid (checkP_arg (p := p) (by have := Hn.out; omega) (by have := Hn.out; omega) ho)
              clear ho
              go_wp2_with fail
              refine (HC.out _).mono ?_
              rw [H2.out]
              rintro e w3 ⟨rfl, x3⟩
              go_wp2
              go_ret
              rw [HE.out]
              exact ⟨rfl, X2.out.trans (hx.trans x3)⟩
            · have H2 := Lib.hid (checkT_yes ho)
              have HO := Lib.hid ho
              clear ho
              go_wp2_with fail
              refine (HC.out _).mono ?_
              rw [H2.out]
              rintro e w3 ⟨rfl, x3⟩
              go_wp2
              refine ⟨⟨k + 1, by omega, by go_num, (fun j hj => ?_), hx.trans x3⟩, by simp [intOf]; omega⟩
              by_cases hjk : j < k
              · exact Ht.out j hjk
              · obtain rfl : j = k := by omega
                exact HO.out
          · obtain rfl : k = n := by omega
            go_wp2
            go_ret
            refine ⟨?_, X2.out.trans hx⟩
            rw [checkP_yes (by have := Hn.out; omega) Rest.out (fun j hj => Ht.out j (by have := Hn.out; omega))]
            rfl
end Go.Proofs.Ytibcaienaejgpaa
