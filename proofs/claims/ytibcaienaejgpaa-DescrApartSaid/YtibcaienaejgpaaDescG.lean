/- The document's own WriteProto, walked. -/
import Derived.Test.YtibcaienaejgpaaDescF
namespace Go.Proofs.Ytibcaienaejgpaa
open Go.RowKit
set_option linter.unusedVariables false

theorem textT_len (t : Ty) : (textT t).length ≤ t.s.length + 3 := by
  unfold textT
  repeat' split
  all_goals simp
theorem flat_len (l : List Ty) (h : ∀ t ∈ l, t.ok) : (l.flatMap textT).length ≤ l.length * 140737488351235 := by
  induction l with
  | nil => simp
  | cons t r ih =>
    have h1 := (h t (List.mem_cons_self ..)).2
    have h2 := textT_len t
    have h3 := ih (fun u hu => h u (List.mem_cons_of_mem _ hu))
    simp only [List.flatMap_cons, List.length_append, List.length_cons]
    omega
theorem writeP_no {p : Pr} (h : ¬ checkP p = 0) : writeP p = ([], checkP p) := by rw [writeP, if_neg h]
theorem writeP_yes {p : Pr} (h : checkP p = 0) : writeP p = (textP p, 0) := by rw [writeP, if_pos h]
set_option maxHeartbeats 1500000 in
theorem refWriteProto_any (v : Value) (p : Pr) (w : World) (h : RowT w v p.args) (hret : p.ret.s.length ≤ 140737488351232) :
    Calls Try.prog 33 #[.agg (p.vals v)] w fun e w' => e = .returned (.tuple #[.string (bs (writeP p).1), .int .i64 (writeP p).2]) ∧ Ext w w' := by
  have hc' := h
  have hcc : ∀ W, Ext w W → Calls Try.prog 35 #[.agg (p.vals v)] W fun e w' => e = .returned (.int .i64 (checkP p)) ∧ Ext W w' := fun W hx => refCheckProto_any v p W (h.ext hx) hret
  unfold Pr.vals at hcc ⊢
  obtain ⟨A, c, rfl, hc, hm, ha, hf, hg⟩ := h
  unfold maxLen at hm
  have HC := Lib.hid hcc
  clear hcc
  by_cases h0 : checkP p = 0
  · rw [writeP_yes h0]
    have h16 : ¬ 16 < p.args.length := by
      intro h
      rw [checkP_long h] at h0
      cases h0
    obtain ⟨n, hn⟩ : ∃ n, n = p.args.length := ⟨_, rfl⟩
    rw [← hn] at hc hg h16 HC ⊢
    have Hn := Lib.hid hn
    have H0 := Lib.hid h0
    have hf := Lib.hid hf
    clear hn ha h0 hc'
    go_enter Try.func33, Try.ntmps33
    go_wp2_with fail
    refine (HC.out _ ((Ext.refl w).alloc _)).mono ?_
    rw [H0.out]
    rintro e w2 ⟨rfl, x1⟩
    have z3 : w2.cell? ⟨w.heap.size, 2, none⟩ = some (.slice A n c) := by
      rw [x1.cell (p := ⟨w.heap.size, 2, none⟩) (by simp), cell_of_row _ _ _ _ _ _ (heap_alloc_new _ _)]
      rfl
    have z5 : w2.cell? ⟨w.heap.size, 0, none⟩ = some (.int .i64 p.ret.k) := by
      rw [x1.cell (p := ⟨w.heap.size, 0, none⟩) (by simp), cell_of_row _ _ _ _ _ _ (heap_alloc_new _ _)]
      rfl
    have z6 : w2.cell? ⟨w.heap.size, 1, none⟩ = some (.string (bs p.ret.s)) := by
      rw [x1.cell (p := ⟨w.heap.size, 1, none⟩) (by simp), cell_of_row _ _ _ _ _ _ (heap_alloc_new _ _)]
      rfl
    have hlt2 : w.heap.size < w2.heap.size := by have := x1.size; simp at this; omega
    have X2 : Ext w w2 := ((Ext.refl w).alloc _).trans x1
    go_wp2
    clear x1
    have X2 := Lib.hid X2
    go_loopw [5, 6] (fun s i wr => ∃ k : Nat, k ≤ n ∧ i = .int .i64 k ∧ s = .string (bs (40 :: (p.args.take k).flatMap textT)) ∧ Ext w2 wr) (fun _ i _ => n - (intOf i).toNat)
    case atStart => exact ⟨0, by omega, rfl, rfl, Ext.refl _⟩
    case round =>
      obtain ⟨k, hk, rfl, rfl, hx⟩ := hrel
      have y3 := (hx.cell (p := ⟨w.heap.size, 2, none⟩) hlt2).trans z3
      by_cases hlt : k < n
      · obtain ⟨b1, o1, rfl, hb1, hx1⟩ := hg (by omega)
        obtain ⟨y0, y1⟩ := (hx1 k hlt).ext (X2.out.trans hx) hb1
        clear hx1
        have hok := hf.out _ (gt_mem (l := p.args) (j := k) (by have := Hn.out; omega))
        have htx := fun W => reftext_any (gt p.args k) W hok.2
        unfold Ty.vals at htx
        have HT := Lib.hid htx
        have hl1 := textT_len (gt p.args k)
        have hl2 := flat_len (p.args.take k) (fun t ht => hf.out t (List.mem_of_mem_take ht))
        have hl3 : (p.args.take k).length ≤ k := by simp; omega
        have hl4 := hok.2
        have e1 : (40 : UInt8) :: (p.args.take (k + 1)).flatMap textT = (40 :: (p.args.take k).flatMap textT) ++ textT (gt p.args k) := by
          rw [takeT_one (by have := Hn.out; omega), List.flatMap_append]
          simp
        have E1 := Lib.hid e1
        clear e1 htx hok
        obtain ⟨a, hA⟩ : ∃ a, a = (40 : UInt8) :: (p.args.take k).flatMap textT := ⟨_, rfl⟩
        obtain ⟨d, hD⟩ : ∃ d, d = textT (gt p.args k) := ⟨_, rfl⟩
        have hadd : ∀ W, (Op.stringOp .add (bs a) (bs d)).run Try.prog W = .ok (.string (bs (a ++ d))) W := fun W => add_bs (bs a) (bs d) a d rfl rfl (by
          rw [hA, hD]
          have : (p.args.take k).length * 140737488351235 ≤ 16 * 140737488351235 := Nat.mul_le_mul_right _ (by omega)
          simp only [List.length_cons]
          omega) W
        rw [← hA, ← hD] at E1
        rw [← hA]
        rw [← hD] at HT
        have HA := Lib.hid hA
        clear hA hD hl1 hl2 hl3 hl4
        go_wp2_with fail
        refine (HT.out _).mono ?_
        rintro e w3 ⟨rfl, x3⟩
        go_wp2
        exact ⟨⟨k + 1, by omega, by go_num, by rw [E1.out], hx.trans x3⟩, by simp [intOf]; omega⟩
      · obtain rfl : k = n := by omega
        have y5 := (hx.cell (p := ⟨w.heap.size, 0, none⟩) hlt2).trans z5
        have y6 := (hx.cell (p := ⟨w.heap.size, 1, none⟩) hlt2).trans z6
        have htx := fun W => reftext_any p.ret W hret
        unfold Ty.vals at htx
        have hl1 := textT_len p.ret
        have hl2 := flat_len (p.args.take k) (fun t ht => hf.out t (List.mem_of_mem_take ht))
        have hl3 : (p.args.take k).length ≤ k := by simp; omega
        obtain ⟨a, hA⟩ : ∃ a, a = (40 : UInt8) :: (p.args.take k).flatMap textT := ⟨_, rfl⟩
        obtain ⟨d, hD⟩ : ∃ d, d = textT p.ret := ⟨_, rfl⟩
        have hb : a.length ≤ 16 * 140737488351235 + 1 := by
          rw [hA]
          have : (p.args.take k).length * 140737488351235 ≤ 16 * 140737488351235 := Nat.mul_le_mul_right _ (by omega)
          simp only [List.length_cons]
          omega
        have hadd1 : ∀ W, (Op.stringOp .add (bs a) ⟨#[41]⟩).run Try.prog W = .ok (.string (bs (a ++ [41]))) W := fun W => add_bs (bs a) ⟨#[41]⟩ a [41] rfl rfl (by simp only [List.length_cons, List.length_nil]; omega) W
        have hadd2 : ∀ W, (Op.stringOp .add (bs (a ++ [41])) (bs d)).run Try.prog W = .ok (.string (bs (a ++ [41] ++ d))) W := fun W => add_bs (bs (a ++ [41])) (bs d) (a ++ [41]) d rfl rfl (by
          rw [hD, List.length_append]
          simp only [List.length_cons, List.length_nil]
          omega) W
        have e2 : textP p = a ++ 41 :: d := by
          rw [hA, hD, textP, show p.args.take k = p.args by rw [Hn.out, List.take_length]]
          simp
        rw [← hA]
        rw [← hD] at htx
        have HT := Lib.hid htx
        have E2 := Lib.hid e2
        clear hA hD hl1 hl2 hl3 htx e2 hb
        go_wp2_with fail
        refine (HT.out _).mono ?_
        rintro e w3 ⟨rfl, x3⟩
        go_wp2
        go_ret2
        rw [E2.out]
        exact ⟨rfl, X2.out.trans (hx.trans x3)⟩
  · rw [writeP_no h0]
    obtain ⟨n, hn⟩ : ∃ n, n = p.args.length := ⟨_, rfl⟩
    have hcd := HC.out
    clear HC
    rw [← hn] at hc hg hcd ⊢
    obtain ⟨e0, he0⟩ : ∃ e0, e0 = checkP p := ⟨_, rfl⟩
    rw [← he0] at h0 hcd ⊢
    have HC := Lib.hid hcd
    have hb : (e0 == 0) = false := by simpa using h0
    have Hn := Lib.hid hn
    clear hg ha hf he0 h0 hc' hcd hn
    go_enter Try.func33, Try.ntmps33
    go_wp2_with fail
    refine (HC.out _ ((Ext.refl w).alloc _)).mono ?_
    rintro e w2 ⟨rfl, x1⟩
    go_wp2
    go_ret2
    exact ⟨rfl, ((Ext.refl w).alloc _).trans x1⟩
end Go.Proofs.Ytibcaienaejgpaa
