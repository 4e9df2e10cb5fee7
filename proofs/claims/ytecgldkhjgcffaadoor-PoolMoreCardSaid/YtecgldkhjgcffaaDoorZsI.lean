/- Several texts of this proof, one behind the other. -/
import Derived.Test.YtecgldkhjgcffaaDoorZsH
import Derived.RegionCalls
/- Package text: a character off the beginning of bytes, and how many bytes it has. -/
namespace Go.Proofs.YtecgldkhjgcffaaDoor
open Go.RowKit
set_option linter.unusedVariables false

theorem rowZ_big {b : List Int} (hf : Fit .u8 b) (h : 55296 ≤ (rowZ b).1) : (rowZ b).2 = 3 ∧ 3 ≤ b.length := by
  have g0 := hf.gi 0
  have g1 := hf.gi 1
  unfold rowZ at h ⊢
  split at h
  · simp at h
  · split at h
    · dsimp only at h; omega
    · split at h
      · split at h
        · dsimp only at h; omega
        · simp at h
      · split at h
        · rename_i h0 h1 h2 h3
          rw [if_neg h0, if_neg h1, if_neg h2, if_pos h3]
          exact ⟨rfl, h3⟩
        · simp at h


theorem takeZ_yes {b : List Int} {p : Int} {q : Nat} (h : pairZ b = (p, q)) (h1 : Lib.validRune p = true) (h2 : b.take q = ch p) : takeZ b = (p, q) := by
  unfold takeZ
  rw [h]
  exact if_pos ⟨(validRune_eq p).1 h1, h2⟩
theorem takeZ_no {b : List Int} {p : Int} {q : Nat} (h : pairZ b = (p, q)) (h1 : ¬ (Lib.validRune p = true ∧ b.take q = ch p)) : takeZ b = (0, 0) := by
  unfold takeZ
  rw [h]
  exact if_neg fun k => h1 ⟨(validRune_eq p).2 k.1, k.2⟩
theorem room_new (w : World) (m : Nat) (hm : m ≤ 6) : Has (some 129) w.heap.size (w.alloc (.cells #[.int .u8 0, .int .u8 0, .int .u8 0, .int .u8 0, .int .u8 0, .int .u8 0] 129)).drew (.slice (some ⟨w.heap.size, 0, none⟩) 0 6) [] (m + 0) :=
  ⟨_, 6, _, rfl, Nat.le_refl _, heap_alloc_new w _, by simpa using hm, by simp [maxLen], rfl, rfl, Fit.nil _⟩
theorem ext_room {w w2 : World} {o : Obj} (h : (w.alloc o).drew.grownBy w2 (Value.slice (some ⟨w.heap.size, 0, none⟩) 0 6).ownBlock) : Ext w w2 :=
  ((Ext.refl w).alloc o).drew.grown h (fun g hg => by simp [Value.ownBlock] at hg; omega)

set_option maxRecDepth 100000 in
set_option maxHeartbeats 8000000 in
theorem take_lo (v : Value) (b : List Int) (w : World) (h : Row w .u8 v b) (p : Int) (q : Nat) (HP : Hid (pairZ b = (p, q))) (hp : -2147483648 ≤ p ∧ p ≤ 2147483647) (hq : q ≤ b.length) (HR : Hid (rowZ b = (p, q))) (hs : p < 55296) :
    Calls Tryd.prog 88 #[v] w fun e w' => e = .returned (.tuple #[.int .i32 (takeZ b).1, .int .i64 (takeZ b).2]) ∧ Ext w w' := by
  obtain ⟨hpl, hph⟩ := hp
  by_cases hv : Lib.validRune p = true
  · have hp : 0 ≤ p ∧ p ≤ 1114111 := by have := (validRune_eq p).1 hv; exact ⟨this.lo, this.hi⟩
    obtain ⟨hp0, hp1⟩ := hp
    obtain ⟨v2, hs1, hs2, hh⟩ := head_slice h q hq
    have hsa : ∀ W, (Instr.sliceAt 129 (.pointer (some ⟨w.heap.size, 0, none⟩)) none (some (.int .i64 0)) none).run Tryd.prog W = .ok (.slice (some ⟨w.heap.size, 0, none⟩) 0 6) W := fun W => by
      rw [run_sliceAt_array_h (P := Tryd.prog) W 129 ⟨w.heap.size, 0, none⟩ (by kernel_rfl) .i64 0 (by omega) (by rw [show Tryd.prog.arrayLen 129 = 6 by kernel_rfl]; omega)]
      go_simp
    obtain ⟨eb, heb⟩ : ∃ eb, decide (b.take q = ch p) = eb := ⟨_, rfl⟩
    have HQ := Lib.hid heb
    clear heb
    have HV := Lib.hid hv
    go_enter Tryd.func88, Tryd.ntmps88
    go_wp2_with (go_at_call 104; refine (takeRow_any _ b _ h).mono ?_; rw [HR.out]; rintro e w1 ⟨rfl, rfl⟩)
    go_region_with (first
      | (go_at_call 105; refine (Tryd.utf8_ValidRune _ _).mono ?_; rw [hv]; rintro e wv ⟨rfl, rfl⟩)
      | (go_at_call 79; refine (put_any (some 129) _ [] 0 p w.heap.size _ (by exact room_new w (ch p).length (ch_len p).2) (by simp) (by omega) (by omega)).mono ?_; rintro e w2 ⟨v2, rfl, ho2, hg2, _⟩; have x2 : Ext w w2 := ext_room hg2)
      | (go_at_call 93; refine (equal_any _ _ (b.take q) (ch p) _ (by exact hh.ext x2) (by exact ho2.row)).mono ?_; rw [HQ.out]; rintro e w3 ⟨rfl, rfl⟩))
    cases eb
    · have HZ := Lib.hid (takeZ_no HP.out (fun k => of_decide_eq_false HQ.out k.2))
      go_wp2
      go_ret2
      exact ⟨by rw [HZ.out]; rfl, x2⟩
    · have HZ := Lib.hid (takeZ_yes HP.out HV.out (of_decide_eq_true HQ.out))
      go_wp2
      go_ret2
      exact ⟨by rw [HZ.out]; rfl, x2⟩
  · have HZ := Lib.hid (takeZ_no HP.out (fun k => hv k.1))
    have hv : Lib.validRune p = false := by simpa using hv
    go_enter Tryd.func88, Tryd.ntmps88
    go_wp2_with (go_at_call 104; refine (takeRow_any _ b _ h).mono ?_; rw [HR.out]; rintro e w1 ⟨rfl, rfl⟩)
    go_quiet ((go_at_call 105; refine Calls.quiet_of_same (Tryd.utf8_ValidRune _ _)))
    go_wp2
    go_ret2
    exact ⟨by rw [HZ.out]; rfl, ((Ext.refl _).alloc _).drewN _⟩

set_option maxRecDepth 100000 in
set_option maxHeartbeats 8000000 in
theorem take_hi (v : Value) (b : List Int) (w : World) (h : Row w .u8 v b) (p : Int) (q : Nat) (HP : Hid (pairZ b = (p, q))) (hp : -2147483648 ≤ p ∧ p ≤ 2147483647) (hq : q ≤ b.length) (HR : Hid (rowZ b = (p, q))) (hs : 56320 ≤ p) :
    Calls Tryd.prog 88 #[v] w fun e w' => e = .returned (.tuple #[.int .i32 (takeZ b).1, .int .i64 (takeZ b).2]) ∧ Ext w w' := by
  obtain ⟨hpl, hph⟩ := hp
  by_cases hv : Lib.validRune p = true
  · have hp : 0 ≤ p ∧ p ≤ 1114111 := by have := (validRune_eq p).1 hv; exact ⟨this.lo, this.hi⟩
    obtain ⟨hp0, hp1⟩ := hp
    obtain ⟨v2, hs1, hs2, hh⟩ := head_slice h q hq
    have hsa : ∀ W, (Instr.sliceAt 129 (.pointer (some ⟨w.heap.size, 0, none⟩)) none (some (.int .i64 0)) none).run Tryd.prog W = .ok (.slice (some ⟨w.heap.size, 0, none⟩) 0 6) W := fun W => by
      rw [run_sliceAt_array_h (P := Tryd.prog) W 129 ⟨w.heap.size, 0, none⟩ (by kernel_rfl) .i64 0 (by omega) (by rw [show Tryd.prog.arrayLen 129 = 6 by kernel_rfl]; omega)]
      go_simp
    obtain ⟨eb, heb⟩ : ∃ eb, decide (b.take q = ch p) = eb := ⟨_, rfl⟩
    have HQ := Lib.hid heb
    clear heb
    have HV := Lib.hid hv
    go_enter Tryd.func88, Tryd.ntmps88
    go_wp2_with (go_at_call 104; refine (takeRow_any _ b _ h).mono ?_; rw [HR.out]; rintro e w1 ⟨rfl, rfl⟩)
    go_region_with (first
      | (go_at_call 105; refine (Tryd.utf8_ValidRune _ _).mono ?_; rw [hv]; rintro e wv ⟨rfl, rfl⟩)
      | (go_at_call 79; refine (put_any (some 129) _ [] 0 p w.heap.size _ (by exact room_new w (ch p).length (ch_len p).2) (by simp) (by omega) (by omega)).mono ?_; rintro e w2 ⟨v2, rfl, ho2, hg2, _⟩; have x2 : Ext w w2 := ext_room hg2)
      | (go_at_call 93; refine (equal_any _ _ (b.take q) (ch p) _ (by exact hh.ext x2) (by exact ho2.row)).mono ?_; rw [HQ.out]; rintro e w3 ⟨rfl, rfl⟩))
    cases eb
    · have HZ := Lib.hid (takeZ_no HP.out (fun k => of_decide_eq_false HQ.out k.2))
      go_wp2
      go_ret2
      exact ⟨by rw [HZ.out]; rfl, x2⟩
    · have HZ := Lib.hid (takeZ_yes HP.out HV.out (of_decide_eq_true HQ.out))
      go_wp2
      go_ret2
      exact ⟨by rw [HZ.out]; rfl, x2⟩
  · have HZ := Lib.hid (takeZ_no HP.out (fun k => hv k.1))
    have hv : Lib.validRune p = false := by simpa using hv
    go_enter Tryd.func88, Tryd.ntmps88
    go_wp2_with (go_at_call 104; refine (takeRow_any _ b _ h).mono ?_; rw [HR.out]; rintro e w1 ⟨rfl, rfl⟩)
    go_quiet ((go_at_call 105; refine Calls.quiet_of_same (Tryd.utf8_ValidRune _ _)))
    go_wp2
    go_ret2
    exact ⟨by rw [HZ.out]; rfl, ((Ext.refl _).alloc _).drewN _⟩

set_option maxRecDepth 100000 in
set_option maxHeartbeats 8000000 in
theorem take_sur (v : Value) (b : List Int) (w : World) (h : Row w .u8 v b) (p : Int) (q : Nat) (HP : Hid (pairZ b = (p, q))) (hp : -2147483648 ≤ p ∧ p ≤ 2147483647) (hq : q ≤ b.length) (r r2 : Int) (s2 : Nat) (HR : Hid (rowZ b = (r, 3))) (HR2 : Hid (rowZ (b.drop 3) = (r2, s2))) (h0 : 55296 ≤ r) (h1 : r < 56320) (h20 : 0 ≤ r2) (h21 : r2 ≤ 131071) (hs2 : s2 ≤ 3) (h3 : 3 ≤ b.length) (hpe : 65536 + (r - 55296) * 1024 + (r2 - 56320) = p) (hqe : (3 : Int) + (s2 : Int) = (q : Int)) :
    Calls Tryd.prog 88 #[v] w fun e w' => e = .returned (.tuple #[.int .i32 (takeZ b).1, .int .i64 (takeZ b).2]) ∧ Ext w w' := by
  obtain ⟨hpl, hph⟩ := hp
  obtain ⟨v3, ht1, ht2, ht⟩ := tail_slice h 3 h3
  simp only [show ((3 : Nat) : Int) = 3 from rfl] at ht1 ht2
  by_cases hv : Lib.validRune p = true
  · have hp : 0 ≤ p ∧ p ≤ 1114111 := by have := (validRune_eq p).1 hv; exact ⟨this.lo, this.hi⟩
    obtain ⟨hp0, hp1⟩ := hp
    obtain ⟨v2, hs1, hs2, hh⟩ := head_slice h q hq
    have hsa : ∀ W, (Instr.sliceAt 129 (.pointer (some ⟨w.heap.size, 0, none⟩)) none (some (.int .i64 0)) none).run Tryd.prog W = .ok (.slice (some ⟨w.heap.size, 0, none⟩) 0 6) W := fun W => by
      rw [run_sliceAt_array_h (P := Tryd.prog) W 129 ⟨w.heap.size, 0, none⟩ (by kernel_rfl) .i64 0 (by omega) (by rw [show Tryd.prog.arrayLen 129 = 6 by kernel_rfl]; omega)]
      go_simp
    obtain ⟨eb, heb⟩ : ∃ eb, decide (b.take q = ch p) = eb := ⟨_, rfl⟩
    have HQ := Lib.hid heb
    clear heb
    have HV := Lib.hid hv
    go_enter Tryd.func88, Tryd.ntmps88
    go_wp2_with fail
    refine (takeRow_any _ b _ h).mono ?_
    rw [HR.out]
    rintro e w1 ⟨rfl, rfl⟩
    go_wp2_with fail
    refine (takeRow_any _ (b.drop 3) _ ht).mono ?_
    rw [HR2.out]
    rintro e w1 ⟨rfl, rfl⟩
    go_wp2
    go_region_with (first
      | (go_at_call 105; refine (Tryd.utf8_ValidRune _ _).mono ?_; rw [hv]; rintro e wv ⟨rfl, rfl⟩)
      | (go_at_call 79; refine (put_any (some 129) _ [] 0 p w.heap.size _ (by exact room_new w (ch p).length (ch_len p).2) (by simp) (by omega) (by omega)).mono ?_; rintro e w2 ⟨v2, rfl, ho2, hg2, _⟩; have x2 : Ext w w2 := ext_room hg2)
      | (go_at_call 93; refine (equal_any _ _ (b.take q) (ch p) _ (by exact hh.ext x2) (by exact ho2.row)).mono ?_; rw [HQ.out]; rintro e w3 ⟨rfl, rfl⟩))
    cases eb
    · have HZ := Lib.hid (takeZ_no HP.out (fun k => of_decide_eq_false HQ.out k.2))
      go_wp2
      go_ret2
      exact ⟨by rw [HZ.out]; rfl, x2⟩
    · have HZ := Lib.hid (takeZ_yes HP.out HV.out (of_decide_eq_true HQ.out))
      go_wp2
      go_ret2
      exact ⟨by rw [HZ.out]; rfl, x2⟩
  · have HZ := Lib.hid (takeZ_no HP.out (fun k => hv k.1))
    have hv : Lib.validRune p = false := by simpa using hv
    go_enter Tryd.func88, Tryd.ntmps88
    go_wp2_with fail
    refine (takeRow_any _ b _ h).mono ?_
    rw [HR.out]
    rintro e w1 ⟨rfl, rfl⟩
    go_wp2_with fail
    refine (takeRow_any _ (b.drop 3) _ ht).mono ?_
    rw [HR2.out]
    rintro e w1 ⟨rfl, rfl⟩
    go_wp2
    go_quiet ((go_at_call 105; refine Calls.quiet_of_same (Tryd.utf8_ValidRune _ _)))
    go_wp2
    go_ret2
    exact ⟨by rw [HZ.out]; rfl, ((Ext.refl _).alloc _).drewN _⟩

theorem take_any (v : Value) (b : List Int) (w : World) (h : Row w .u8 v b) :
    Calls Tryd.prog 88 #[v] w fun e w' => e = .returned (.tuple #[.int .i32 (nextZ b).1, .int .i64 (nextZ b).2]) ∧ Ext w w' := by
  have hf := h.fit
  rw [← takeZ_eq hf]
  have hb := rowZ_bound hf
  have hrow : rowZ b = ((rowZ b).1, (rowZ b).2) := rfl
  by_cases hs : 55296 ≤ (rowZ b).1 ∧ (rowZ b).1 < 56320
  · obtain ⟨e3, h3⟩ := rowZ_big hf hs.1
    have hb2 := rowZ_bound (hf.drop 3)
    have hp := pairZ_two hs
    rw [e3] at hp hrow
    rw [List.length_drop] at hb2
    exact take_sur v b w h _ (3 + (rowZ (b.drop 3)).2) (Lib.hid hp) (by omega) (by omega) (rowZ b).1 (rowZ (b.drop 3)).1 (rowZ (b.drop 3)).2 (Lib.hid hrow) (Lib.hid rfl) hs.1 hs.2 hb2.1 hb2.2.1 hb2.2.2.1 h3 rfl (by omega)
  · have hp := pairZ_one hs
    by_cases hl : (rowZ b).1 < 55296
    · exact take_lo v b w h _ _ (Lib.hid (hp.trans hrow)) (by omega) hb.2.2.2 (Lib.hid hrow) hl
    · exact take_hi v b w h _ _ (Lib.hid (hp.trans hrow)) (by omega) hb.2.2.2 (Lib.hid hrow) (by omega)
end Go.Proofs.YtecgldkhjgcffaaDoor
