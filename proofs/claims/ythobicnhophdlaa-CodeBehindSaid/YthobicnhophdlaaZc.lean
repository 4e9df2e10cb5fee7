/- Several texts of this proof, one behind the other. -/
import Derived.Test.YthobicnhophdlaaZa
import Derived.Test.YthobicnhophdlaaOpsV
/- Whether a constant is one of some kinds; whether an instruction fits: the project's words and the document's, walked. -/
namespace Go.Proofs.Ythobicnhophdlaa
open Go.RowKit
set_option linter.unusedVariables false

theorem ret_bool {a b : Bool} (h : a = b) : Ending.returned (.bool a) = .returned (.bool b) := by rw [h]
set_option maxRecDepth 100000 in
set_option maxHeartbeats 4000000 in
theorem indexInt_any (v : Value) (s : List Int) (x : Int) (w : World) (h : Row w .i64 v s) :
    Calls Try.prog 58 #[v, .int .i64 x] w fun e w' => e = .returned (.int .i64 (idxP (fun t => decide (x = t)) s 0)) ∧ w = w' := by
  have H := Lib.hid h
  obtain ⟨A, c, rfl, hc, hm, -, -, hcell⟩ := h
  unfold maxLen at hm
  obtain ⟨n, hn⟩ : ∃ n, n = s.length := ⟨_, rfl⟩
  rw [← hn] at hc H hcell ⊢
  have Hn := Lib.hid hn
  obtain ⟨R, hR⟩ : ∃ R, idxP (fun t => decide (x = t)) s 0 = R := ⟨_, rfl⟩
  have HR := Lib.hid hR
  rw [hR]
  clear hn hR
  go_enter Try.func58, Try.ntmps58
  go_wp2
  go_loopw [8] (fun i wr => ∃ (k : Nat), i = .int .i64 k ∧ k ≤ n ∧ Hid (R = idxP (fun t => decide (x = t)) (s.drop k) k) ∧ w = wr) (fun i _ => n - (intOf i).toNat)
  case atStart => exact ⟨0, rfl, by omega, Lib.hid HR.out.symm, rfl⟩
  case round =>
    obtain ⟨k, rfl, hk, HP, rfl⟩ := hrel
    by_cases hlt : k < n
    · obtain ⟨b, o, rfl, hb, hx⟩ := hcell (by omega)
      have y0 := hx k hlt
      have hget := gi_get (l := s) (k := k) (by have := Hn.out; omega)
      obtain ⟨t, ht⟩ : ∃ t, gi s k = t := ⟨_, rfl⟩
      rw [ht] at y0 hget
      by_cases he : x = t
      · have hb : (x == t) = true := by simp [he]
        have HE := Lib.hid (HP.out.trans (idxP_here hget (decide_eq_true he)))
        clear hx hcell ht hget he
        go_wp2
        go_ret
        exact ⟨by rw [HE.out]; rfl, rfl⟩
      · have hb : (x == t) = false := by simp [he]
        have HE := Lib.hid (HP.out.trans (idxP_next hget (decide_eq_false he)))
        clear hx hcell ht hget he
        go_wp2_with fail
        go_roundw
        case rel => exact ⟨k + 1, by go_num, by omega, HE, trivial⟩
        case measure => simp [intOf]; omega
    · have HE := Lib.hid (show R = -1 by rw [HP.out, List.drop_of_length_le (by have := Hn.out; omega)]; rfl)
      go_wp2
      go_ret
      exact ⟨by rw [HE.out]; rfl, rfl⟩
set_option maxRecDepth 100000 in
theorem containsInt_any (v : Value) (s : List Int) (x : Int) (w : World) (h : Row w .i64 v s) :
    Calls Try.prog 50 #[v, .int .i64 x] w fun e w' => e = .returned (.bool (s.any fun t => decide (x = t))) ∧ w = w' := by
  have HI := Lib.hid (indexInt_any v s x w h)
  rw [← idxP_any (p := fun t => decide (x = t)) (l := s) (k := 0)]
  obtain ⟨A, c, rfl, -⟩ := h
  obtain ⟨R, hR⟩ : ∃ R, idxP (fun t => decide (x = t)) s 0 = R := ⟨_, rfl⟩
  rw [hR] at HI ⊢
  clear hR
  go_enter Try.func50, Try.ntmps50
  go_wp2_with fail
  refine HI.out.mono ?_
  rintro e w1 ⟨rfl, rfl⟩
  go_wp2
  go_ret
  exact ⟨rfl, rfl⟩
/-- Is that the place of a constant of one of some kinds? -/
def isKs (pool : List Cst) (n : Int) (ks : List Int) : Bool := decide (0 < n) && (decide (n < pool.length) && ks.any fun t => decide ((gc pool n.toNat).k = t))
theorem isKs_two (pool : List Cst) (n a b : Int) : isKs pool n [a, b] = isKZ pool n a b := by simp [isKs, isKZ]
theorem isKs_one (pool : List Cst) (n a : Int) : isKs pool n [a] = isKZ pool n a a := by simp [isKs, isKZ]
set_option maxRecDepth 100000 in
set_option maxHeartbeats 4000000 in
theorem isConst_any (v : Value) (pool : List Cst) (n : Int) (vk : Value) (ks : List Int) (w : World) (h : ShC.Row w v pool) (hk : Row w .i64 vk ks) :
    Calls Try.prog 34 #[v, .int .i64 n, vk] w fun e w' => e = .returned (.bool (isKs pool n ks)) ∧ w = w' := by
  have H := Lib.hid h
  have HC := Lib.hid (fun x => containsInt_any vk ks x w hk)
  obtain ⟨A, c, rfl, hc, hm, -⟩ := h.cut
  obtain ⟨A2, c2, rfl, -⟩ := hk
  unfold maxLen at hm
  obtain ⟨q, hq⟩ : ∃ q, q = pool.length := ⟨_, rfl⟩
  rw [← hq] at hc H ⊢
  have Hq := Lib.hid hq
  by_cases h0 : 0 < n
  · by_cases h1 : n < q
    · obtain ⟨j, rfl⟩ : ∃ j : Nat, n = j := ⟨n.toNat, by omega⟩
      have hj : j < q := by omega
      obtain ⟨bb, o, rfl, hat⟩ := rowC_at H.out (by omega)
      obtain ⟨y0, -⟩ := hat w (Ext.refl w) j (by omega)
      obtain ⟨k, hk⟩ : ∃ k, (gc pool j).k = k := ⟨_, rfl⟩
      rw [hk] at y0
      have hz : isKs pool j ks = ks.any fun t => decide (k = t) := by
        unfold isKs
        rw [decide_eq_true h0, decide_eq_true (show (j : Int) < pool.length by omega), Int.toNat_natCast, hk]
        simp
      rw [hz]
      have hck := HC.out k
      obtain ⟨r, hr⟩ : ∃ r, (ks.any fun t => decide (k = t)) = r := ⟨_, rfl⟩
      rw [hr] at hck ⊢
      have HK := Lib.hid hck
      clear hz hk hat h hq hck hr
      go_enter Try.func34, Try.ntmps34
      go_wp2_with fail
      refine HK.out.mono ?_
      rintro e w1 ⟨rfl, rfl⟩
      go_wp2
      go_ret
      exact ⟨rfl, rfl⟩
    · rw [show isKs pool n ks = false by unfold isKs; rw [decide_eq_false (show ¬ n < pool.length by omega)]; simp]
      clear hq h
      go_enter Try.func34, Try.ntmps34
      go_wp2
      go_ret
      exact ⟨rfl, rfl⟩
  · rw [show isKs pool n ks = false by unfold isKs; rw [decide_eq_false h0]; simp]
    clear hq h
    go_enter Try.func34, Try.ntmps34
    go_wp2
    go_ret
    exact ⟨rfl, rfl⟩
end Go.Proofs.Ythobicnhophdlaa
/- Whether an instruction fits: the document's fits, the project's localFits and constFits, walked, case by case. (gen_codel.py) -/
namespace Go.Proofs.Ythobicnhophdlaa
open Go.RowKit
set_option linter.unusedVariables false

/-- What an instruction's number asks of a list: nothing, a local, two, a constant. -/
def opcase (o : Int) : Prop := (o = 6 ∨ o = 9) ∨ (o = 5 ∨ o = 7 ∨ o = 8 ∨ o = 10 ∨ o = 11) ∨ o = 3 ∨ (o = 61 ∨ o = 62 ∨ o = 63 ∨ o = 64) ∨ (o = 65 ∨ o = 68 ∨ o = 76 ∨ o = 77) ∨ (o = 79 ∨ o = 80 ∨ o = 81 ∨ o = 82) ∨
  ((o < 5 ∧ o ≠ 3) ∨ (11 < o ∧ o < 61) ∨ (64 < o ∧ o < 79 ∧ o ≠ 65 ∧ o ≠ 68 ∧ o ≠ 76 ∧ o ≠ 77) ∨ 82 < o)
theorem opcase_all (o : Int) : opcase o := by unfold opcase; omega
theorem fitZ_more {lo : Int} {pool : List Cst} {x : In} (h : x.o = 6 ∨ x.o = 9) : fitZ lo pool x = decide (x.n + 1 < lo) := by unfold fitZ; rw [if_pos h]
theorem fitZ_one {lo : Int} {pool : List Cst} {x : In} (h : x.o = 5 ∨ x.o = 7 ∨ x.o = 8 ∨ x.o = 10 ∨ x.o = 11) : fitZ lo pool x = decide (x.n < lo) := by unfold fitZ; rw [if_neg (by omega), if_pos (by omega)]
theorem fitZ_ldc {lo : Int} {pool : List Cst} {x : In} (h : x.o = 3) : fitZ lo pool x = isKZ pool x.n 2 3 := by unfold fitZ; rw [if_neg (by omega), if_neg (by omega), if_pos h]
theorem fitZ_fld {lo : Int} {pool : List Cst} {x : In} (h : x.o = 61 ∨ x.o = 62 ∨ x.o = 63 ∨ x.o = 64) : fitZ lo pool x = isKZ pool x.n 5 5 := by unfold fitZ; rw [if_neg (by omega), if_neg (by omega), if_neg (by omega), if_pos (by omega)]
theorem fitZ_cls {lo : Int} {pool : List Cst} {x : In} (h : x.o = 65 ∨ x.o = 68 ∨ x.o = 76 ∨ x.o = 77) : fitZ lo pool x = isKZ pool x.n 4 4 := by unfold fitZ; rw [if_neg (by omega), if_neg (by omega), if_neg (by omega), if_neg (by omega), if_pos h]
theorem fitZ_mth {lo : Int} {pool : List Cst} {x : In} (h : x.o = 79 ∨ x.o = 80 ∨ x.o = 81 ∨ x.o = 82) : fitZ lo pool x = isKZ pool x.n 6 6 := by unfold fitZ; rw [if_neg (by omega), if_neg (by omega), if_neg (by omega), if_neg (by omega), if_neg (by omega), if_pos (by omega)]
theorem fitZ_any {lo : Int} {pool : List Cst} {x : In} (h : (x.o < 5 ∧ x.o ≠ 3) ∨ (11 < x.o ∧ x.o < 61) ∨ (64 < x.o ∧ x.o < 79 ∧ x.o ≠ 65 ∧ x.o ≠ 68 ∧ x.o ≠ 76 ∧ x.o ≠ 77) ∨ 82 < x.o) : fitZ lo pool x = true := by
  unfold fitZ; rw [if_neg (by omega), if_neg (by omega), if_neg (by omega), if_neg (by omega), if_neg (by omega), if_neg (by omega)]
theorem local_n {x : In} (h : mayI x = true) (ho : x.o = 6 ∨ x.o = 9) : 0 ≤ x.n ∧ x.n ≤ 255 := by
  obtain ⟨-, -, hf, -⟩ := may_parts h
  unfold fieldsOk at hf
  simp only [Bool.and_eq_true] at hf
  have hz : shapeZ x.o = 1 := by unfold shapeZ; rw [if_pos (by omega)]
  have h1 := hf.1.1.1
  rw [hz] at h1
  simpa using h1
/-- The project's words. -/
def lfitZ (lo : Int) (x : In) : Bool := if x.o = 6 ∨ x.o = 9 then decide (x.n + 1 < lo) else if 5 ≤ x.o ∧ x.o ≤ 11 then decide (x.n < lo) else true
def cfitZ (pool : List Cst) (x : In) : Bool := if x.o = 3 then isKZ pool x.n 2 3 else if 61 ≤ x.o ∧ x.o ≤ 64 then isKZ pool x.n 5 5 else if x.o = 65 ∨ x.o = 68 ∨ x.o = 76 ∨ x.o = 77 then isKZ pool x.n 4 4
  else if 79 ≤ x.o ∧ x.o ≤ 82 then isKZ pool x.n 6 6 else true
theorem lfitZ_more {lo : Int} {x : In} (h : x.o = 6 ∨ x.o = 9) : lfitZ lo x = decide (x.n + 1 < lo) := by unfold lfitZ; rw [if_pos h]
theorem lfitZ_one {lo : Int} {x : In} (h : x.o = 5 ∨ x.o = 7 ∨ x.o = 8 ∨ x.o = 10 ∨ x.o = 11) : lfitZ lo x = decide (x.n < lo) := by unfold lfitZ; rw [if_neg (by omega), if_pos (by omega)]
theorem lfitZ_any {lo : Int} {x : In} (h : x.o < 5 ∨ 11 < x.o) : lfitZ lo x = true := by unfold lfitZ; rw [if_neg (by omega), if_neg (by omega)]
theorem cfitZ_ldc {pool : List Cst} {x : In} (h : x.o = 3) : cfitZ pool x = isKZ pool x.n 2 3 := by unfold cfitZ; rw [if_pos h]
theorem cfitZ_fld {pool : List Cst} {x : In} (h : x.o = 61 ∨ x.o = 62 ∨ x.o = 63 ∨ x.o = 64) : cfitZ pool x = isKZ pool x.n 5 5 := by unfold cfitZ; rw [if_neg (by omega), if_pos (by omega)]
theorem cfitZ_cls {pool : List Cst} {x : In} (h : x.o = 65 ∨ x.o = 68 ∨ x.o = 76 ∨ x.o = 77) : cfitZ pool x = isKZ pool x.n 4 4 := by unfold cfitZ; rw [if_neg (by omega), if_neg (by omega), if_pos h]
theorem cfitZ_mth {pool : List Cst} {x : In} (h : x.o = 79 ∨ x.o = 80 ∨ x.o = 81 ∨ x.o = 82) : cfitZ pool x = isKZ pool x.n 6 6 := by unfold cfitZ; rw [if_neg (by omega), if_neg (by omega), if_neg (by omega), if_pos (by omega)]
theorem cfitZ_any {pool : List Cst} {x : In} (h : x.o ≠ 3 ∧ ¬ (61 ≤ x.o ∧ x.o ≤ 64) ∧ x.o ≠ 65 ∧ x.o ≠ 68 ∧ x.o ≠ 76 ∧ x.o ≠ 77 ∧ ¬ (79 ≤ x.o ∧ x.o ≤ 82)) : cfitZ pool x = true := by
  unfold cfitZ; rw [if_neg (by omega), if_neg (by omega), if_neg (by omega), if_neg (by omega)]
theorem row_lit1 (w : World) (X : Obj) (T : TypeId) (a : Int) (ha : (Lit.int .i64 a).wf = true) : Row ((w.alloc X).alloc (.cells #[.int .i64 a] T)) .i64 (.slice (some ⟨w.heap.size + 1, 0, none⟩) 1 1) [a] := by
  have h := Row.built (w.alloc X) .i64 T [a] (fun y hy => by rw [List.mem_singleton.1 hy]; exact ha) (by simp)
  rwa [show (w.alloc X).heap.size = w.heap.size + 1 by simp] at h
theorem row_lit2 (w : World) (X : Obj) (T : TypeId) (a b : Int) (ha : (Lit.int .i64 a).wf = true) (hb : (Lit.int .i64 b).wf = true) : Row ((w.alloc X).alloc (.cells #[.int .i64 a, .int .i64 b] T)) .i64 (.slice (some ⟨w.heap.size + 1, 0, none⟩) 2 2) [a, b] := by
  have h := Row.built (w.alloc X) .i64 T [a, b] (fun y hy => by rcases List.mem_cons.1 hy with rfl | hy; exact ha; rw [List.mem_singleton.1 hy]; exact hb) (by simp)
  rwa [show (w.alloc X).heap.size = w.heap.size + 1 by simp] at h
theorem fitZ_both (lo : Int) (pool : List Cst) (x : In) : fitZ lo pool x = (lfitZ lo x && cfitZ pool x) := by
  rcases opcase_all x.o with h | h | h | h | h | h | h
  · rw [fitZ_more h, lfitZ_more h, cfitZ_any (by omega), Bool.and_true]
  · rw [fitZ_one h, lfitZ_one h, cfitZ_any (by omega), Bool.and_true]
  · rw [fitZ_ldc h, lfitZ_any (by omega), cfitZ_ldc h, Bool.true_and]
  · rw [fitZ_fld h, lfitZ_any (by omega), cfitZ_fld h, Bool.true_and]
  · rw [fitZ_cls h, lfitZ_any (by omega), cfitZ_cls h, Bool.true_and]
  · rw [fitZ_mth h, lfitZ_any (by omega), cfitZ_mth h, Bool.true_and]
  · rw [fitZ_any h, lfitZ_any (by omega), cfitZ_any (by omega), Bool.true_and]
end Go.Proofs.Ythobicnhophdlaa
/- Whether an instruction fits: the project's localFits, walked, case by case. (gen_codel.py) -/
namespace Go.Proofs.Ythobicnhophdlaa
open Go.RowKit
set_option linter.unusedVariables false
set_option maxRecDepth 100000 in
set_option maxHeartbeats 8000000 in
theorem localFits_any (x : In) (v1 v2 : Value) (lo : Int) (w : World) (h1 : Row w .i64 v1 x.to) (h2 : Row w .i64 v2 x.ks) (hm : mayI x = true) :
    Calls Try.prog 31 #[.agg (x.vals v1 v2), .int .i64 lo] w fun e w' => e = .returned (.bool (lfitZ lo x)) ∧ Ext w w' := by
  obtain ⟨a, o, n, m, tt, ks⟩ := x
  obtain ⟨A1, k1, rfl, -⟩ := h1
  obtain ⟨A2, k2, rfl, -⟩ := h2
  simp only at *
  unfold In.vals
  simp only
  rcases opcase_all o with H0 | H1 | H2 | H3 | H4 | H5 | HG
  · rw [lfitZ_more (x := ⟨a, o, n, m, tt, ks⟩) H0]
    have hn := local_n (x := ⟨a, o, n, m, tt, ks⟩) hm H0
    have hw : IntKind.i64.wrap (n + 1) = n + 1 := by rw [IntKind.wrap_i64]; simp only at hn; omega
    clear hm
    rcases H0 with rfl | rfl
    all_goals
      go_enter Try.func31, Try.ntmps31
      go_wp2
      go_ret
      exact ⟨rfl, (Ext.refl w).alloc _⟩
  · rw [lfitZ_one (x := ⟨a, o, n, m, tt, ks⟩) H1]
    clear hm
    rcases H1 with rfl | rfl | rfl | rfl | rfl
    all_goals
      go_enter Try.func31, Try.ntmps31
      go_wp2
      go_ret
      exact ⟨rfl, (Ext.refl w).alloc _⟩
  · rw [lfitZ_any (x := ⟨a, o, n, m, tt, ks⟩) (by simp only; omega)]
    clear hm
    subst H2
    all_goals
      go_enter Try.func31, Try.ntmps31
      go_wp2
      go_ret
      exact ⟨rfl, (Ext.refl w).alloc _⟩
  · rw [lfitZ_any (x := ⟨a, o, n, m, tt, ks⟩) (by simp only; omega)]
    clear hm
    rcases H3 with rfl | rfl | rfl | rfl
    all_goals
      go_enter Try.func31, Try.ntmps31
      go_wp2
      go_ret
      exact ⟨rfl, (Ext.refl w).alloc _⟩
  · rw [lfitZ_any (x := ⟨a, o, n, m, tt, ks⟩) (by simp only; omega)]
    clear hm
    rcases H4 with rfl | rfl | rfl | rfl
    all_goals
      go_enter Try.func31, Try.ntmps31
      go_wp2
      go_ret
      exact ⟨rfl, (Ext.refl w).alloc _⟩
  · rw [lfitZ_any (x := ⟨a, o, n, m, tt, ks⟩) (by simp only; omega)]
    clear hm
    rcases H5 with rfl | rfl | rfl | rfl
    all_goals
      go_enter Try.func31, Try.ntmps31
      go_wp2
      go_ret
      exact ⟨rfl, (Ext.refl w).alloc _⟩
  · rw [lfitZ_any (x := ⟨a, o, n, m, tt, ks⟩) (by simp only; omega)]
    clear hm
    have e5 : (o == 5) = false := by simp; omega
    have e7 : (o == 7) = false := by simp; omega
    have e8 : (o == 8) = false := by simp; omega
    have e10 : (o == 10) = false := by simp; omega
    have e11 : (o == 11) = false := by simp; omega
    have e6 : (o == 6) = false := by simp; omega
    have e9 : (o == 9) = false := by simp; omega
    clear HG
    go_enter Try.func31, Try.ntmps31
    go_wp2
    go_ret
    exact ⟨rfl, (Ext.refl w).alloc _⟩
end Go.Proofs.Ythobicnhophdlaa
/- Whether an instruction fits: the project's constFits, walked, case by case. (gen_codel.py) -/
namespace Go.Proofs.Ythobicnhophdlaa
open Go.RowKit
set_option linter.unusedVariables false
set_option maxRecDepth 100000 in
set_option maxHeartbeats 8000000 in
theorem constFits_any (x : In) (v1 v2 : Value) (vp : Value) (pool : List Cst) (w : World) (h1 : Row w .i64 v1 x.to) (h2 : Row w .i64 v2 x.ks) (hp : ShC.Row w vp pool) (hm : mayI x = true) :
    Calls Try.prog 32 #[.agg (x.vals v1 v2), vp] w fun e w' => e = .returned (.bool (cfitZ pool x)) ∧ Ext w w' := by
  obtain ⟨a, o, n, m, tt, ks⟩ := x
  obtain ⟨A1, k1, rfl, -⟩ := h1
  obtain ⟨A2, k2, rfl, -⟩ := h2
  obtain ⟨Ap, cp, rfl, -⟩ := hp.cut
  have HC := Lib.hid (fun vk l W (e : Ext w W) (hk : Row W .i64 vk l) => isConst_any _ pool n vk l W (hp.ext e) hk)
  simp only at *
  unfold In.vals
  simp only
  clear hp
  rcases opcase_all o with H0 | H1 | H2 | H3 | H4 | H5 | HG
  · rw [cfitZ_any (x := ⟨a, o, n, m, tt, ks⟩) (by simp only; omega)]
    clear hm
    rcases H0 with rfl | rfl
    all_goals
      go_enter Try.func32, Try.ntmps32
      go_wp2
      go_ret
      exact ⟨rfl, (Ext.refl w).alloc _⟩
  · rw [cfitZ_any (x := ⟨a, o, n, m, tt, ks⟩) (by simp only; omega)]
    clear hm
    rcases H1 with rfl | rfl | rfl | rfl | rfl
    all_goals
      go_enter Try.func32, Try.ntmps32
      go_wp2
      go_ret
      exact ⟨rfl, (Ext.refl w).alloc _⟩
  · rw [cfitZ_ldc (x := ⟨a, o, n, m, tt, ks⟩) H2]
    clear hm
    subst H2
    all_goals
      have HK := Lib.hid (fun vk W (e : Ext w W) hk => HC.out vk [2, 3] W e hk)
      rw [isKs_two] at HK
      go_enter Try.func32, Try.ntmps32
      go_wp2_with fail
      refine (HK.out (.slice (some ⟨w.heap.size + 1, 0, none⟩) 2 2) _ (((Ext.refl w).alloc _).alloc _) (row_lit2 w _ _ 2 3 (by decide) (by decide))).mono ?_
      rintro e w1 ⟨rfl, rfl⟩
      go_wp2
      go_ret
      exact ⟨rfl, ((Ext.refl w).alloc _).alloc _⟩
  · rw [cfitZ_fld (x := ⟨a, o, n, m, tt, ks⟩) H3]
    clear hm
    rcases H3 with rfl | rfl | rfl | rfl
    all_goals
      have HK := Lib.hid (fun vk W (e : Ext w W) hk => HC.out vk [5] W e hk)
      rw [isKs_one] at HK
      go_enter Try.func32, Try.ntmps32
      go_wp2_with fail
      refine (HK.out (.slice (some ⟨w.heap.size + 1, 0, none⟩) 1 1) _ (((Ext.refl w).alloc _).alloc _) (row_lit1 w _ _ 5 (by decide))).mono ?_
      rintro e w1 ⟨rfl, rfl⟩
      go_wp2
      go_ret
      exact ⟨rfl, ((Ext.refl w).alloc _).alloc _⟩
  · rw [cfitZ_cls (x := ⟨a, o, n, m, tt, ks⟩) H4]
    clear hm
    rcases H4 with rfl | rfl | rfl | rfl
    all_goals
      have HK := Lib.hid (fun vk W (e : Ext w W) hk => HC.out vk [4] W e hk)
      rw [isKs_one] at HK
      go_enter Try.func32, Try.ntmps32
      go_wp2_with fail
      refine (HK.out (.slice (some ⟨w.heap.size + 1, 0, none⟩) 1 1) _ (((Ext.refl w).alloc _).alloc _) (row_lit1 w _ _ 4 (by decide))).mono ?_
      rintro e w1 ⟨rfl, rfl⟩
      go_wp2
      go_ret
      exact ⟨rfl, ((Ext.refl w).alloc _).alloc _⟩
  · rw [cfitZ_mth (x := ⟨a, o, n, m, tt, ks⟩) H5]
    clear hm
    rcases H5 with rfl | rfl | rfl | rfl
    all_goals
      have HK := Lib.hid (fun vk W (e : Ext w W) hk => HC.out vk [6] W e hk)
      rw [isKs_one] at HK
      go_enter Try.func32, Try.ntmps32
      go_wp2_with fail
      refine (HK.out (.slice (some ⟨w.heap.size + 1, 0, none⟩) 1 1) _ (((Ext.refl w).alloc _).alloc _) (row_lit1 w _ _ 6 (by decide))).mono ?_
      rintro e w1 ⟨rfl, rfl⟩
      go_wp2
      go_ret
      exact ⟨rfl, ((Ext.refl w).alloc _).alloc _⟩
  · rw [cfitZ_any (x := ⟨a, o, n, m, tt, ks⟩) (by simp only; omega)]
    clear hm
    have e3 : (o == 3) = false := by simp; omega
    have e61 : (o == 61) = false := by simp; omega
    have e62 : (o == 62) = false := by simp; omega
    have e63 : (o == 63) = false := by simp; omega
    have e64 : (o == 64) = false := by simp; omega
    have e65 : (o == 65) = false := by simp; omega
    have e68 : (o == 68) = false := by simp; omega
    have e76 : (o == 76) = false := by simp; omega
    have e77 : (o == 77) = false := by simp; omega
    have e79 : (o == 79) = false := by simp; omega
    have e80 : (o == 80) = false := by simp; omega
    have e81 : (o == 81) = false := by simp; omega
    have e82 : (o == 82) = false := by simp; omega
    clear HG
    go_enter Try.func32, Try.ntmps32
    go_wp2
    go_ret
    exact ⟨rfl, (Ext.refl w).alloc _⟩
end Go.Proofs.Ythobicnhophdlaa
/- Whether an instruction fits: the document's fits, walked, case by case. (gen_codel.py) -/
namespace Go.Proofs.Ythobicnhophdlaa
open Go.RowKit
set_option linter.unusedVariables false
end Go.Proofs.Ythobicnhophdlaa
