/- Several texts of this proof, one behind the other. -/
import Derived.Test.YtokmeomjdpfknaaGreatDoorZbA
import Derived.Test.YtokmeomjdpfknaaGreatDoorZbB
import Derived.Test.YtokmeomjdpfknaaGreatDoorShelf
import Derived.Lib.OthersKept
import Derived.Tactics
import Derived.Test.YtokmeomjdpfknaaGreatDoorZbC
import Derived.Laws.BitsAllLaws
import Derived.IntWalk
import Derived.Deep.RegionWith
import Derived.Test.YtokmeomjdpfknaaGreatDoorZbD
import Derived.LoopN
import Derived.RegionCalls
import Derived.Lib.Builder
namespace Go.Proofs.YtokmeomjdpfknaaGreatDoor
open Go.RowKit
set_option linter.unusedVariables false

def Tabs (w : World) : Prop := Lib.Utf8Tabs 2 3 w
theorem Tabs.ext {w w' : World} (h : Tabs w) (he : Ext w w') : Tabs w' := Utf8Tabs_below h he

theorem decodeL_le (l : List UInt8) (h : l ≠ []) : (Lib.decodeL l).2 ≤ l.length := by
  have hl : 0 < l.length := List.length_pos_iff.2 h
  rw [Lib.decodeL_N]
  rcases Lib.decodeN_shape l.length (l.getD 0 0).toNat (l.getD 1 0).toNat (l.getD 2 0).toNat (l.getD 3 0).toNat with ⟨c, e⟩ | ⟨c1, c2, c3, cv, e⟩ | ⟨c1, c2, c3, c4, cv, cs, e⟩ | ⟨c1, c2, c3, c4, c5, cv, cw, e⟩ | e
  all_goals
    rw [e]
    dsimp only
    omega
theorem decode_drop (s : ByteArray) (k : Nat) : Utf8.decode s k = Lib.decodeL (s.data.toList.drop k) := by
  rw [Lib.decode_N, Lib.decodeL_N, List.length_drop, Lib.getD_dropU, Lib.getD_dropU, Lib.getD_dropU, Lib.getD_dropU]
  rfl
theorem at_place (s : ByteArray) (k : Nat) (h : k < s.size) : ∃ r m : Nat, Lib.decodeL (s.data.toList.drop k) = (r, m) ∧ 1 ≤ m ∧ k + m ≤ s.size ∧ Sc (r : Int) ∧ runes (s.data.toList.drop k) = (r : Int) :: runes (s.data.toList.drop (k + m)) ∧
    Lib.validD (s.data.toList.drop k) = (if r = 65533 ∧ m = 1 then false else Lib.validD (s.data.toList.drop (k + m))) := by
  have hne : s.data.toList.drop k ≠ [] := by
    intro e
    have := congrArg List.length e
    rw [List.length_drop, ← Lib.size_eq] at this
    simp at this
    omega
  have hle := decodeL_le _ hne
  rw [List.length_drop, ← Lib.size_eq] at hle
  refine ⟨(Lib.decodeL (s.data.toList.drop k)).1, (Lib.decodeL (s.data.toList.drop k)).2, rfl, Lib.decodeL_width _, ?_, decodeL_sc _, ?_, ?_⟩
  · revert hle
    generalize (Lib.decodeL (s.data.toList.drop k)).2 = d
    intro hle
    omega
  · rw [runes_step _ hne, List.drop_drop]
  · rw [Lib.validD_step _ hne, List.drop_drop]
theorem drop_end (s : ByteArray) (k : Nat) (h : ¬ k < s.size) : s.data.toList.drop k = [] := List.drop_eq_nil_iff.2 (by rw [← Lib.size_eq]; omega)

def EncAns (l : List UInt8) (B : Nat) (v' : Value) (w' : World) : Prop :=
  (Lib.validD l = true ∧ ∃ v, v' = .tuple #[v, .int .i64 0] ∧ Own B w' 5 .u8 v (encZ l)) ∨ (Lib.validD l = false ∧ v' = .tuple #[.slice none 0 0, .int .i64 20])
def LenAns (l : List UInt8) (v' : Value) (w' : World) : Prop :=
  (Lib.validD l = true ∧ v' = .tuple #[.int .i64 (encZ l).length, .int .i64 0]) ∨ (Lib.validD l = false ∧ v' = .tuple #[.int .i64 0, .int .i64 20])

end Go.Proofs.YtokmeomjdpfknaaGreatDoor
namespace Go.Proofs.YtokmeomjdpfknaaGreatDoor
open Go.RowKit
set_option linter.unusedVariables false

def MayC (l : List Cst) (x : Cst) : Prop :=
  (x.k = 1 ∧ x.n = 0 ∧ x.a = 0 ∧ x.b = 0 ∧ x.c = 0 ∧ Lib.validD x.t.data.toList = true) ∨
  (x.k = 2 ∧ x.t.toList = [] ∧ x.a = 0 ∧ x.b = 0 ∧ x.c = 0 ∧ -2147483648 ≤ x.n ∧ x.n < 2147483648) ∨
  (x.k = 3 ∧ x.t.toList = [] ∧ x.a = 0 ∧ x.b = 0 ∧ x.c = 0) ∨
  (x.k = 4 ∧ x.t.toList = [] ∧ x.n = 0 ∧ x.b = 0 ∧ x.c = 0 ∧ isK l x.a 1 = true) ∨
  ((x.k = 5 ∨ x.k = 6) ∧ x.t.toList = [] ∧ x.n = 0 ∧ isK l x.a 4 = true ∧ isK l x.b 1 = true ∧ isK l x.c 1 = true)
instance (l : List Cst) (x : Cst) : Decidable (MayC l x) := by unfold MayC; infer_instance
def mayC (l : List Cst) (x : Cst) : Bool := decide (MayC l x)
end Go.Proofs.YtokmeomjdpfknaaGreatDoor
namespace Go.Proofs.YtokmeomjdpfknaaGreatDoor
open Go.RowKit
set_option linter.unusedVariables false

def AllMay (l : List Cst) : Prop := gc l 0 = c0 ∧ ∀ j, 1 ≤ j → j < l.length → mayC l (gc l j) = true
noncomputable def checkC (l : List Cst) : Int := if 4096 < l.length then 5 else if l = [] then 40 else @ite _ (AllMay l) (Classical.propDecidable _) 0 40
theorem checkC_big {l : List Cst} (h : 4096 < l.length) : checkC l = 5 := by unfold checkC; rw [if_pos h]
theorem checkC_nil : checkC [] = 40 := by unfold checkC; rw [if_neg (by simp), if_pos rfl]
theorem checkC_yes {l : List Cst} (h : l.length ≤ 4096) (h0 : 0 < l.length) (ha : AllMay l) : checkC l = 0 := by
  unfold checkC
  rw [if_neg (by omega), if_neg (fun e => by rw [e] at h0; simp at h0), @if_pos _ (Classical.propDecidable _) ha]
theorem checkC_no {l : List Cst} (h : l.length ≤ 4096) (ha : ¬ AllMay l) : checkC l = 40 := by
  unfold checkC
  rw [if_neg (by omega)]
  by_cases he : l = []
  · rw [if_pos he]
  · rw [if_neg he, @if_neg _ (Classical.propDecidable _) ha]
theorem zero_of {x : Cst} (h0 : x.k = 0) (h1 : x.t.toList = []) (h2 : x.n = 0) (h3 : x.a = 0) (h4 : x.b = 0) (h5 : x.c = 0) : x = c0 :=
  Cst.ext_ h0 (toList_inj (by rw [h1, ByteArray.toList_eq]; rfl)) h2 h3 h4 h5
theorem ret_i {a b : Int} (h : a = b) : Ending.returned (.int .i64 a) = .returned (.int .i64 b) := by rw [h]

end Go.Proofs.YtokmeomjdpfknaaGreatDoor
namespace Go.Proofs.YtokmeomjdpfknaaGreatDoor
open Go.RowKit
set_option linter.unusedVariables false

def Rdr (T : TypeId) (w : World) (g : Nat) (l : List Int) (e : Int) : Prop :=
  ∃ v, w.heap[g]? = some (.cells #[v, .int .i64 e] T (0, 0)) ∧ Row w .u8 v l ∧ Typed 5 w v l

theorem Rdr.lt {T : TypeId} {w : World} {g : Nat} {l : List Int} {e : Int} (h : Rdr T w g l e) : g < w.heap.size := by
  obtain ⟨v, hg, _⟩ := h
  exact lt_of_get hg
theorem Rdr.cells {T : TypeId} {w : World} {g : Nat} {l : List Int} {e : Int} (h : Rdr T w g l e) :
    ∃ A c, l.length ≤ c ∧ c ≤ maxLen ∧ Row w .u8 (.slice A l.length c) l ∧ w.heap[g]? = some (.cells #[.slice A l.length c, .int .i64 e] T (0, 0)) ∧
      w.cell? ⟨g, 0, none⟩ = some (.slice A l.length c) ∧ w.cell? ⟨g, 1, none⟩ = some (.int .i64 e) ∧ (∀ j, w.frozen? ⟨g, j, none⟩ = false) ∧ Hid (Typed 5 w (.slice A l.length c) l) := by
  obtain ⟨v, hg, hr, hy⟩ := h
  have hr' := hr
  obtain ⟨A, c, rfl, h2, h3, _⟩ := hr'
  exact ⟨A, c, h2, h3, hr, hg, by rw [cell_of_row w g 0 _ T (0, 0) hg]; rfl, by rw [cell_of_row w g 1 _ T (0, 0) hg]; rfl, fun j => by simp [World.frozen?, hg], hy⟩
def rdU (l : List Int) (e : Int) : Int × List Int × Int := if e = 0 then tU l else (0, l, e)
def rdS (l : List Int) (e : Int) : Int × List Int × Int := if e = 0 then tS 10 2 l else (0, l, e)
end Go.Proofs.YtokmeomjdpfknaaGreatDoor
namespace Go.Proofs.YtokmeomjdpfknaaGreatDoor
open Go.RowKit
set_option linter.unusedVariables false

theorem takeRow_any (v : Value) (b : List Int) (w : World) (h : Row w .u8 v b) :
    Calls Tryz.prog 280 #[v] w fun e w' => e = .returned (.tuple #[.int .i32 (rowZ b).1, .int .i64 (rowZ b).2]) ∧ w = w' := by
  have hf := h.fit
  obtain ⟨A, c, rfl, h2, h3, h4, h5, h6⟩ := h
  unfold maxLen at h3
  clear h4 h5
  obtain ⟨n, hn⟩ : ∃ n, n = b.length := ⟨_, rfl⟩
  by_cases h0 : n = 0
  · have hb : b = [] := List.eq_nil_of_length_eq_zero (by omega)
    subst hb
    clear h6 hn
    go_enter Tryz.func280, Tryz.ntmps280
    go_wp2
    go_ret2
    exact ⟨rfl, rfl⟩
  · obtain ⟨bl, o, rfl, _, hc⟩ := h6 (by omega)
    have g0 := hf.gi 0
    have hne : ¬ b = [] := fun e => by subst e; simp at hn; omega
    have hc0 : w.cell? ⟨bl, o, none⟩ = some (.int .u8 (gi b 0)) := hc 0 (by omega)
    obtain ⟨x, hx⟩ : ∃ x, x = gi b 0 := ⟨_, rfl⟩
    rw [← hx] at g0 hc0
    have HX := Lib.hid hx
    have HN := Lib.hid hn
    have HE := Lib.hid hne
    rw [← hn] at h2 ⊢
    clear hn hne hx h6
    by_cases c1 : x < 192
    · have hr : rowZ b = (x, 1) := by unfold rowZ; rw [if_neg HE.out, if_pos (by rw [← HX.out]; exact c1), ← HX.out]
      rw [hr]
      have hn1 : ¬ (n : Int) < 1 := by omega
      clear hr hc
      by_cases hc1 : c = 1
      · go_enter Tryz.func280, Tryz.ntmps280
        go_wp2
        refine wp_loop_rounds 1 ?_
        rw [rounds_succ]
        go_wp2
        go_ret2
        exact ⟨rfl, rfl⟩
      · have hc2 : ¬ (c : Int) = 1 := by omega
        go_enter Tryz.func280, Tryz.ntmps280
        go_wp2
        refine wp_loop_rounds 1 ?_
        rw [rounds_succ]
        go_wp2
        go_ret2
        exact ⟨rfl, rfl⟩
    · by_cases c2 : x < 224
      · by_cases hn2 : 2 ≤ n
        · have hr : rowZ b = ((x - 192) * 64 + gi b 1 % 64, 2) := by unfold rowZ; rw [if_neg HE.out, if_neg (by rw [← HX.out]; exact c1), if_pos (by rw [← HX.out]; exact c2), if_pos (by rw [← HN.out]; exact hn2), ← HX.out]
          rw [hr]
          have g1 := hf.gi 1
          have hc1 : w.cell? ⟨bl, o + 1, none⟩ = some (.int .u8 (gi b 1)) := hc 1 (by have := HN.out; omega)
          obtain ⟨y, hy⟩ : ∃ y, y = gi b 1 := ⟨_, rfl⟩
          rw [← hy] at g1 hc1 ⊢
          have HY := Lib.hid hy
          clear hr hc hy
          have b1 := b8_and63 y (by omega) (by omega)
          have b2 := b32_or6 (x - 192) (y % 64) (by omega) (by omega) (by omega) (by omega)
          have b3 : (x - 192) % 256 = x - 192 := by omega
          have hcc : ¬ c = 1 := by omega
          go_enter Tryz.func280, Tryz.ntmps280
          go_wp2
          refine wp_loop_rounds 2 ?_
          rw [rounds_succ]
          go_wp2
          rw [rounds_succ]
          go_wp2
          go_ret2
          exact ⟨rfl, rfl⟩
        · have hr : rowZ b = (0, 0) := by unfold rowZ; rw [if_neg HE.out, if_neg (by rw [← HX.out]; exact c1), if_pos (by rw [← HX.out]; exact c2), if_neg (by rw [← HN.out]; exact hn2)]
          rw [hr]
          clear hr hc
          go_enter Tryz.func280, Tryz.ntmps280
          go_wp2
          go_ret2
          exact ⟨rfl, rfl⟩
      · by_cases hn3 : 3 ≤ n
        · have hr : rowZ b = ((x - 224) * 4096 + gi b 1 % 64 * 64 + gi b 2 % 64, 3) := by unfold rowZ; rw [if_neg HE.out, if_neg (by rw [← HX.out]; exact c1), if_neg (by rw [← HX.out]; exact c2), if_pos (by rw [← HN.out]; exact hn3), ← HX.out]
          rw [hr]
          have g1 := hf.gi 1
          have g2 := hf.gi 2
          have hc1 : w.cell? ⟨bl, o + 1, none⟩ = some (.int .u8 (gi b 1)) := hc 1 (by have := HN.out; omega)
          have hc2 : w.cell? ⟨bl, o + 1 + 1, none⟩ = some (.int .u8 (gi b 2)) := hc 2 (by have := HN.out; omega)
          obtain ⟨y, hy⟩ : ∃ y, y = gi b 1 := ⟨_, rfl⟩
          obtain ⟨z, hz⟩ : ∃ z, z = gi b 2 := ⟨_, rfl⟩
          rw [← hy] at g1 hc1 ⊢
          rw [← hz] at g2 hc2 ⊢
          have HY := Lib.hid hy
          have HZ := Lib.hid hz
          clear hr hc hy hz
          have b1 := b8_and63 y (by omega) (by omega)
          have b1' := b8_and63 z (by omega) (by omega)
          have b2 := b32_or6 (x - 224) (y % 64) (by omega) (by omega) (by omega) (by omega)
          have b2' := b32_or6 ((x - 224) * 64 + y % 64) (z % 64) (by omega) (by omega) (by omega) (by omega)
          have b3 : (x - 224) % 256 = x - 224 := by omega
          have hcc : ¬ c = 1 := by omega
          go_enter Tryz.func280, Tryz.ntmps280
          go_wp2
          refine wp_loop_rounds 3 ?_
          rw [rounds_succ]
          go_wp2
          rw [rounds_succ]
          go_wp2
          rw [rounds_succ]
          go_wp2
          go_ret2
          exact ⟨by rw [show (x - 224) * 4096 + y % 64 * 64 + z % 64 = ((x - 32 - 192) * 64 + y % 64) * 64 + z % 64 by omega]; rfl, rfl⟩
        · have hr : rowZ b = (0, 0) := by unfold rowZ; rw [if_neg HE.out, if_neg (by rw [← HX.out]; exact c1), if_neg (by rw [← HX.out]; exact c2), if_neg (by rw [← HN.out]; exact hn3)]
          rw [hr]
          clear hr hc
          go_enter Tryz.func280, Tryz.ntmps280
          go_wp2
          go_ret2
          exact ⟨rfl, rfl⟩

end Go.Proofs.YtokmeomjdpfknaaGreatDoor
namespace Go.Proofs.YtokmeomjdpfknaaGreatDoor
open Go.RowKit
set_option linter.unusedVariables false

theorem rowZ_big {b : List Int} (hf : Fit .u8 b) (h : 55296 ≤ (rowZ b).1) : (rowZ b).2 = 3 ∧ 3 ≤ b.length := by
  have g0 := hf.gi 0
  have g1 := hf.gi 1
  unfold rowZ at h ⊢
  split at h
  · simp at h
  · split at h
    · dsimp only at h; omega
    · split at h
      · split at h
        · dsimp only at h; omega
        · simp at h
      · split at h
        · rename_i h0 h1 h2 h3
          rw [if_neg h0, if_neg h1, if_neg h2, if_pos h3]
          exact ⟨rfl, h3⟩
        · simp at h


theorem takeZ_yes {b : List Int} {p : Int} {q : Nat} (h : pairZ b = (p, q)) (h1 : Lib.validRune p = true) (h2 : b.take q = ch p) : takeZ b = (p, q) := by
  unfold takeZ
  rw [h]
  exact if_pos ⟨(validRune_eq p).1 h1, h2⟩
theorem takeZ_no {b : List Int} {p : Int} {q : Nat} (h : pairZ b = (p, q)) (h1 : ¬ (Lib.validRune p = true ∧ b.take q = ch p)) : takeZ b = (0, 0) := by
  unfold takeZ
  rw [h]
  exact if_neg fun k => h1 ⟨(validRune_eq p).2 k.1, k.2⟩
theorem room_newP (w : World) (m : Nat) (hm : m ≤ 6) : Has (some 293) w.heap.size (w.alloc (.cells #[.int .u8 0, .int .u8 0, .int .u8 0, .int .u8 0, .int .u8 0, .int .u8 0] 293)).drew (.slice (some ⟨w.heap.size, 0, none⟩) 0 6) [] (m + 0) :=
  ⟨_, 6, _, rfl, Nat.le_refl _, heap_alloc_new w _, by simpa using hm, by simp [maxLen], rfl, rfl, Fit.nil _⟩
theorem ext_room {w w2 : World} {o : Obj} (h : (w.alloc o).drew.grownBy w2 (Value.slice (some ⟨w.heap.size, 0, none⟩) 0 6).ownBlock) : Ext w w2 :=
  ((Ext.refl w).alloc o).drew.grown h (fun g hg => by simp [Value.ownBlock] at hg; omega)

set_option maxRecDepth 100000 in
set_option maxHeartbeats 8000000 in
theorem take_lo (v : Value) (b : List Int) (w : World) (h : Row w .u8 v b) (p : Int) (q : Nat) (HP : Hid (pairZ b = (p, q))) (hp : -2147483648 ≤ p ∧ p ≤ 2147483647) (hq : q ≤ b.length) (HR : Hid (rowZ b = (p, q))) (hs : p < 55296) :
    Calls Tryz.prog 262 #[v] w fun e w' => e = .returned (.tuple #[.int .i32 (takeZ b).1, .int .i64 (takeZ b).2]) ∧ Ext w w' := by
  obtain ⟨hpl, hph⟩ := hp
  by_cases hv : Lib.validRune p = true
  · have hp : 0 ≤ p ∧ p ≤ 1114111 := by have := (validRune_eq p).1 hv; exact ⟨this.lo, this.hi⟩
    obtain ⟨hp0, hp1⟩ := hp
    obtain ⟨v2, hs1, hs2, hh⟩ := head_slice h q hq
    have hsa : ∀ W, (Instr.sliceAt 293 (.pointer (some ⟨w.heap.size, 0, none⟩)) none (some (.int .i64 0)) none).run Tryz.prog W = .ok (.slice (some ⟨w.heap.size, 0, none⟩) 0 6) W := fun W => by
      rw [run_sliceAt_array_h (P := Tryz.prog) W 293 ⟨w.heap.size, 0, none⟩ (by kernel_rfl) .i64 0 (by omega) (by rw [show Tryz.prog.arrayLen 293 = 6 by kernel_rfl]; omega)]
      go_simp
    obtain ⟨eb, heb⟩ : ∃ eb, decide (b.take q = ch p) = eb := ⟨_, rfl⟩
    have HQ := Lib.hid heb
    clear heb
    have HV := Lib.hid hv
    go_enter Tryz.func262, Tryz.ntmps262
    go_wp2_with (go_at_call 280; refine (takeRow_any _ b _ h).mono ?_; rw [HR.out]; rintro e w1 ⟨rfl, rfl⟩)
    go_region_with (first
      | (go_at_call 281; refine (Tryz.utf8_ValidRune _ _).mono ?_; rw [hv]; rintro e wv ⟨rfl, rfl⟩)
      | (go_at_call 164; refine (put_anyP (some 293) _ [] 0 p w.heap.size _ (by exact room_newP w (ch p).length (ch_len p).2) (by simp) (by omega) (by omega)).mono ?_; rintro e w2 ⟨v2, rfl, ho2, hg2, _⟩; have x2 : Ext w w2 := ext_room hg2)
      | (go_at_call 87; refine (equal_any _ _ (b.take q) (ch p) _ (by exact hh.ext x2) (by exact ho2.row)).mono ?_; rw [HQ.out]; rintro e w3 ⟨rfl, rfl⟩))
    cases eb
    · have HZ := Lib.hid (takeZ_no HP.out (fun k => of_decide_eq_false HQ.out k.2))
      go_wp2
      go_ret2
      exact ⟨by rw [HZ.out]; rfl, x2⟩
    · have HZ := Lib.hid (takeZ_yes HP.out HV.out (of_decide_eq_true HQ.out))
      go_wp2
      go_ret2
      exact ⟨by rw [HZ.out]; rfl, x2⟩
  · have HZ := Lib.hid (takeZ_no HP.out (fun k => hv k.1))
    have hv : Lib.validRune p = false := by simpa using hv
    go_enter Tryz.func262, Tryz.ntmps262
    go_wp2_with (go_at_call 280; refine (takeRow_any _ b _ h).mono ?_; rw [HR.out]; rintro e w1 ⟨rfl, rfl⟩)
    go_quiet ((go_at_call 281; refine Calls.quiet_of_same (Tryz.utf8_ValidRune _ _)))
    go_wp2
    go_ret2
    exact ⟨by rw [HZ.out]; rfl, ((Ext.refl _).alloc _).drewN _⟩

set_option maxRecDepth 100000 in
set_option maxHeartbeats 8000000 in
theorem take_hi (v : Value) (b : List Int) (w : World) (h : Row w .u8 v b) (p : Int) (q : Nat) (HP : Hid (pairZ b = (p, q))) (hp : -2147483648 ≤ p ∧ p ≤ 2147483647) (hq : q ≤ b.length) (HR : Hid (rowZ b = (p, q))) (hs : 56320 ≤ p) :
    Calls Tryz.prog 262 #[v] w fun e w' => e = .returned (.tuple #[.int .i32 (takeZ b).1, .int .i64 (takeZ b).2]) ∧ Ext w w' := by
  obtain ⟨hpl, hph⟩ := hp
  by_cases hv : Lib.validRune p = true
  · have hp : 0 ≤ p ∧ p ≤ 1114111 := by have := (validRune_eq p).1 hv; exact ⟨this.lo, this.hi⟩
    obtain ⟨hp0, hp1⟩ := hp
    obtain ⟨v2, hs1, hs2, hh⟩ := head_slice h q hq
    have hsa : ∀ W, (Instr.sliceAt 293 (.pointer (some ⟨w.heap.size, 0, none⟩)) none (some (.int .i64 0)) none).run Tryz.prog W = .ok (.slice (some ⟨w.heap.size, 0, none⟩) 0 6) W := fun W => by
      rw [run_sliceAt_array_h (P := Tryz.prog) W 293 ⟨w.heap.size, 0, none⟩ (by kernel_rfl) .i64 0 (by omega) (by rw [show Tryz.prog.arrayLen 293 = 6 by kernel_rfl]; omega)]
      go_simp
    obtain ⟨eb, heb⟩ : ∃ eb, decide (b.take q = ch p) = eb := ⟨_, rfl⟩
    have HQ := Lib.hid heb
    clear heb
    have HV := Lib.hid hv
    go_enter Tryz.func262, Tryz.ntmps262
    go_wp2_with (go_at_call 280; refine (takeRow_any _ b _ h).mono ?_; rw [HR.out]; rintro e w1 ⟨rfl, rfl⟩)
    go_region_with (first
      | (go_at_call 281; refine (Tryz.utf8_ValidRune _ _).mono ?_; rw [hv]; rintro e wv ⟨rfl, rfl⟩)
      | (go_at_call 164; refine (put_anyP (some 293) _ [] 0 p w.heap.size _ (by exact room_newP w (ch p).length (ch_len p).2) (by simp) (by omega) (by omega)).mono ?_; rintro e w2 ⟨v2, rfl, ho2, hg2, _⟩; have x2 : Ext w w2 := ext_room hg2)
      | (go_at_call 87; refine (equal_any _ _ (b.take q) (ch p) _ (by exact hh.ext x2) (by exact ho2.row)).mono ?_; rw [HQ.out]; rintro e w3 ⟨rfl, rfl⟩))
    cases eb
    · have HZ := Lib.hid (takeZ_no HP.out (fun k => of_decide_eq_false HQ.out k.2))
      go_wp2
      go_ret2
      exact ⟨by rw [HZ.out]; rfl, x2⟩
    · have HZ := Lib.hid (takeZ_yes HP.out HV.out (of_decide_eq_true HQ.out))
      go_wp2
      go_ret2
      exact ⟨by rw [HZ.out]; rfl, x2⟩
  · have HZ := Lib.hid (takeZ_no HP.out (fun k => hv k.1))
    have hv : Lib.validRune p = false := by simpa using hv
    go_enter Tryz.func262, Tryz.ntmps262
    go_wp2_with (go_at_call 280; refine (takeRow_any _ b _ h).mono ?_; rw [HR.out]; rintro e w1 ⟨rfl, rfl⟩)
    go_quiet ((go_at_call 281; refine Calls.quiet_of_same (Tryz.utf8_ValidRune _ _)))
    go_wp2
    go_ret2
    exact ⟨by rw [HZ.out]; rfl, ((Ext.refl _).alloc _).drewN _⟩

set_option maxRecDepth 100000 in
set_option maxHeartbeats 8000000 in
theorem take_sur (v : Value) (b : List Int) (w : World) (h : Row w .u8 v b) (p : Int) (q : Nat) (HP : Hid (pairZ b = (p, q))) (hp : -2147483648 ≤ p ∧ p ≤ 2147483647) (hq : q ≤ b.length) (r r2 : Int) (s2 : Nat) (HR : Hid (rowZ b = (r, 3))) (HR2 : Hid (rowZ (b.drop 3) = (r2, s2))) (h0 : 55296 ≤ r) (h1 : r < 56320) (h20 : 0 ≤ r2) (h21 : r2 ≤ 131071) (hs2 : s2 ≤ 3) (h3 : 3 ≤ b.length) (hpe : 65536 + (r - 55296) * 1024 + (r2 - 56320) = p) (hqe : (3 : Int) + (s2 : Int) = (q : Int)) :
    Calls Tryz.prog 262 #[v] w fun e w' => e = .returned (.tuple #[.int .i32 (takeZ b).1, .int .i64 (takeZ b).2]) ∧ Ext w w' := by
  obtain ⟨hpl, hph⟩ := hp
  obtain ⟨v3, ht1, ht2, ht⟩ := tail_slice h 3 h3
  simp only [show ((3 : Nat) : Int) = 3 from rfl] at ht1 ht2
  by_cases hv : Lib.validRune p = true
  · have hp : 0 ≤ p ∧ p ≤ 1114111 := by have := (validRune_eq p).1 hv; exact ⟨this.lo, this.hi⟩
    obtain ⟨hp0, hp1⟩ := hp
    obtain ⟨v2, hs1, hs2, hh⟩ := head_slice h q hq
    have hsa : ∀ W, (Instr.sliceAt 293 (.pointer (some ⟨w.heap.size, 0, none⟩)) none (some (.int .i64 0)) none).run Tryz.prog W = .ok (.slice (some ⟨w.heap.size, 0, none⟩) 0 6) W := fun W => by
      rw [run_sliceAt_array_h (P := Tryz.prog) W 293 ⟨w.heap.size, 0, none⟩ (by kernel_rfl) .i64 0 (by omega) (by rw [show Tryz.prog.arrayLen 293 = 6 by kernel_rfl]; omega)]
      go_simp
    obtain ⟨eb, heb⟩ : ∃ eb, decide (b.take q = ch p) = eb := ⟨_, rfl⟩
    have HQ := Lib.hid heb
    clear heb
    have HV := Lib.hid hv
    go_enter Tryz.func262, Tryz.ntmps262
    go_wp2_with fail
    refine (takeRow_any _ b _ h).mono ?_
    rw [HR.out]
    rintro e w1 ⟨rfl, rfl⟩
    go_wp2_with fail
    refine (takeRow_any _ (b.drop 3) _ ht).mono ?_
    rw [HR2.out]
    rintro e w1 ⟨rfl, rfl⟩
    go_wp2
    go_region_with (first
      | (go_at_call 281; refine (Tryz.utf8_ValidRune _ _).mono ?_; rw [hv]; rintro e wv ⟨rfl, rfl⟩)
      | (go_at_call 164; refine (put_anyP (some 293) _ [] 0 p w.heap.size _ (by exact room_newP w (ch p).length (ch_len p).2) (by simp) (by omega) (by omega)).mono ?_; rintro e w2 ⟨v2, rfl, ho2, hg2, _⟩; have x2 : Ext w w2 := ext_room hg2)
      | (go_at_call 87; refine (equal_any _ _ (b.take q) (ch p) _ (by exact hh.ext x2) (by exact ho2.row)).mono ?_; rw [HQ.out]; rintro e w3 ⟨rfl, rfl⟩))
    cases eb
    · have HZ := Lib.hid (takeZ_no HP.out (fun k => of_decide_eq_false HQ.out k.2))
      go_wp2
      go_ret2
      exact ⟨by rw [HZ.out]; rfl, x2⟩
    · have HZ := Lib.hid (takeZ_yes HP.out HV.out (of_decide_eq_true HQ.out))
      go_wp2
      go_ret2
      exact ⟨by rw [HZ.out]; rfl, x2⟩
  · have HZ := Lib.hid (takeZ_no HP.out (fun k => hv k.1))
    have hv : Lib.validRune p = false := by simpa using hv
    go_enter Tryz.func262, Tryz.ntmps262
    go_wp2_with fail
    refine (takeRow_any _ b _ h).mono ?_
    rw [HR.out]
    rintro e w1 ⟨rfl, rfl⟩
    go_wp2_with fail
    refine (takeRow_any _ (b.drop 3) _ ht).mono ?_
    rw [HR2.out]
    rintro e w1 ⟨rfl, rfl⟩
    go_wp2
    go_quiet ((go_at_call 281; refine Calls.quiet_of_same (Tryz.utf8_ValidRune _ _)))
    go_wp2
    go_ret2
    exact ⟨by rw [HZ.out]; rfl, ((Ext.refl _).alloc _).drewN _⟩

theorem take_any (v : Value) (b : List Int) (w : World) (h : Row w .u8 v b) :
    Calls Tryz.prog 262 #[v] w fun e w' => e = .returned (.tuple #[.int .i32 (nextZ b).1, .int .i64 (nextZ b).2]) ∧ Ext w w' := by
  have hf := h.fit
  rw [← takeZ_eq hf]
  have hb := rowZ_bound hf
  have hrow : rowZ b = ((rowZ b).1, (rowZ b).2) := rfl
  by_cases hs : 55296 ≤ (rowZ b).1 ∧ (rowZ b).1 < 56320
  · obtain ⟨e3, h3⟩ := rowZ_big hf hs.1
    have hb2 := rowZ_bound (hf.drop 3)
    have hp := pairZ_two hs
    rw [e3] at hp hrow
    rw [List.length_drop] at hb2
    exact take_sur v b w h _ (3 + (rowZ (b.drop 3)).2) (Lib.hid hp) (by omega) (by omega) (rowZ b).1 (rowZ (b.drop 3)).1 (rowZ (b.drop 3)).2 (Lib.hid hrow) (Lib.hid rfl) hs.1 hs.2 hb2.1 hb2.2.1 hb2.2.2.1 h3 rfl (by omega)
  · have hp := pairZ_one hs
    by_cases hl : (rowZ b).1 < 55296
    · exact take_lo v b w h _ _ (Lib.hid (hp.trans hrow)) (by omega) hb.2.2.2 (Lib.hid hrow) hl
    · exact take_hi v b w h _ _ (Lib.hid (hp.trans hrow)) (by omega) hb.2.2.2 (Lib.hid hrow) (by omega)
end Go.Proofs.YtokmeomjdpfknaaGreatDoor
namespace Go.Proofs.YtokmeomjdpfknaaGreatDoor
open Go.RowKit
set_option linter.unusedVariables false

def BldP (B b : Nat) (l : List UInt8) (w : World) : Prop := Lib.IsBuilder 100 5 B b (Lib.byteCells l) w
theorem bld_extP {B b : Nat} {l : List UInt8} {w w' : World} (h : BldP B b l w) (he : Ext w w') : BldP B b l w' := by
  have key : ∀ p, Lib.BuilderAt 100 5 B b p (Lib.byteCells l) w → Lib.BuilderAt 100 5 B b p (Lib.byteCells l) w' := by
    rintro p ⟨hB, v, hb, hown, hne⟩
    refine ⟨hB, v, (he.block b (lt_of_get hb)).trans hb, ⟨hown.1, ?_⟩, hne⟩
    rcases hown.2 with h2 | ⟨g, cap, cur, hv, hbg, hg, hr⟩
    · exact .inl h2
    · exact .inr ⟨g, cap, cur, hv, hbg, (he.block g (lt_of_get hg)).trans hg, hr⟩
  exact h.elim (fun x => .inl (key _ x)) (fun x => .inr (key _ x))
theorem sizeBldP : ∃ j, Tryz.prog.info? 100 = some j ∧ j.size = 2 := by
  have h : (Tryz.prog.info? 100).map (·.size) = some 2 := by kernel_rfl
  obtain ⟨j, hj, hs⟩ := Option.map_eq_some_iff.1 h
  exact ⟨j, hj, hs⟩
theorem liesBldP : liesAt Tryz.prog Tryz.prog.depth 100 (2 / Tryz.prog.cellsOf 100) 0 100 1 = true := by kernel_rfl
set_option maxRecDepth 100000 in
set_option maxHeartbeats 1000000 in
theorem copyCheck_freshP (b : Nat) (w : World) (h0 : w.cell? ⟨b, 0, none⟩ = some (.pointer none)) (hsh : w.shape? b = some (100, 2)) (hf : w.frozen? ⟨b, 0, none⟩ = false) :
    Calls Tryz.prog 110 #[.pointer (some ⟨b, 0, none⟩)] w fun e w' => e = .returned (.tuple #[]) ∧ w' = w.setCell ⟨b, 0, none⟩ (.pointer (some ⟨b, 0, none⟩)) := by
  obtain ⟨j, hj, hjs⟩ := sizeBldP
  go_enter Tryz.func110, Tryz.ntmps110
  go_wp2
  rw [Lib.run_to_unsafe w ⟨b, 0, none⟩ Tryz.underlying98 Tryz.underlying194 hj (by rw [hjs]; decide) hsh (Nat.zero_lt_succ 1)]
  simp only [Result.andThen]
  rw [Oper.upon_value]
  go_wp2
  rw [run_callFunc_extern Tryz.func158 (by kernel_rfl) (by kernel_rfl) (by kernel_rfl) (e := Extern.AbiNoEscape.same) (by kernel_rfl)]
  rw [Lib.run_noEscape]
  simp only [Result.andThen]
  rw [Oper.upon_value]
  go_wp2
  rw [Lib.run_from_unsafe w ⟨b, 0, none⟩ Tryz.underlying194 Tryz.underlying98 hj hsh liesBldP]
  simp only [Result.andThen]
  rw [Oper.upon_value]
  go_wp2
  go_end0
  exact ⟨rfl, rfl⟩
set_option maxRecDepth 100000 in
theorem copyCheck_usedP (b : Nat) (w : World) (h0 : w.cell? ⟨b, 0, none⟩ = some (.pointer (some ⟨b, 0, none⟩))) :
    Calls Tryz.prog 110 #[.pointer (some ⟨b, 0, none⟩)] w fun e w' => e = .returned (.tuple #[]) ∧ w' = w := by
  obtain ⟨j, hj, hjs⟩ := sizeBldP
  go_enter Tryz.func110, Tryz.ntmps110
  go_wp2
  rw [Lib.run_neq_ptr_same w _ Tryz.underlying98 hj]
  go_wp2
  go_end0
  exact ⟨rfl, rfl⟩
theorem copyCheck_anyP (B b : Nat) (l : List UInt8) (w : World) (h : BldP B b l w) :
    Calls Tryz.prog 110 #[.pointer (some ⟨b, 0, none⟩)] w fun e w' => e = .returned (.tuple #[]) ∧ (Lib.BuilderAt 100 5 B b (.pointer (some ⟨b, 0, none⟩)) (Lib.byteCells l) w' ∧ Below B w w') := by
  rcases h with h | h
  · refine (copyCheck_freshP b w h.cell0 h.shape h.frozen0).mono ?_
    rintro e w' ⟨rfl, rfl⟩
    exact ⟨rfl, h.used _, (Below.refl B w).setCell (p := ⟨b, 0, none⟩) h.1 _⟩
  · refine (copyCheck_usedP b w h.cell0).mono ?_
    rintro e w' ⟨rfl, rfl⟩
    exact ⟨rfl, h, Below.refl B _⟩

set_option maxRecDepth 100000 in
set_option maxHeartbeats 2000000 in
theorem WriteRune_any (B b : Nat) (l : List UInt8) (r : Int) (w : World) (h : BldP B b l w) (hr0 : 0 ≤ r) (hr1 : r ≤ 1114111) (hl : l.length + 4 ≤ 140737488355328) (hB : B ≤ w.heap.size) :
    Calls Tryz.prog 263 #[.pointer (some ⟨b, 0, none⟩), .int .i32 r] w fun e w' => (∃ n, e = .returned (.tuple #[.int .i64 n, .nilIface])) ∧ BldP B b (l ++ Lib.encodeRune r) w' ∧ Below B w w' := by
  have hlc : (Lib.byteCells l).length = l.length := Lib.byteCells_length l
  have hk4 := Lib.runeCells_le r
  obtain ⟨C, hC⟩ : ∃ C, C = Lib.byteCells l := ⟨_, rfl⟩
  have c := copyCheck_anyP B b l w h
  rw [← hC] at c hlc
  have HC := Lib.hid hC
  clear hC h
  have HL := Lib.hid hlc
  clear hlc
  go_enter Tryz.func263, Tryz.ntmps263
  go_wp2_with fail
  refine c.mono ?_
  rintro e w1 ⟨rfl, ⟨hBb, v, hbk, hown, hne⟩, hb1⟩
  obtain ⟨ao, cap, rfl⟩ : ∃ ao cap, v = .slice ao C.length cap := by
    rcases hown.2 with ⟨hv, h0⟩ | ⟨g, cap, cur, hv, _⟩
    · exact ⟨none, 0, by rw [hv, h0]⟩
    · exact ⟨_, _, hv⟩
  have c0 : w1.cell? ⟨b, 0, none⟩ = some (.pointer (some ⟨b, 0, none⟩)) := by rw [Lib.cell_of_heap hbk]; rfl
  have c1 : w1.cell? ⟨b, 1, none⟩ = some (.slice ao C.length cap) := by rw [Lib.cell_of_heap hbk]; rfl
  have hB1 : B ≤ w1.heap.size := Nat.le_trans hB hb1.size
  go_wp2_with fail
  refine (Tryz.utf8_AppendRune_plain B _ C.length C r (by omega) (by omega) _ hown (by have := HL.out; omega) hB1).mono ?_
  rintro e w2 ⟨v', rfl, hown', o, hgrow⟩
  have hlt : b < w1.heap.size := lt_of_get hbk
  have hb2 : w2.heap[b]? = some (.cells #[.pointer (some ⟨b, 0, none⟩), .slice ao C.length cap] 100 (0, 0)) := by
    rw [hgrow.block b (by simp; omega) (fun e => hne e.symm), Lib.alloc_old w1 _ b hlt]
    exact hbk
  have d0 : w2.cell? ⟨b, 0, none⟩ = some (.pointer (some ⟨b, 0, none⟩)) := by rw [Lib.cell_of_heap hb2]; rfl
  have d1 : w2.cell? ⟨b, 1, none⟩ = some (.slice ao C.length cap) := by rw [Lib.cell_of_heap hb2]; rfl
  have f1 : w2.frozen? ⟨b, 1, none⟩ = false := Lib.frozen_of_heap hb2 1
  obtain ⟨g, cap', rfl⟩ : ∃ g cap', v' = .slice (some ⟨g, 0, none⟩) (C.length + (Lib.runeCells r).length) cap' := by
    rcases hown'.2 with ⟨_, h0⟩ | ⟨g, cap', cur, hv, _⟩
    · omega
    · exact ⟨g, cap', hv⟩
  go_wp2
  go_ret2
  refine ⟨⟨_, rfl⟩, ?_, ?_⟩
  · refine .inr ?_
    have e : Lib.byteCells (l ++ Lib.encodeRune r) = C ++ Lib.runeCells r := by rw [Lib.byteCells_append, ← HC.out, Lib.byteCells_encodeRune]
    rw [e]
    exact Lib.BuilderAt.put hBb hb2 (by simpa using hown') (by decide)
  · exact ((hb1.alloc hB1 o).grown hgrow (by have := hb1.size; simp; omega) (fun k hk => (World.ownsRow.lt hown k hk).1)).setCell (p := ⟨b, 1, none⟩) hBb _
end Go.Proofs.YtokmeomjdpfknaaGreatDoor
