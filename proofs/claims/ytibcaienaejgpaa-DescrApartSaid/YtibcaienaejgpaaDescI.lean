/- The document's own take, walked: where a class's name stands. -/
import Derived.Test.YtibcaienaejgpaaDescH
import Derived.Laws.DeepStrings4
namespace Go.Proofs.Ytibcaienaejgpaa
open Go.RowKit
set_option linter.unusedVariables false

theorem semi_ne : ∀ {r : List UInt8} {k : Nat}, k < semi r → ∃ h : k < r.length, r[k] ≠ 59 := by
  intro r
  induction r with
  | nil => intro k h; simp [semi] at h
  | cons c r ih =>
    intro k h
    rw [semi] at h
    by_cases hc : c = 59
    · rw [if_pos hc] at h
      omega
    · rw [if_neg hc] at h
      match k with
      | 0 => exact ⟨by simp, hc⟩
      | k + 1 =>
        obtain ⟨h1, h2⟩ := ih (k := k) (by omega)
        exact ⟨by simpa using h1, by simpa using h2⟩
theorem semi_eq : ∀ {r : List UInt8} (h : semi r < r.length), r[semi r] = 59 := by
  intro r h
  have e := semi_at h
  have e2 : r[semi r]? = some 59 := by
    rw [e]
    have e3 : (r.take (semi r)).length = semi r := by simp; omega
    have e4 := List.getElem?_append_right (l₁ := r.take (semi r)) (l₂ := 59 :: r.drop (semi r + 1)) (i := semi r) (by omega)
    rw [← e] at e4 ⊢
    rw [e4, e3]
    simp
  rw [List.getElem?_eq_getElem h] at e2
  injection e2
theorem run_cut {l x n y : List UInt8} {i j : Int} (hl : l = x ++ n ++ y) (hi : i = x.length) (hj : j = (x ++ n).length) (W : World) :
    (Instr.slice 9 (.string (bs l)) (some (.int .i64 i)) (some (.int .i64 j)) none).run Try.prog W = .ok (.string (bs n)) W := by
  have hs : (bs l).size = l.length := rfl
  subst hi hj
  have h1 : l.length = x.length + n.length + y.length := by rw [hl]; simp; omega
  have h2 : (x ++ n).length = x.length + n.length := by simp
  rw [run_slice_string_if _ _ _ _ _ _ _ Try.underlying9, if_pos ⟨by omega, by omega⟩, if_pos ⟨by omega, by omega⟩]
  congr 2
  apply ByteArray.ext
  simp only [Int.toNat_natCast]
  subst hl
  simp [bs, ByteArray.data_extract]

set_option maxHeartbeats 1500000 in
theorem take_L_ok (r : List UInt8) (hr : r.length ≤ 140737488351232) (hm : semi r < r.length) (hn : nameB (r.take (semi r)) = true) (w : World) : Calls Try.prog 45 #[.string (bs (76 :: r))] w (TakeAns (76 :: r) w) := by
  obtain ⟨nm, hnm⟩ : ∃ nm, nm = r.take (semi r) := ⟨_, rfl⟩
  obtain ⟨m, hmm⟩ : ∃ m, m = semi r := ⟨_, rfl⟩
  have hle : m ≤ r.length := by rw [hmm]; exact semi_le r
  have hlen : nm.length = m := by rw [hnm, hmm, List.length_take]; omega
  have ht : takeT (76 :: r) = (⟨3, nm⟩, m + 2) := by
    rw [takeT, if_neg (by decide), takeA, if_neg (by decide), if_neg (by decide), if_pos rfl]
    rw [if_pos ⟨hm, hn⟩, hnm, hmm]
  unfold TakeAns
  rw [ht]
  have hcut : ∀ W, (Instr.slice 9 (.string (bs (76 :: r))) (some (.int .i64 1)) (some (.int .i64 ((m : Int) + 1))) none).run Try.prog W = .ok (.string (bs nm)) W :=
    fun W => run_cut (x := [76]) (n := nm) (y := r.drop m) (by rw [hnm, hmm]; simp) (by simp) (by simp; omega) W
  have hsz : (bs (76 :: r)).size = r.length + 1 := rfl
  have i0 : ∀ W, (Instr.index 9 (.string (bs (76 :: r))) (.int .i64 0)).run Try.prog W = .ok (.int .u8 76) W := fun W => run_bs (k := 0) (by simp) rfl W
  have hat : ∀ k, k ≤ m → ∃ c : UInt8, ((k < m → c ≠ 59) ∧ (k = m → c = 59)) ∧ ∀ W, (Instr.index 9 (.string (bs (76 :: r))) (.int .i64 ((k : Int) + 1))).run Try.prog W = .ok (.int .u8 c.toNat) W := by
    intro k hk
    refine ⟨r[k]'(by omega), ⟨fun h => ?_, fun h => ?_⟩, fun W => ?_⟩
    · obtain ⟨_, h2⟩ := semi_ne (r := r) (k := k) (by omega)
      exact h2
    · subst h
      subst hmm
      exact semi_eq hm
    · have := run_bs (l := 76 :: r) (k := k + 1) (by simp; omega) rfl W
      simpa using this
  have hc := fun W => refCheckType_any ⟨3, nm⟩ W (by simp only; omega)
  unfold Ty.vals at hc
  have HC := Lib.hid hc
  have HN := Lib.hid (show checkT ⟨3, nm⟩ = 0 from checkT_yes (by rw [hnm]; unfold okT; simpa using hn))
  have hm2 : m < r.length := by omega
  have HAt := Lib.hid hat
  clear hc hnm hmm ht hn hlen hat hm hle
  go_enter Try.func45, Try.ntmps45
  go_wp2
  go_loopw [7] (fun i wr => ∃ k : Nat, k ≤ m ∧ i = .int .i64 ((k : Int) + 1) ∧ wr = ((w.alloc (.cells #[.int .i64 0, .string ⟨#[]⟩] 23)).alloc (.cells #[.int .i64 3, .string ⟨#[]⟩] 23))) (fun i _ => m + 1 - (intOf i).toNat)
  case atStart => exact ⟨0, by omega, rfl, rfl⟩
  case round =>
    obtain ⟨k, hk, rfl, rfl⟩ := hrel
    obtain ⟨c, ⟨hc1, hc2⟩, hix⟩ := HAt.out k hk
    by_cases hlt : k < m
    · have HC1 := hc1 hlt
      clear hc1 hc2
      have hne : ((c.toNat : Int) != 59) = true := by
        have := HC1
        simp only [bne_iff_ne, ne_eq]
        intro e
        exact this (UInt8.toNat_inj.1 (by have : (59 : UInt8).toNat = 59 := rfl; omega))
      clear HC1
      go_wp2
      exact ⟨⟨k + 1, by omega, by go_num, trivial⟩, by simp [intOf]; omega⟩
    · obtain rfl : k = m := by omega
      obtain rfl := hc2 rfl
      clear hc1 hc2
      go_wp2_with fail
      refine (HC.out _).mono ?_
      rw [HN.out]
      rintro e w1 ⟨rfl, x1⟩
      obtain ⟨k1, k2, ks, X⟩ := two_ext x1
      obtain ⟨y0, y1⟩ := AtT.of (t := t0) (by exact k1)
      obtain ⟨z0, z1⟩ := AtT.of (t := ⟨3, nm⟩) (by exact k2)
      have fz1 : ∀ j, w1.frozen? ⟨w.heap.size, j, none⟩ = false := fun j => by simp [World.frozen?, k1]
      have fz2 : ∀ j, w1.frozen? ⟨w.heap.size + 1, j, none⟩ = false := fun j => by simp [World.frozen?, k2]
      have X := Lib.hid X
      simp only [t0] at y0 y1
      simp only at z0 z1
      clear k1 k2 x1
      go_wp2
      refine bodyPost_ret (v := .tuple #[.agg (Ty.vals ⟨3, nm⟩), .int .i64 (k + 2)]) (by unfold Ty.vals; simp [results, Try.results45, go_sem, y0, y1]; try omega) rfl ⟨rfl, ?_⟩
      first | exact Ext.set_ (Ext.set_ X.out (Nat.le_refl _) _) (Nat.le_refl _) _ | exact X.out

set_option maxHeartbeats 1500000 in
theorem take_L_bad (r : List UInt8) (hr : r.length ≤ 140737488351232) (hm : semi r < r.length) (hn : nameB (r.take (semi r)) = false) (w : World) : Calls Try.prog 45 #[.string (bs (76 :: r))] w (TakeAns (76 :: r) w) := by
  obtain ⟨nm, hnm⟩ : ∃ nm, nm = r.take (semi r) := ⟨_, rfl⟩
  obtain ⟨m, hmm⟩ : ∃ m, m = semi r := ⟨_, rfl⟩
  have hle : m ≤ r.length := by rw [hmm]; exact semi_le r
  have hlen : nm.length = m := by rw [hnm, hmm, List.length_take]; omega
  have ht : takeT (76 :: r) = (t0, 0) := by
    rw [takeT, if_neg (by decide), takeA, if_neg (by decide), if_neg (by decide), if_pos rfl]
    rw [if_neg (fun h => by rw [hn] at h; exact absurd h.2 (by decide))]
  unfold TakeAns
  rw [ht]
  have hcut : ∀ W, (Instr.slice 9 (.string (bs (76 :: r))) (some (.int .i64 1)) (some (.int .i64 ((m : Int) + 1))) none).run Try.prog W = .ok (.string (bs nm)) W :=
    fun W => run_cut (x := [76]) (n := nm) (y := r.drop m) (by rw [hnm, hmm]; simp) (by simp) (by simp; omega) W
  have hsz : (bs (76 :: r)).size = r.length + 1 := rfl
  have i0 : ∀ W, (Instr.index 9 (.string (bs (76 :: r))) (.int .i64 0)).run Try.prog W = .ok (.int .u8 76) W := fun W => run_bs (k := 0) (by simp) rfl W
  have hat : ∀ k, k ≤ m → ∃ c : UInt8, ((k < m → c ≠ 59) ∧ (k = m → c = 59)) ∧ ∀ W, (Instr.index 9 (.string (bs (76 :: r))) (.int .i64 ((k : Int) + 1))).run Try.prog W = .ok (.int .u8 c.toNat) W := by
    intro k hk
    refine ⟨r[k]'(by omega), ⟨fun h => ?_, fun h => ?_⟩, fun W => ?_⟩
    · obtain ⟨_, h2⟩ := semi_ne (r := r) (k := k) (by omega)
      exact h2
    · subst h
      subst hmm
      exact semi_eq hm
    · have := run_bs (l := 76 :: r) (k := k + 1) (by simp; omega) rfl W
      simpa using this
  have hc := fun W => refCheckType_any ⟨3, nm⟩ W (by simp only; omega)
  unfold Ty.vals at hc
  have HC := Lib.hid hc
  have HN := Lib.hid (show checkT ⟨3, nm⟩ = 2 from checkT_no (by rw [hnm]; unfold okT; simpa using hn))
  have hm2 : m < r.length := by omega
  have HAt := Lib.hid hat
  clear hc hnm hmm ht hn hlen hat hm hle
  go_enter Try.func45, Try.ntmps45
  go_wp2
  go_loopw [7] (fun i wr => ∃ k : Nat, k ≤ m ∧ i = .int .i64 ((k : Int) + 1) ∧ wr = ((w.alloc (.cells #[.int .i64 0, .string ⟨#[]⟩] 23)).alloc (.cells #[.int .i64 3, .string ⟨#[]⟩] 23))) (fun i _ => m + 1 - (intOf i).toNat)
  case atStart => exact ⟨0, by omega, rfl, rfl⟩
  case round =>
    obtain ⟨k, hk, rfl, rfl⟩ := hrel
    obtain ⟨c, ⟨hc1, hc2⟩, hix⟩ := HAt.out k hk
    by_cases hlt : k < m
    · have HC1 := hc1 hlt
      clear hc1 hc2
      have hne : ((c.toNat : Int) != 59) = true := by
        have := HC1
        simp only [bne_iff_ne, ne_eq]
        intro e
        exact this (UInt8.toNat_inj.1 (by have : (59 : UInt8).toNat = 59 := rfl; omega))
      clear HC1
      go_wp2
      exact ⟨⟨k + 1, by omega, by go_num, trivial⟩, by simp [intOf]; omega⟩
    · obtain rfl : k = m := by omega
      obtain rfl := hc2 rfl
      clear hc1 hc2
      go_wp2_with fail
      refine (HC.out _).mono ?_
      rw [HN.out]
      rintro e w1 ⟨rfl, x1⟩
      obtain ⟨k1, k2, ks, X⟩ := two_ext x1
      obtain ⟨y0, y1⟩ := AtT.of (t := t0) (by exact k1)
      obtain ⟨z0, z1⟩ := AtT.of (t := ⟨3, nm⟩) (by exact k2)
      have fz1 : ∀ j, w1.frozen? ⟨w.heap.size, j, none⟩ = false := fun j => by simp [World.frozen?, k1]
      have fz2 : ∀ j, w1.frozen? ⟨w.heap.size + 1, j, none⟩ = false := fun j => by simp [World.frozen?, k2]
      have X := Lib.hid X
      simp only [t0] at y0 y1
      simp only at z0 z1
      clear k1 k2 x1
      go_wp2
      refine bodyPost_ret (v := .tuple #[.agg (Ty.vals t0), .int .i64 (0)]) (by unfold Ty.vals; simp [results, Try.results45, go_sem, y0, y1]; try exact ⟨rfl, rfl⟩) rfl ⟨rfl, ?_⟩
      first | exact Ext.set_ (Ext.set_ X.out (Nat.le_refl _) _) (Nat.le_refl _) _ | exact X.out

set_option maxHeartbeats 1500000 in
theorem take_L_none (r : List UInt8) (hr : r.length ≤ 140737488351232) (hm : semi r = r.length) (w : World) : Calls Try.prog 45 #[.string (bs (76 :: r))] w (TakeAns (76 :: r) w) := by
  obtain ⟨nm, hnm⟩ : ∃ nm, nm = r.take (semi r) := ⟨_, rfl⟩
  obtain ⟨m, hmm⟩ : ∃ m, m = semi r := ⟨_, rfl⟩
  have hle : m ≤ r.length := by rw [hmm]; exact semi_le r
  have hlen : nm.length = m := by rw [hnm, hmm, List.length_take]; omega
  have ht : takeT (76 :: r) = (t0, 0) := by
    rw [takeT, if_neg (by decide), takeA, if_neg (by decide), if_neg (by decide), if_pos rfl]
    rw [if_neg (fun h => by omega)]
  unfold TakeAns
  rw [ht]
  have hsz : (bs (76 :: r)).size = r.length + 1 := rfl
  have i0 : ∀ W, (Instr.index 9 (.string (bs (76 :: r))) (.int .i64 0)).run Try.prog W = .ok (.int .u8 76) W := fun W => run_bs (k := 0) (by simp) rfl W
  have hat : ∀ k, k < m → ∃ c : UInt8, c ≠ 59 ∧ ∀ W, (Instr.index 9 (.string (bs (76 :: r))) (.int .i64 ((k : Int) + 1))).run Try.prog W = .ok (.int .u8 c.toNat) W := by
    intro k hk
    refine ⟨r[k]'(by omega), ?_, fun W => ?_⟩
    · obtain ⟨_, h2⟩ := semi_ne (r := r) (k := k) (by omega)
      exact h2
    · have := run_bs (l := 76 :: r) (k := k + 1) (by simp; omega) rfl W
      simpa using this
  have hm2 : r.length = m := by omega
  rw [hm2] at hsz hr
  have HAt := Lib.hid hat
  have HM := Lib.hid hm2
  clear hnm hmm ht hlen hat hm hle hm2
  go_enter Try.func45, Try.ntmps45
  go_wp2
  go_loopw [7] (fun i wr => ∃ k : Nat, k ≤ m ∧ i = .int .i64 ((k : Int) + 1) ∧ wr = ((w.alloc (.cells #[.int .i64 0, .string ⟨#[]⟩] 23)).alloc (.cells #[.int .i64 3, .string ⟨#[]⟩] 23))) (fun i _ => m + 1 - (intOf i).toNat)
  case atStart => exact ⟨0, by omega, rfl, rfl⟩
  case round =>
    obtain ⟨k, hk, rfl, rfl⟩ := hrel
    by_cases hlt : k < m
    · obtain ⟨c, HC1, hix⟩ := HAt.out k hlt
      have hne : ((c.toNat : Int) != 59) = true := by
        have := HC1
        simp only [bne_iff_ne, ne_eq]
        intro e
        exact this (UInt8.toNat_inj.1 (by have : (59 : UInt8).toNat = 59 := rfl; omega))
      clear HC1
      go_wp2
      exact ⟨⟨k + 1, by omega, by go_num, trivial⟩, by simp [intOf]; omega⟩
    · obtain rfl : k = m := by omega
      go_wp2
      refine bodyPost_ret (v := .tuple #[.agg (Ty.vals t0), .int .i64 0]) (by unfold Ty.vals; simp [results, Try.results45, go_sem]; try exact ⟨rfl, rfl⟩) rfl ⟨rfl, ?_⟩
      first | exact Ext.refl w | exact (Ext.refl w).alloc _ | exact ((Ext.refl w).alloc _).alloc _ | exact (((Ext.refl w).alloc _).alloc _).alloc _

set_option maxHeartbeats 1500000 in
theorem take_aL_ok (r : List UInt8) (hr : r.length ≤ 140737488351232) (hm : semi r < r.length) (hn : nameB (r.take (semi r)) = true) (w : World) : Calls Try.prog 45 #[.string (bs (91 :: 76 :: r))] w (TakeAns (91 :: 76 :: r) w) := by
  obtain ⟨nm, hnm⟩ : ∃ nm, nm = r.take (semi r) := ⟨_, rfl⟩
  obtain ⟨m, hmm⟩ : ∃ m, m = semi r := ⟨_, rfl⟩
  have hle : m ≤ r.length := by rw [hmm]; exact semi_le r
  have hlen : nm.length = m := by rw [hnm, hmm, List.length_take]; omega
  have ht : takeT (91 :: 76 :: r) = (⟨6, nm⟩, m + 3) := by
    have e : takeA (76 :: r) = (⟨3, nm⟩, m + 2) := by
      rw [takeA, if_neg (by decide), if_neg (by decide), if_pos rfl]
      rw [if_pos ⟨hm, hn⟩, hnm, hmm]
    rw [takeT, if_pos rfl, e]
    rfl
  unfold TakeAns
  rw [ht]
  have hcut : ∀ W, (Instr.slice 9 (.string (bs (91 :: 76 :: r))) (some (.int .i64 2)) (some (.int .i64 ((m : Int) + 2))) none).run Try.prog W = .ok (.string (bs nm)) W :=
    fun W => run_cut (x := [91, 76]) (n := nm) (y := r.drop m) (by rw [hnm, hmm]; simp) (by simp) (by simp; omega) W
  have hsz : (bs (91 :: 76 :: r)).size = r.length + 2 := rfl
  have i0 : ∀ W, (Instr.index 9 (.string (bs (91 :: 76 :: r))) (.int .i64 0)).run Try.prog W = .ok (.int .u8 91) W := fun W => run_bs (k := 0) (by simp) rfl W
  have i1 : ∀ W, (Instr.index 9 (.string (bs (91 :: 76 :: r))) (.int .i64 1)).run Try.prog W = .ok (.int .u8 76) W := fun W => run_bs (k := 1) (by simp) rfl W
  have hat : ∀ k, k ≤ m → ∃ c : UInt8, ((k < m → c ≠ 59) ∧ (k = m → c = 59)) ∧ ∀ W, (Instr.index 9 (.string (bs (91 :: 76 :: r))) (.int .i64 ((k : Int) + 2))).run Try.prog W = .ok (.int .u8 c.toNat) W := by
    intro k hk
    refine ⟨r[k]'(by omega), ⟨fun h => ?_, fun h => ?_⟩, fun W => ?_⟩
    · obtain ⟨_, h2⟩ := semi_ne (r := r) (k := k) (by omega)
      exact h2
    · subst h
      subst hmm
      exact semi_eq hm
    · have := run_bs (l := 91 :: 76 :: r) (k := k + 2) (by simp; omega) rfl W
      simpa using this
  have hc := fun W => refCheckType_any ⟨6, nm⟩ W (by simp only; omega)
  unfold Ty.vals at hc
  have HC := Lib.hid hc
  have HN := Lib.hid (show checkT ⟨6, nm⟩ = 0 from checkT_yes (by rw [hnm]; unfold okT; simpa using hn))
  have hm2 : m < r.length := by omega
  have HAt := Lib.hid hat
  clear hc hnm hmm ht hn hlen hat hm hle
  go_enter Try.func45, Try.ntmps45
  go_wp2
  go_loopw [7] (fun i wr => ∃ k : Nat, k ≤ m ∧ i = .int .i64 ((k : Int) + 2) ∧ wr = ((w.alloc (.cells #[.int .i64 0, .string ⟨#[]⟩] 23)).alloc (.cells #[.int .i64 3, .string ⟨#[]⟩] 23))) (fun i _ => m + 2 - (intOf i).toNat)
  case atStart => exact ⟨0, by omega, rfl, rfl⟩
  case round =>
    obtain ⟨k, hk, rfl, rfl⟩ := hrel
    obtain ⟨c, ⟨hc1, hc2⟩, hix⟩ := HAt.out k hk
    by_cases hlt : k < m
    · have HC1 := hc1 hlt
      clear hc1 hc2
      have hne : ((c.toNat : Int) != 59) = true := by
        have := HC1
        simp only [bne_iff_ne, ne_eq]
        intro e
        exact this (UInt8.toNat_inj.1 (by have : (59 : UInt8).toNat = 59 := rfl; omega))
      clear HC1
      go_wp2
      exact ⟨⟨k + 1, by omega, by go_num, trivial⟩, by simp [intOf]; omega⟩
    · obtain rfl : k = m := by omega
      obtain rfl := hc2 rfl
      clear hc1 hc2
      go_wp2_with fail
      refine (HC.out _).mono ?_
      rw [HN.out]
      rintro e w1 ⟨rfl, x1⟩
      obtain ⟨k1, k2, ks, X⟩ := two_ext x1
      obtain ⟨y0, y1⟩ := AtT.of (t := t0) (by exact k1)
      obtain ⟨z0, z1⟩ := AtT.of (t := ⟨6, nm⟩) (by exact k2)
      have fz1 : ∀ j, w1.frozen? ⟨w.heap.size, j, none⟩ = false := fun j => by simp [World.frozen?, k1]
      have fz2 : ∀ j, w1.frozen? ⟨w.heap.size + 1, j, none⟩ = false := fun j => by simp [World.frozen?, k2]
      have X := Lib.hid X
      simp only [t0] at y0 y1
      simp only at z0 z1
      clear k1 k2 x1
      go_wp2
      refine bodyPost_ret (v := .tuple #[.agg (Ty.vals ⟨6, nm⟩), .int .i64 (k + 3)]) (by unfold Ty.vals; simp [results, Try.results45, go_sem, y0, y1]; try omega) rfl ⟨rfl, ?_⟩
      first | exact Ext.set_ (Ext.set_ X.out (Nat.le_refl _) _) (Nat.le_refl _) _ | exact X.out

set_option maxHeartbeats 1500000 in
theorem take_aL_bad (r : List UInt8) (hr : r.length ≤ 140737488351232) (hm : semi r < r.length) (hn : nameB (r.take (semi r)) = false) (w : World) : Calls Try.prog 45 #[.string (bs (91 :: 76 :: r))] w (TakeAns (91 :: 76 :: r) w) := by
  obtain ⟨nm, hnm⟩ : ∃ nm, nm = r.take (semi r) := ⟨_, rfl⟩
  obtain ⟨m, hmm⟩ : ∃ m, m = semi r := ⟨_, rfl⟩
  have hle : m ≤ r.length := by rw [hmm]; exact semi_le r
  have hlen : nm.length = m := by rw [hnm, hmm, List.length_take]; omega
  have ht : takeT (91 :: 76 :: r) = (t0, 0) := by
    have e : takeA (76 :: r) = (t0, 0) := by
      rw [takeA, if_neg (by decide), if_neg (by decide), if_pos rfl]
      rw [if_neg (fun h => by rw [hn] at h; exact absurd h.2 (by decide))]
    rw [takeT, if_pos rfl, e]
    rfl
  unfold TakeAns
  rw [ht]
  have hcut : ∀ W, (Instr.slice 9 (.string (bs (91 :: 76 :: r))) (some (.int .i64 2)) (some (.int .i64 ((m : Int) + 2))) none).run Try.prog W = .ok (.string (bs nm)) W :=
    fun W => run_cut (x := [91, 76]) (n := nm) (y := r.drop m) (by rw [hnm, hmm]; simp) (by simp) (by simp; omega) W
  have hsz : (bs (91 :: 76 :: r)).size = r.length + 2 := rfl
  have i0 : ∀ W, (Instr.index 9 (.string (bs (91 :: 76 :: r))) (.int .i64 0)).run Try.prog W = .ok (.int .u8 91) W := fun W => run_bs (k := 0) (by simp) rfl W
  have i1 : ∀ W, (Instr.index 9 (.string (bs (91 :: 76 :: r))) (.int .i64 1)).run Try.prog W = .ok (.int .u8 76) W := fun W => run_bs (k := 1) (by simp) rfl W
  have hat : ∀ k, k ≤ m → ∃ c : UInt8, ((k < m → c ≠ 59) ∧ (k = m → c = 59)) ∧ ∀ W, (Instr.index 9 (.string (bs (91 :: 76 :: r))) (.int .i64 ((k : Int) + 2))).run Try.prog W = .ok (.int .u8 c.toNat) W := by
    intro k hk
    refine ⟨r[k]'(by omega), ⟨fun h => ?_, fun h => ?_⟩, fun W => ?_⟩
    · obtain ⟨_, h2⟩ := semi_ne (r := r) (k := k) (by omega)
      exact h2
    · subst h
      subst hmm
      exact semi_eq hm
    · have := run_bs (l := 91 :: 76 :: r) (k := k + 2) (by simp; omega) rfl W
      simpa using this
  have hc := fun W => refCheckType_any ⟨6, nm⟩ W (by simp only; omega)
  unfold Ty.vals at hc
  have HC := Lib.hid hc
  have HN := Lib.hid (show checkT ⟨6, nm⟩ = 2 from checkT_no (by rw [hnm]; unfold okT; simpa using hn))
  have hm2 : m < r.length := by omega
  have HAt := Lib.hid hat
  clear hc hnm hmm ht hn hlen hat hm hle
  go_enter Try.func45, Try.ntmps45
  go_wp2
  go_loopw [7] (fun i wr => ∃ k : Nat, k ≤ m ∧ i = .int .i64 ((k : Int) + 2) ∧ wr = ((w.alloc (.cells #[.int .i64 0, .string ⟨#[]⟩] 23)).alloc (.cells #[.int .i64 3, .string ⟨#[]⟩] 23))) (fun i _ => m + 2 - (intOf i).toNat)
  case atStart => exact ⟨0, by omega, rfl, rfl⟩
  case round =>
    obtain ⟨k, hk, rfl, rfl⟩ := hrel
    obtain ⟨c, ⟨hc1, hc2⟩, hix⟩ := HAt.out k hk
    by_cases hlt : k < m
    · have HC1 := hc1 hlt
      clear hc1 hc2
      have hne : ((c.toNat : Int) != 59) = true := by
        have := HC1
        simp only [bne_iff_ne, ne_eq]
        intro e
        exact this (UInt8.toNat_inj.1 (by have : (59 : UInt8).toNat = 59 := rfl; omega))
      clear HC1
      go_wp2
      exact ⟨⟨k + 1, by omega, by go_num, trivial⟩, by simp [intOf]; omega⟩
    · obtain rfl : k = m := by omega
      obtain rfl := hc2 rfl
      clear hc1 hc2
      go_wp2_with fail
      refine (HC.out _).mono ?_
      rw [HN.out]
      rintro e w1 ⟨rfl, x1⟩
      obtain ⟨k1, k2, ks, X⟩ := two_ext x1
      obtain ⟨y0, y1⟩ := AtT.of (t := t0) (by exact k1)
      obtain ⟨z0, z1⟩ := AtT.of (t := ⟨6, nm⟩) (by exact k2)
      have fz1 : ∀ j, w1.frozen? ⟨w.heap.size, j, none⟩ = false := fun j => by simp [World.frozen?, k1]
      have fz2 : ∀ j, w1.frozen? ⟨w.heap.size + 1, j, none⟩ = false := fun j => by simp [World.frozen?, k2]
      have X := Lib.hid X
      simp only [t0] at y0 y1
      simp only at z0 z1
      clear k1 k2 x1
      go_wp2
      refine bodyPost_ret (v := .tuple #[.agg (Ty.vals t0), .int .i64 (0)]) (by unfold Ty.vals; simp [results, Try.results45, go_sem, y0, y1]; try exact ⟨rfl, rfl⟩) rfl ⟨rfl, ?_⟩
      first | exact Ext.set_ (Ext.set_ X.out (Nat.le_refl _) _) (Nat.le_refl _) _ | exact X.out

set_option maxHeartbeats 1500000 in
theorem take_aL_none (r : List UInt8) (hr : r.length ≤ 140737488351232) (hm : semi r = r.length) (w : World) : Calls Try.prog 45 #[.string (bs (91 :: 76 :: r))] w (TakeAns (91 :: 76 :: r) w) := by
  obtain ⟨nm, hnm⟩ : ∃ nm, nm = r.take (semi r) := ⟨_, rfl⟩
  obtain ⟨m, hmm⟩ : ∃ m, m = semi r := ⟨_, rfl⟩
  have hle : m ≤ r.length := by rw [hmm]; exact semi_le r
  have hlen : nm.length = m := by rw [hnm, hmm, List.length_take]; omega
  have ht : takeT (91 :: 76 :: r) = (t0, 0) := by
    have e : takeA (76 :: r) = (t0, 0) := by
      rw [takeA, if_neg (by decide), if_neg (by decide), if_pos rfl]
      rw [if_neg (fun h => by omega)]
    rw [takeT, if_pos rfl, e]
    rfl
  unfold TakeAns
  rw [ht]
  have hsz : (bs (91 :: 76 :: r)).size = r.length + 2 := rfl
  have i0 : ∀ W, (Instr.index 9 (.string (bs (91 :: 76 :: r))) (.int .i64 0)).run Try.prog W = .ok (.int .u8 91) W := fun W => run_bs (k := 0) (by simp) rfl W
  have i1 : ∀ W, (Instr.index 9 (.string (bs (91 :: 76 :: r))) (.int .i64 1)).run Try.prog W = .ok (.int .u8 76) W := fun W => run_bs (k := 1) (by simp) rfl W
  have hat : ∀ k, k < m → ∃ c : UInt8, c ≠ 59 ∧ ∀ W, (Instr.index 9 (.string (bs (91 :: 76 :: r))) (.int .i64 ((k : Int) + 2))).run Try.prog W = .ok (.int .u8 c.toNat) W := by
    intro k hk
    refine ⟨r[k]'(by omega), ?_, fun W => ?_⟩
    · obtain ⟨_, h2⟩ := semi_ne (r := r) (k := k) (by omega)
      exact h2
    · have := run_bs (l := 91 :: 76 :: r) (k := k + 2) (by simp; omega) rfl W
      simpa using this
  have hm2 : r.length = m := by omega
  rw [hm2] at hsz hr
  have HAt := Lib.hid hat
  have HM := Lib.hid hm2
  clear hnm hmm ht hlen hat hm hle hm2
  go_enter Try.func45, Try.ntmps45
  go_wp2
  go_loopw [7] (fun i wr => ∃ k : Nat, k ≤ m ∧ i = .int .i64 ((k : Int) + 2) ∧ wr = ((w.alloc (.cells #[.int .i64 0, .string ⟨#[]⟩] 23)).alloc (.cells #[.int .i64 3, .string ⟨#[]⟩] 23))) (fun i _ => m + 2 - (intOf i).toNat)
  case atStart => exact ⟨0, by omega, rfl, rfl⟩
  case round =>
    obtain ⟨k, hk, rfl, rfl⟩ := hrel
    by_cases hlt : k < m
    · obtain ⟨c, HC1, hix⟩ := HAt.out k hlt
      have hne : ((c.toNat : Int) != 59) = true := by
        have := HC1
        simp only [bne_iff_ne, ne_eq]
        intro e
        exact this (UInt8.toNat_inj.1 (by have : (59 : UInt8).toNat = 59 := rfl; omega))
      clear HC1
      go_wp2
      exact ⟨⟨k + 1, by omega, by go_num, trivial⟩, by simp [intOf]; omega⟩
    · obtain rfl : k = m := by omega
      go_wp2
      refine bodyPost_ret (v := .tuple #[.agg (Ty.vals t0), .int .i64 0]) (by unfold Ty.vals; simp [results, Try.results45, go_sem]; try exact ⟨rfl, rfl⟩) rfl ⟨rfl, ?_⟩
      first | exact Ext.refl w | exact (Ext.refl w).alloc _ | exact ((Ext.refl w).alloc _).alloc _ | exact (((Ext.refl w).alloc _).alloc _).alloc _

end Go.Proofs.Ytibcaienaejgpaa
