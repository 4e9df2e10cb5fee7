/- The document's own names of types, walked. -/
import Derived.Test.YtibcaienaejgpaaDescSpec
import Derived.Test.YtibcaienaejgpaaProg
import Derived.Laws.BytesArg
import Derived.Lib.SliceRun
import Derived.Lib.Bytes
import Derived.Laws.StructEq
import Derived.Deep.QuietTactic
import Derived.RegionTactic
namespace Go.Proofs.Ytibcaienaejgpaa
open Go.RowKit
set_option linter.unusedVariables false

/-- A value comes back, and nothing has changed but draws. -/
def Quiet (w : World) (v : Value) (e : Ending) (w' : World) : Prop := e = .returned v ∧ ∃ m, w' = w.drewN m
def bs (l : List UInt8) : ByteArray := ⟨l.toArray⟩
def Ty.vals (t : Ty) : Array Value := #[.int .i64 t.k, .string (bs t.s)]

theorem nameB_long {l : List UInt8} (h : 64 < l.length) : nameB l = false := by
  match l with
  | [] => rfl
  | c :: r =>
    simp only [List.length_cons] at h
    simp only [nameB, Bool.and_eq_false_iff, decide_eq_false_iff_not]
    right
    omega
theorem run_bs {l : List UInt8} {k : Nat} (h : k < l.length) {c : UInt8} (hc : l[k] = c) (W : World) : (Instr.index 9 (.string (bs l)) (.int .i64 k)).run Try.prog W = .ok (.int .u8 c.toNat) W := by
  have hs : k < (bs l).size := h
  rw [run_index_string _ _ _ _ _ Try.underlying9, dif_pos ⟨by omega, by omega⟩]
  subst hc
  rfl
/-- May that byte stand at that place of a name? -/
def okAt (c : UInt8) (k : Nat) : Bool := letter c || (digit c && decide (0 < k))
theorem nameB_at {l : List UInt8} : nameB l = true ↔ 0 < l.length ∧ l.length ≤ 64 ∧ ∀ j (h : j < l.length), okAt l[j] j = true := by
  match l with
  | [] => simp [nameB]
  | c :: r =>
    simp only [nameB, Bool.and_eq_true, List.all_eq_true, decide_eq_true_eq, List.length_cons]
    constructor
    · rintro ⟨⟨h1, h2⟩, h3⟩
      refine ⟨by omega, by omega, fun j hj => ?_⟩
      match j with
      | 0 => simp [okAt, h1]
      | j + 1 =>
        have := h2 r[j] (List.getElem_mem _)
        simpa [okAt] using this
    · rintro ⟨_, h2, h3⟩
      refine ⟨⟨?_, fun d hd => ?_⟩, by omega⟩
      · simpa [okAt] using h3 0 (by simp)
      · obtain ⟨j, hj, rfl⟩ := List.getElem_of_mem hd
        have hj' := hj
        have := h3 (j + 1) (by simpa using hj)
        rw [List.getElem_cons_succ] at this
        simpa [okAt] using this
theorem nameB_bad {l : List UInt8} {k : Nat} {c : UInt8} (h : k < l.length) (hc : l[k] = c) (hb : okAt c k = false) : nameB l = false := by
  cases hn : nameB l with
  | false => rfl
  | true =>
    have := (nameB_at.1 hn).2.2 k h
    rw [hc, hb] at this
    cases this
/-- A byte's kinds. -/
theorem byte_kinds (c : UInt8) : ((∀ k, okAt c k = true) ∧ ((97 ≤ (c.toNat : Int) ∧ (c.toNat : Int) ≤ 122) ∨ ((c.toNat : Int) < 97 ∧ 65 ≤ (c.toNat : Int) ∧ (c.toNat : Int) ≤ 90) ∨ (c.toNat : Int) = 95 ∨ (c.toNat : Int) = 36)) ∨
    ((∀ k, okAt c k = decide (0 < k)) ∧ 48 ≤ (c.toNat : Int) ∧ (c.toNat : Int) ≤ 57 ∧ ((c.toNat : Int) == 95) = false ∧ ((c.toNat : Int) == 36) = false) ∨
    ((∀ k, okAt c k = false) ∧ ((c.toNat : Int) == 95) = false ∧ ((c.toNat : Int) == 36) = false ∧
      ((c.toNat : Int) < 48 ∨ (57 < (c.toNat : Int) ∧ (c.toNat : Int) < 65) ∨ (¬ (c.toNat : Int) ≤ 90 ∧ 90 < (c.toNat : Int) ∧ (c.toNat : Int) < 97) ∨ (¬ (c.toNat : Int) ≤ 90 ∧ ¬ (c.toNat : Int) ≤ 122 ∧ 122 < (c.toNat : Int)))) := by
  have hl : letter c = true ↔ (97 ≤ c.toNat ∧ c.toNat ≤ 122) ∨ (65 ≤ c.toNat ∧ c.toNat ≤ 90) ∨ c.toNat = 95 ∨ c.toNat = 36 := by simp [letter, or_assoc]
  have hd : digit c = true ↔ 48 ≤ c.toNat ∧ c.toNat ≤ 57 := by simp [digit]
  cases h1 : letter c
  · cases h2 : digit c
    · right; right
      rw [← Bool.not_eq_true, hl] at h1
      rw [← Bool.not_eq_true, hd] at h2
      refine ⟨fun k => ?_, by simp; omega, by simp; omega, by omega⟩
      simp only [okAt]
      rw [Bool.eq_false_iff.2 (fun h => h1 (hl.1 h) : letter c ≠ true), Bool.eq_false_iff.2 (fun h => h2 (hd.1 h) : digit c ≠ true)]
      rfl
    · right; left
      have h2' := hd.1 h2
      refine ⟨fun k => by simp [okAt, h1, h2], by omega, by omega, by simp; omega, by simp; omega⟩
  · left
    have h1' := hl.1 h1
    exact ⟨fun k => by simp [okAt, h1], by omega⟩
set_option maxHeartbeats 8000000 in
theorem refIsName_any (l : List UInt8) (w : World) (hl : l.length ≤ 140737488351232) :
    Calls Try.prog 18 #[.string (bs l)] w (Quiet w (.bool (nameB l))) := by
  have hsz : (bs l).size = l.length := rfl
  by_cases h0 : l.length = 0
  · obtain rfl : l = [] := List.eq_nil_of_length_eq_zero h0
    go_enter Try.func18, Try.ntmps18
    go_wp2
    go_ret
    exact ⟨rfl, 0, rfl⟩
  by_cases h64 : 64 < l.length
  · rw [nameB_long h64]
    go_enter Try.func18, Try.ntmps18
    go_wp2
    go_ret
    exact ⟨rfl, 0, rfl⟩
  go_enter Try.func18, Try.ntmps18
  go_wp2
  go_loopw [3] (fun i wr => ∃ k q : Nat, k ≤ l.length ∧ i = .int .i64 k ∧ wr = w.drewN q ∧ (∀ j (h : j < l.length), j < k → okAt l[j] j = true)) (fun i _ => l.length - (intOf i).toNat)
  case atStart => exact ⟨0, 0, by omega, rfl, rfl, fun j _ h => absurd h (Nat.not_lt_zero _)⟩
  case round =>
    obtain ⟨k, q, hk, rfl, rfl, ht⟩ := hrel
    have Ht := Lib.hid ht
    clear ht
    by_cases hlt : k < l.length
    · obtain ⟨c, hc⟩ : ∃ c, l[k] = c := ⟨_, rfl⟩
      have hix := fun W => run_bs hlt hc W
      have next : okAt c k = true → ∀ j (h : j < l.length), j < k + 1 → okAt l[j] j = true := by
        intro ho j h hj
        by_cases hjk : j < k
        · exact Ht.out j h hjk
        · obtain rfl : j = k := by omega
          rw [hc]
          exact ho
      have bad := fun hb => nameB_bad hlt hc hb
      have Next := Lib.hid next
      have Bad := Lib.hid bad
      clear next bad
      rcases byte_kinds c with ⟨ho, hx⟩ | ⟨ho, hx1, hx2, hx3, hx4⟩ | ⟨ho, hx3, hx4, hx⟩
      · have Ho := Lib.hid (ho k)
        clear ho hc
        rcases hx with ⟨hx1, hx2⟩ | ⟨hx1, hx2, hx3⟩ | hx | hx
        all_goals
          go_wp2
          exact ⟨⟨k + 1, q, by omega, by go_num, rfl, Next.out Ho.out⟩, by simp [intOf]; omega⟩
      · have Ho := Lib.hid (ho k)
        clear ho hc
        by_cases hk0 : k = 0
        · have hk1 : ((k : Int) == 0) = true := by simp; omega
          have Ho := Lib.hid (Ho.out.trans (by rw [hk0]; rfl : decide (0 < k) = false))
          clear hk0
          go_wp2
          go_ret
          exact ⟨by rw [Bad.out Ho.out]; rfl, _, rfl⟩
        · have hk1 : ((k : Int) == 0) = false := by simp; omega
          have hk2 : decide (0 < k) = true := by simp; omega
          have Ho := Lib.hid (Ho.out.trans hk2)
          clear hk2
          go_wp2
          exact ⟨⟨k + 1, q, by omega, by go_num, rfl, Next.out Ho.out⟩, by simp [intOf]; omega⟩
      · have Ho := Lib.hid (ho k)
        clear ho hc
        rcases hx with hx | ⟨hx1, hx2⟩ | ⟨n90, hx1, hx2⟩ | ⟨n90, n122, hx⟩
        all_goals
          go_wp2
          go_ret
          exact ⟨by rw [Bad.out Ho.out]; rfl, _, rfl⟩
    · obtain rfl : k = l.length := by omega
      go_wp2
      go_ret
      refine ⟨?_, _, rfl⟩
      rw [nameB_at.2 ⟨by omega, by omega, fun j h => Ht.out j h (by omega)⟩]
      rfl
end Go.Proofs.Ytibcaienaejgpaa
