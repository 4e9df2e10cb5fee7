/- The project's own answers of names and types, walked. -/
import Derived.Test.YtibcaienaejgpaaDescL
import Derived.Laws.RangeAny
import Derived.Lib.OthersKept
namespace Go.Proofs.Ytibcaienaejgpaa
open Go.RowKit
set_option linter.unusedVariables false

theorem sclone_any (s : ByteArray) (w : World) (hs : s.size ≤ 140737488351232) :
    Calls Try.prog 63 #[.string s] w fun e w' => e = .returned (.string s) ∧ Ext w w' := by
  go_enter Try.func63, Try.ntmps63
  go_wp2_with fail
  refine (Try.stringslite_Clone s _ (by omega)).mono ?_
  rintro e w1 ⟨rfl, h1⟩
  go_wp2
  go_ret
  exact ⟨rfl, h1⟩
/-- A character that a name may begin with; a digit. -/
def begZ (r : Int) : Bool := (decide (97 ≤ r) && decide (r ≤ 122)) || (decide (65 ≤ r) && decide (r ≤ 90)) || decide (r = 95) || decide (r = 36)
def digZ (r : Int) : Bool := decide (48 ≤ r) && decide (r ≤ 57)
theorem beginsName_any (r : Int) (w : World) : Calls Try.prog 48 #[.int .i32 r] w fun e w' => e = .returned (.bool (begZ r)) ∧ w' = w := by
  have hb : begZ r = true ↔ (97 ≤ r ∧ r ≤ 122) ∨ (65 ≤ r ∧ r ≤ 90) ∨ r = 95 ∨ r = 36 := by simp [begZ, or_assoc]
  have H : (begZ r = true ∧ 65 ≤ r ∧ r ≤ 90) ∨ (begZ r = true ∧ 90 < r ∧ 97 ≤ r ∧ r ≤ 122) ∨ (begZ r = true ∧ r = 95) ∨ (begZ r = true ∧ r = 36) ∨
      (begZ r = false ∧ (r == 95) = false ∧ (r == 36) = false ∧ (r < 65 ∨ (¬ r ≤ 90 ∧ 90 < r ∧ r < 97) ∨ (¬ r ≤ 90 ∧ ¬ r ≤ 122 ∧ 122 < r))) := by
    cases h : begZ r
    · rw [← Bool.not_eq_true, hb] at h
      right; right; right; right
      refine ⟨rfl, by rw [beq_eq_false_iff_ne]; omega, by rw [beq_eq_false_iff_ne]; omega, by omega⟩
    · have := hb.1 h
      simp only [true_and]
      omega
  clear hb
  rcases H with ⟨h, h1, h2⟩ | ⟨h, h0, h1, h2⟩ | ⟨h, rfl⟩ | ⟨h, rfl⟩ | ⟨h, h1, h2, h3 | ⟨h3, h4, h5⟩ | ⟨h3, h4, h5⟩⟩
  all_goals
    rw [h]
    clear h
    go_enter Try.func48, Try.ntmps48
    go_wp2
    go_ret
    exact ⟨rfl, rfl⟩
theorem isDigit_any (r : Int) (w : World) : Calls Try.prog 49 #[.int .i32 r] w fun e w' => e = .returned (.bool (digZ r)) ∧ w' = w := by
  have H : (digZ r = true ∧ 48 ≤ r ∧ r ≤ 57) ∨ (digZ r = false ∧ r < 48) ∨ (digZ r = false ∧ 48 ≤ r ∧ ¬ r ≤ 57) := by
    have hb : digZ r = true ↔ (48 ≤ r ∧ r ≤ 57) := by simp [digZ]
    cases h : digZ r
    · rw [← Bool.not_eq_true, hb] at h
      simp
      omega
    · have := hb.1 h
      simp only [true_and]
      omega
  rcases H with ⟨h, h1, h2⟩ | ⟨h, h1⟩ | ⟨h, h1, h2⟩
  all_goals
    rw [h]
    clear h
    go_enter Try.func49, Try.ntmps49
    go_wp2
    go_ret
    exact ⟨rfl, rfl⟩
theorem begZ_byte (c : UInt8) : begZ (c.toNat : Int) = letter c := by
  unfold begZ letter
  congr 1
  · congr 1
    · congr 1
      · congr 1 <;> exact decide_eq_decide.2 (by omega)
      · congr 1 <;> exact decide_eq_decide.2 (by omega)
    · exact decide_eq_decide.2 (by omega)
  · exact decide_eq_decide.2 (by omega)
theorem digZ_byte (c : UInt8) : digZ (c.toNat : Int) = digit c := by
  unfold digZ digit
  congr 1 <;> exact decide_eq_decide.2 (by omega)
theorem begZ_high {r : Nat} (h : 128 ≤ r) : begZ r = false ∧ digZ r = false := by
  simp only [begZ, digZ, Bool.or_eq_false_iff, Bool.and_eq_false_iff, decide_eq_false_iff_not]
  omega
theorem okAt_high {c : UInt8} (h : 128 ≤ c.toNat) (k : Nat) : okAt c k = false := by
  have h1 := begZ_high h
  rw [begZ_byte, digZ_byte] at h1
  simp [okAt, h1]
/-- What the range over a text gives at a place: whether it may stand there. -/
theorem rune_at {l : List UInt8} {k : Nat} (h : k < l.length) {c : UInt8} (hc : l[k] = c) :
    ∃ r m, Utf8.decode (bs l) k = (r, m) ∧ 1 ≤ m ∧ ((begZ r = true ∧ okAt c k = true ∧ m = 1) ∨ (begZ r = false ∧ digZ r = true ∧ okAt c k = decide (0 < k) ∧ m = 1) ∨ (begZ r = false ∧ digZ r = false ∧ okAt c k = false)) := by
  have hs : k < (bs l).size := h
  have hg : (bs l)[k]'hs = c := hc
  by_cases ha : c.toNat < 128
  · refine ⟨c.toNat, 1, by rw [decode_ascii (bs l) k hs (by rw [hg]; exact ha), hg], Nat.le_refl _, ?_⟩
    rw [begZ_byte, digZ_byte]
    cases h1 : letter c
    · cases h2 : digit c
      · right; right
        exact ⟨rfl, rfl, by simp [okAt, h1, h2]⟩
      · right; left
        exact ⟨rfl, rfl, by simp [okAt, h1, h2], rfl⟩
    · left
      exact ⟨rfl, by simp [okAt, h1], rfl⟩
  · have h1 := decode_high (bs l) k hs (by rw [hg]; omega)
    obtain ⟨b1, b2⟩ := begZ_high h1.1
    exact ⟨_, _, rfl, h1.2, .inr (.inr ⟨b1, b2, okAt_high (by omega) k⟩)⟩
set_option maxHeartbeats 2000000 in
theorem IsName_any (l : List UInt8) (w : World) (hl : l.length ≤ 140737488351232) :
    Calls Try.prog 17 #[.string (bs l)] w fun e w' => e = .returned (.bool (nameB l)) ∧ Ext w w' := by
  have hsz : (bs l).size = l.length := rfl
  have hbs := bs_nil l
  by_cases h0 : l = []
  · subst h0
    go_enter Try.func17, Try.ntmps17
    go_wp2
    go_ret
    exact ⟨rfl, Ext.refl w⟩
  have he : l.isEmpty = false := by cases l with | nil => exact absurd rfl h0 | cons => rfl
  have he2 : (l == []) = false := by simpa using h0
  have hp : 0 < l.length := List.length_pos_iff.2 h0
  have Hp := Lib.hid hp
  clear h0 hp
  by_cases h64 : 64 < l.length
  · rw [nameB_long h64]
    go_enter Try.func17, Try.ntmps17
    go_wp2
    go_ret
    exact ⟨rfl, Ext.refl w⟩
  go_enter Try.func17, Try.ntmps17
  go_wp2
  go_loopw [] (fun wr => ∃ k : Nat, k ≤ l.length ∧ wr.heap[w.heap.size]? = some (.stringIter (bs l) k) ∧ Ext w wr ∧ Hid (∀ j (h : j < l.length), j < k → okAt l[j] j = true)) (fun wr => l.length - wr.iterPos w.heap.size)
  case atStart =>
    refine ⟨0, by omega, ?_, Ext.alloc (Ext.refl w) (.stringIter (bs l) 0), Lib.hid (fun j _ h => absurd h (Nat.not_lt_zero _))⟩
    have := World.iter_heap w (bs l) 0
    simpa using this
  case round =>
    obtain ⟨k, hk, hit, hx, Ht⟩ := hrel
    have hszr : w.heap.size < wr.heap.size := lt_of_get hit
    by_cases hlt : k < l.length
    · obtain ⟨c, hc⟩ : ∃ c, l[k] = c := ⟨_, rfl⟩
      obtain ⟨r, m, hdec, hm, hr⟩ := rune_at hlt hc
      have hnx : ∀ ty, (Instr.next (.pointer (some ⟨w.heap.size, 0, none⟩)) true ty).run Try.prog wr = _ := fun ty => Lib.run_next_any_at wr w.heap.size (bs l) k ty hit hlt
      simp only [hdec] at hnx
      have hit2 := Lib.iterAt_heap wr w.heap.size (bs l) k (k + m) hit
      have hx2 : Ext w (wr.iterAt w.heap.size (bs l) (k + m)) := Lib.below_iterAt hx (Nat.le_refl _) (bs l) (k + m)
      have Next := Lib.hid (show okAt c k = true → m = 1 → k + m ≤ l.length ∧ ∀ j (h : j < l.length), j < k + m → okAt l[j] j = true from by
        rintro ho rfl
        refine ⟨by omega, fun j h hj => ?_⟩
        by_cases hjk : j < k
        · exact Ht.out j h hjk
        · obtain rfl : j = k := by omega
          rw [hc]
          exact ho)
      have Bad := Lib.hid (fun hb => nameB_bad hlt hc hb)
      clear hdec hc
      have CB := Lib.hid (fun W => beginsName_any r W)
      have CD := Lib.hid (fun W => isDigit_any r W)
      rcases hr with ⟨hb, ho, rfl⟩ | ⟨hb, hd, ho, rfl⟩ | ⟨hb, hd, ho⟩
      · rw [hb] at CB
        obtain ⟨n1, n2⟩ := Next.out ho rfl
        have N2 := Lib.hid n2
        clear hb ho n2
        go_wp2_with fail
        refine (CB.out _).mono ?_
        rintro e w2 ⟨rfl, rfl⟩
        go_wp2
        go_roundw
        case rel => exact ⟨k + 1, n1, hit2, hx2, N2⟩
        case measure =>
          simp only [World.iterPos, hit2, hit]
          omega
      · rw [hb] at CB
        rw [hd] at CD
        by_cases hk0 : k = 0
        · have hk1 : ((k : Int) == 0) = true := by rw [beq_iff_eq]; omega
          have Ho := Lib.hid (Bad.out (ho.trans (by rw [hk0]; rfl)))
          clear hb ho hd hk0
          go_wp2_with fail
          refine (CB.out _).mono ?_
          rintro e w2 ⟨rfl, rfl⟩
          go_wp2
          go_ret
          exact ⟨by rw [Ho.out]; rfl, hx2⟩
        · have hk1 : ((k : Int) == 0) = false := by rw [beq_eq_false_iff_ne]; omega
          obtain ⟨n1, n2⟩ := Next.out (ho.trans (decide_eq_true (by omega))) rfl
          have N2 := Lib.hid n2
          clear hb ho n2 hd
          go_wp2_with fail
          refine (CB.out _).mono ?_
          rintro e w2 ⟨rfl, rfl⟩
          go_wp2_with fail
          refine (CD.out _).mono ?_
          rintro e w2 ⟨rfl, rfl⟩
          go_wp2
          go_roundw
          case rel => exact ⟨k + 1, n1, hit2, hx2, N2⟩
          case measure =>
            simp only [World.iterPos, hit2, hit]
            omega
      · rw [hb] at CB
        rw [hd] at CD
        have Ho := Lib.hid (Bad.out ho)
        clear hb ho hd
        cases hk1 : ((k : Int) == 0)
        · go_wp2_with fail
          refine (CB.out _).mono ?_
          rintro e w2 ⟨rfl, rfl⟩
          go_wp2_with fail
          refine (CD.out _).mono ?_
          rintro e w2 ⟨rfl, rfl⟩
          go_wp2
          go_ret
          exact ⟨by rw [Ho.out]; rfl, hx2⟩
        · go_wp2_with fail
          refine (CB.out _).mono ?_
          rintro e w2 ⟨rfl, rfl⟩
          go_wp2
          go_ret
          exact ⟨by rw [Ho.out]; rfl, hx2⟩
    · obtain rfl : k = l.length := by omega
      have hnx : ∀ ty, (Instr.next (.pointer (some ⟨w.heap.size, 0, none⟩)) true ty).run Try.prog wr = _ := fun ty => Lib.run_next_end_at wr w.heap.size (bs l) l.length ty hit hlt
      have HE := Lib.hid (nameB_at.2 ⟨Hp.out, by omega, fun j h => Ht.out j h (by omega)⟩)
      go_wp2
      go_ret
      exact ⟨by rw [HE.out]; rfl, hx⟩
set_option maxHeartbeats 8000000 in
theorem CheckType_any (t : Ty) (w : World) (hl : t.s.length ≤ 140737488351232) :
    Calls Try.prog 26 #[.agg t.vals] w fun e w' => e = .returned (.int .i64 (checkT t)) ∧ Ext w w' := by
  obtain ⟨k, s⟩ := t
  have hbs := bs_nil s
  have hsz : (bs s).size = s.length := rfl
  rcases kinds k with rfl | rfl | rfl | rfl | rfl | rfl | ⟨n1, n2, n3, n4, n5, n6, -⟩
  · by_cases hn : s = []
    · subst hn
      rw [checkT_yes (t := ⟨1, []⟩) rfl]
      unfold Ty.vals
      go_enter Try.func26, Try.ntmps26
      go_wp2
      go_ret
      exact ⟨rfl, (Ext.refl w).alloc _⟩
    · rw [checkT_no (t := ⟨1, s⟩) (by unfold okT; simpa using hn)]
      have he : (s == []) = false := by simpa using hn
      clear hn
      unfold Ty.vals
      go_enter Try.func26, Try.ntmps26
      go_wp2
      go_ret
      exact ⟨rfl, (Ext.refl w).alloc _⟩
  · by_cases hn : s = []
    · subst hn
      rw [checkT_yes (t := ⟨2, []⟩) rfl]
      unfold Ty.vals
      go_enter Try.func26, Try.ntmps26
      go_wp2
      go_ret
      exact ⟨rfl, (Ext.refl w).alloc _⟩
    · rw [checkT_no (t := ⟨2, s⟩) (by unfold okT; simpa using hn)]
      have he : (s == []) = false := by simpa using hn
      clear hn
      unfold Ty.vals
      go_enter Try.func26, Try.ntmps26
      go_wp2
      go_ret
      exact ⟨rfl, (Ext.refl w).alloc _⟩
  · cases hn : nameB s
    · rw [checkT_no (t := ⟨3, s⟩) hn]
      have HN := Lib.hid hn
      clear hn
      unfold Ty.vals
      go_enter Try.func26, Try.ntmps26
      go_wp2_with fail
      refine (IsName_any s _ hl).mono ?_
      rw [HN.out]
      rintro e w1 ⟨rfl, x1⟩
      go_wp2
      go_ret
      exact ⟨rfl, ((Ext.refl w).alloc _).trans x1⟩
    · rw [checkT_yes (t := ⟨3, s⟩) hn]
      have HN := Lib.hid hn
      clear hn
      unfold Ty.vals
      go_enter Try.func26, Try.ntmps26
      go_wp2_with fail
      refine (IsName_any s _ hl).mono ?_
      rw [HN.out]
      rintro e w1 ⟨rfl, x1⟩
      go_wp2
      go_ret
      exact ⟨rfl, ((Ext.refl w).alloc _).trans x1⟩
  · by_cases hn : s = []
    · subst hn
      rw [checkT_yes (t := ⟨4, []⟩) rfl]
      unfold Ty.vals
      go_enter Try.func26, Try.ntmps26
      go_wp2
      go_ret
      exact ⟨rfl, (Ext.refl w).alloc _⟩
    · rw [checkT_no (t := ⟨4, s⟩) (by unfold okT; simpa using hn)]
      have he : (s == []) = false := by simpa using hn
      clear hn
      unfold Ty.vals
      go_enter Try.func26, Try.ntmps26
      go_wp2
      go_ret
      exact ⟨rfl, (Ext.refl w).alloc _⟩
  · by_cases hn : s = []
    · subst hn
      rw [checkT_yes (t := ⟨5, []⟩) rfl]
      unfold Ty.vals
      go_enter Try.func26, Try.ntmps26
      go_wp2
      go_ret
      exact ⟨rfl, (Ext.refl w).alloc _⟩
    · rw [checkT_no (t := ⟨5, s⟩) (by unfold okT; simpa using hn)]
      have he : (s == []) = false := by simpa using hn
      clear hn
      unfold Ty.vals
      go_enter Try.func26, Try.ntmps26
      go_wp2
      go_ret
      exact ⟨rfl, (Ext.refl w).alloc _⟩
  · cases hn : nameB s
    · rw [checkT_no (t := ⟨6, s⟩) hn]
      have HN := Lib.hid hn
      clear hn
      unfold Ty.vals
      go_enter Try.func26, Try.ntmps26
      go_wp2_with fail
      refine (IsName_any s _ hl).mono ?_
      rw [HN.out]
      rintro e w1 ⟨rfl, x1⟩
      go_wp2
      go_ret
      exact ⟨rfl, ((Ext.refl w).alloc _).trans x1⟩
    · rw [checkT_yes (t := ⟨6, s⟩) hn]
      have HN := Lib.hid hn
      clear hn
      unfold Ty.vals
      go_enter Try.func26, Try.ntmps26
      go_wp2_with fail
      refine (IsName_any s _ hl).mono ?_
      rw [HN.out]
      rintro e w1 ⟨rfl, x1⟩
      go_wp2
      go_ret
      exact ⟨rfl, ((Ext.refl w).alloc _).trans x1⟩
  · rw [checkT_no (okT_odd n1 n2 n3 n4 n5 n6)]
    unfold Ty.vals
    go_enter Try.func26, Try.ntmps26
    go_wp2
    go_ret
    exact ⟨rfl, (Ext.refl w).alloc _⟩
end Go.Proofs.Ytibcaienaejgpaa
