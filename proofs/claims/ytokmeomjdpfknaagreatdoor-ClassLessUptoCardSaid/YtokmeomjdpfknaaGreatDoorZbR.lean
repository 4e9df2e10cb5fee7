/- Several texts of this proof, one behind the other. -/
import Derived.Test.YtokmeomjdpfknaaGreatDoorZbQ
import Derived.Laws.RangeAny
import Derived.Lib.OthersKept
namespace Go.Proofs.YtokmeomjdpfknaaGreatDoor
open Go.RowKit
set_option linter.unusedVariables false

theorem sclone_anyD (s : ByteArray) (w : World) (hs : s.size ≤ 140737488351232) :
    Calls Tryz.prog 256 #[.string s] w fun e w' => e = .returned (.string s) ∧ Ext w w' := by
  go_enter Tryz.func256, Tryz.ntmps256
  go_wp2_with fail
  refine (Tryz.stringslite_Clone s _ (by omega)).mono ?_
  rintro e w1 ⟨rfl, h1⟩
  go_wp2
  go_ret
  exact ⟨rfl, h1⟩
def begZ (r : Int) : Bool := (decide (97 ≤ r) && decide (r ≤ 122)) || (decide (65 ≤ r) && decide (r ≤ 90)) || decide (r = 95) || decide (r = 36)
def digZ (r : Int) : Bool := decide (48 ≤ r) && decide (r ≤ 57)
theorem beginsName_any (r : Int) (w : World) : Calls Tryz.prog 128 #[.int .i32 r] w fun e w' => e = .returned (.bool (begZ r)) ∧ w' = w := by
  have hb : begZ r = true ↔ (97 ≤ r ∧ r ≤ 122) ∨ (65 ≤ r ∧ r ≤ 90) ∨ r = 95 ∨ r = 36 := by simp [begZ, or_assoc]
  have H : (begZ r = true ∧ 65 ≤ r ∧ r ≤ 90) ∨ (begZ r = true ∧ 90 < r ∧ 97 ≤ r ∧ r ≤ 122) ∨ (begZ r = true ∧ r = 95) ∨ (begZ r = true ∧ r = 36) ∨
      (begZ r = false ∧ (r == 95) = false ∧ (r == 36) = false ∧ (r < 65 ∨ (¬ r ≤ 90 ∧ 90 < r ∧ r < 97) ∨ (¬ r ≤ 90 ∧ ¬ r ≤ 122 ∧ 122 < r))) := by
    cases h : begZ r
    · rw [← Bool.not_eq_true, hb] at h
      right; right; right; right
      refine ⟨rfl, by rw [beq_eq_false_iff_ne]; omega, by rw [beq_eq_false_iff_ne]; omega, by omega⟩
    · have := hb.1 h
      simp only [true_and]
      omega
  clear hb
  rcases H with ⟨h, h1, h2⟩ | ⟨h, h0, h1, h2⟩ | ⟨h, rfl⟩ | ⟨h, rfl⟩ | ⟨h, h1, h2, h3 | ⟨h3, h4, h5⟩ | ⟨h3, h4, h5⟩⟩
  all_goals
    rw [h]
    clear h
    go_enter Tryz.func128, Tryz.ntmps128
    go_wp2
    go_ret
    exact ⟨rfl, rfl⟩
theorem isDigit_any (r : Int) (w : World) : Calls Tryz.prog 129 #[.int .i32 r] w fun e w' => e = .returned (.bool (digZ r)) ∧ w' = w := by
  have H : (digZ r = true ∧ 48 ≤ r ∧ r ≤ 57) ∨ (digZ r = false ∧ r < 48) ∨ (digZ r = false ∧ 48 ≤ r ∧ ¬ r ≤ 57) := by
    have hb : digZ r = true ↔ (48 ≤ r ∧ r ≤ 57) := by simp [digZ]
    cases h : digZ r
    · rw [← Bool.not_eq_true, hb] at h
      simp
      omega
    · have := hb.1 h
      simp only [true_and]
      omega
  rcases H with ⟨h, h1, h2⟩ | ⟨h, h1⟩ | ⟨h, h1, h2⟩
  all_goals
    rw [h]
    clear h
    go_enter Tryz.func129, Tryz.ntmps129
    go_wp2
    go_ret
    exact ⟨rfl, rfl⟩
theorem begZ_byte (c : UInt8) : begZ (c.toNat : Int) = letter c := by
  unfold begZ letter
  congr 1
  · congr 1
    · congr 1
      · congr 1 <;> exact decide_eq_decide.2 (by omega)
      · congr 1 <;> exact decide_eq_decide.2 (by omega)
    · exact decide_eq_decide.2 (by omega)
  · exact decide_eq_decide.2 (by omega)
theorem digZ_byte (c : UInt8) : digZ (c.toNat : Int) = digit c := by
  unfold digZ digit
  congr 1 <;> exact decide_eq_decide.2 (by omega)
theorem begZ_high {r : Nat} (h : 128 ≤ r) : begZ r = false ∧ digZ r = false := by
  simp only [begZ, digZ, Bool.or_eq_false_iff, Bool.and_eq_false_iff, decide_eq_false_iff_not]
  omega
theorem okAt_high {c : UInt8} (h : 128 ≤ c.toNat) (k : Nat) : okAt c k = false := by
  have h1 := begZ_high h
  rw [begZ_byte, digZ_byte] at h1
  simp [okAt, h1]
theorem rune_at {l : List UInt8} {k : Nat} (h : k < l.length) {c : UInt8} (hc : l[k] = c) :
    ∃ r m, Utf8.decode (bs l) k = (r, m) ∧ 1 ≤ m ∧ ((begZ r = true ∧ okAt c k = true ∧ m = 1) ∨ (begZ r = false ∧ digZ r = true ∧ okAt c k = decide (0 < k) ∧ m = 1) ∨ (begZ r = false ∧ digZ r = false ∧ okAt c k = false)) := by
  have hs : k < (bs l).size := h
  have hg : (bs l)[k]'hs = c := hc
  by_cases ha : c.toNat < 128
  · refine ⟨c.toNat, 1, by rw [decode_ascii (bs l) k hs (by rw [hg]; exact ha), hg], Nat.le_refl _, ?_⟩
    rw [begZ_byte, digZ_byte]
    cases h1 : letter c
    · cases h2 : digit c
      · right; right
        exact ⟨rfl, rfl, by simp [okAt, h1, h2]⟩
      · right; left
        exact ⟨rfl, rfl, by simp [okAt, h1, h2], rfl⟩
    · left
      exact ⟨rfl, by simp [okAt, h1], rfl⟩
  · have h1 := decode_high (bs l) k hs (by rw [hg]; omega)
    obtain ⟨b1, b2⟩ := begZ_high h1.1
    exact ⟨_, _, rfl, h1.2, .inr (.inr ⟨b1, b2, okAt_high (by omega) k⟩)⟩
set_option maxHeartbeats 2000000 in
theorem IsName_any (l : List UInt8) (w : World) (hl : l.length ≤ 140737488351232) :
    Calls Tryz.prog 76 #[.string (bs l)] w fun e w' => e = .returned (.bool (nameB l)) ∧ Ext w w' := by
  have hsz : (bs l).size = l.length := rfl
  have hbs := bs_nil l
  by_cases h0 : l = []
  · subst h0
    go_enter Tryz.func76, Tryz.ntmps76
    go_wp2
    go_ret
    exact ⟨rfl, Ext.refl w⟩
  have he : l.isEmpty = false := by cases l with | nil => exact absurd rfl h0 | cons => rfl
  have he2 : (l == []) = false := by simpa using h0
  have hp : 0 < l.length := List.length_pos_iff.2 h0
  have Hp := Lib.hid hp
  clear h0 hp
  by_cases h64 : 64 < l.length
  · rw [nameB_long h64]
    go_enter Tryz.func76, Tryz.ntmps76
    go_wp2
    go_ret
    exact ⟨rfl, Ext.refl w⟩
  go_enter Tryz.func76, Tryz.ntmps76
  go_wp2
  go_loopw [] (fun wr => ∃ k : Nat, k ≤ l.length ∧ wr.heap[w.heap.size]? = some (.stringIter (bs l) k) ∧ Ext w wr ∧ Hid (∀ j (h : j < l.length), j < k → okAt l[j] j = true)) (fun wr => l.length - wr.iterPos w.heap.size)
  case atStart =>
    refine ⟨0, by omega, ?_, Ext.alloc (Ext.refl w) (.stringIter (bs l) 0), Lib.hid (fun j _ h => absurd h (Nat.not_lt_zero _))⟩
    have := World.iter_heap w (bs l) 0
    simpa using this
  case round =>
    obtain ⟨k, hk, hit, hx, Ht⟩ := hrel
    have hszr : w.heap.size < wr.heap.size := lt_of_get hit
    by_cases hlt : k < l.length
    · obtain ⟨c, hc⟩ : ∃ c, l[k] = c := ⟨_, rfl⟩
      obtain ⟨r, m, hdec, hm, hr⟩ := rune_at hlt hc
      have hnx : ∀ ty, (Instr.next (.pointer (some ⟨w.heap.size, 0, none⟩)) true ty).run Tryz.prog wr = _ := fun ty => Lib.run_next_any_at wr w.heap.size (bs l) k ty hit hlt
      simp only [hdec] at hnx
      have hit2 := Lib.iterAt_heap wr w.heap.size (bs l) k (k + m) hit
      have hx2 : Ext w (wr.iterAt w.heap.size (bs l) (k + m)) := Lib.below_iterAt hx (Nat.le_refl _) (bs l) (k + m)
      have Next := Lib.hid (show okAt c k = true → m = 1 → k + m ≤ l.length ∧ ∀ j (h : j < l.length), j < k + m → okAt l[j] j = true from by
        rintro ho rfl
        refine ⟨by omega, fun j h hj => ?_⟩
        by_cases hjk : j < k
        · exact Ht.out j h hjk
        · obtain rfl : j = k := by omega
          rw [hc]
          exact ho)
      have Bad := Lib.hid (fun hb => nameB_bad hlt hc hb)
      clear hdec hc
      have CB := Lib.hid (fun W => beginsName_any r W)
      have CD := Lib.hid (fun W => isDigit_any r W)
      rcases hr with ⟨hb, ho, rfl⟩ | ⟨hb, hd, ho, rfl⟩ | ⟨hb, hd, ho⟩
      · rw [hb] at CB
        obtain ⟨n1, n2⟩ := Next.out ho rfl
        have N2 := Lib.hid n2
        clear hb ho n2
        go_wp2_with fail
        refine (CB.out _).mono ?_
        rintro e w2 ⟨rfl, rfl⟩
        go_wp2
        go_roundw
        case rel => exact ⟨k + 1, n1, hit2, hx2, N2⟩
        case measure =>
          simp only [World.iterPos, hit2, hit]
          omega
      · rw [hb] at CB
        rw [hd] at CD
        by_cases hk0 : k = 0
        · have hk1 : ((k : Int) == 0) = true := by rw [beq_iff_eq]; omega
          have Ho := Lib.hid (Bad.out (ho.trans (by rw [hk0]; rfl)))
          clear hb ho hd hk0
          go_wp2_with fail
          refine (CB.out _).mono ?_
          rintro e w2 ⟨rfl, rfl⟩
          go_wp2
          go_ret
          exact ⟨by rw [Ho.out]; rfl, hx2⟩
        · have hk1 : ((k : Int) == 0) = false := by rw [beq_eq_false_iff_ne]; omega
          obtain ⟨n1, n2⟩ := Next.out (ho.trans (decide_eq_true (by omega))) rfl
          have N2 := Lib.hid n2
          clear hb ho n2 hd
          go_wp2_with fail
          refine (CB.out _).mono ?_
          rintro e w2 ⟨rfl, rfl⟩
          go_wp2_with fail
          refine (CD.out _).mono ?_
          rintro e w2 ⟨rfl, rfl⟩
          go_wp2
          go_roundw
          case rel => exact ⟨k + 1, n1, hit2, hx2, N2⟩
          case measure =>
            simp only [World.iterPos, hit2, hit]
            omega
      · rw [hb] at CB
        rw [hd] at CD
        have Ho := Lib.hid (Bad.out ho)
        clear hb ho hd
        cases hk1 : ((k : Int) == 0)
        · go_wp2_with fail
          refine (CB.out _).mono ?_
          rintro e w2 ⟨rfl, rfl⟩
          go_wp2_with fail
          refine (CD.out _).mono ?_
          rintro e w2 ⟨rfl, rfl⟩
          go_wp2
          go_ret
          exact ⟨by rw [Ho.out]; rfl, hx2⟩
        · go_wp2_with fail
          refine (CB.out _).mono ?_
          rintro e w2 ⟨rfl, rfl⟩
          go_wp2
          go_ret
          exact ⟨by rw [Ho.out]; rfl, hx2⟩
    · obtain rfl : k = l.length := by omega
      have hnx : ∀ ty, (Instr.next (.pointer (some ⟨w.heap.size, 0, none⟩)) true ty).run Tryz.prog wr = _ := fun ty => Lib.run_next_end_at wr w.heap.size (bs l) l.length ty hit hlt
      have HE := Lib.hid (nameB_at.2 ⟨Hp.out, by omega, fun j h => Ht.out j h (by omega)⟩)
      go_wp2
      go_ret
      exact ⟨by rw [HE.out]; rfl, hx⟩
set_option maxHeartbeats 8000000 in
theorem CheckType_any (t : TyD) (w : World) (hl : t.s.length ≤ 140737488351232) :
    Calls Tryz.prog 134 #[.agg t.vals] w fun e w' => e = .returned (.int .i64 (checkT t)) ∧ Ext w w' := by
  obtain ⟨k, s⟩ := t
  have hbs := bs_nil s
  have hsz : (bs s).size = s.length := rfl
  rcases kinds k with rfl | rfl | rfl | rfl | rfl | rfl | ⟨n1, n2, n3, n4, n5, n6, -⟩
  · by_cases hn : s = []
    · subst hn
      rw [checkT_yes (t := ⟨1, []⟩) rfl]
      unfold TyD.vals
      go_enter Tryz.func134, Tryz.ntmps134
      go_wp2
      go_ret
      exact ⟨rfl, (Ext.refl w).alloc _⟩
    · rw [checkT_no (t := ⟨1, s⟩) (by unfold okT; simpa using hn)]
      have he : (s == []) = false := by simpa using hn
      clear hn
      unfold TyD.vals
      go_enter Tryz.func134, Tryz.ntmps134
      go_wp2
      go_ret
      exact ⟨rfl, (Ext.refl w).alloc _⟩
  · by_cases hn : s = []
    · subst hn
      rw [checkT_yes (t := ⟨2, []⟩) rfl]
      unfold TyD.vals
      go_enter Tryz.func134, Tryz.ntmps134
      go_wp2
      go_ret
      exact ⟨rfl, (Ext.refl w).alloc _⟩
    · rw [checkT_no (t := ⟨2, s⟩) (by unfold okT; simpa using hn)]
      have he : (s == []) = false := by simpa using hn
      clear hn
      unfold TyD.vals
      go_enter Tryz.func134, Tryz.ntmps134
      go_wp2
      go_ret
      exact ⟨rfl, (Ext.refl w).alloc _⟩
  · cases hn : nameB s
    · rw [checkT_no (t := ⟨3, s⟩) hn]
      have HN := Lib.hid hn
      clear hn
      unfold TyD.vals
      go_enter Tryz.func134, Tryz.ntmps134
      go_wp2_with fail
      refine (IsName_any s _ hl).mono ?_
      rw [HN.out]
      rintro e w1 ⟨rfl, x1⟩
      go_wp2
      go_ret
      exact ⟨rfl, ((Ext.refl w).alloc _).trans x1⟩
    · rw [checkT_yes (t := ⟨3, s⟩) hn]
      have HN := Lib.hid hn
      clear hn
      unfold TyD.vals
      go_enter Tryz.func134, Tryz.ntmps134
      go_wp2_with fail
      refine (IsName_any s _ hl).mono ?_
      rw [HN.out]
      rintro e w1 ⟨rfl, x1⟩
      go_wp2
      go_ret
      exact ⟨rfl, ((Ext.refl w).alloc _).trans x1⟩
  · by_cases hn : s = []
    · subst hn
      rw [checkT_yes (t := ⟨4, []⟩) rfl]
      unfold TyD.vals
      go_enter Tryz.func134, Tryz.ntmps134
      go_wp2
      go_ret
      exact ⟨rfl, (Ext.refl w).alloc _⟩
    · rw [checkT_no (t := ⟨4, s⟩) (by unfold okT; simpa using hn)]
      have he : (s == []) = false := by simpa using hn
      clear hn
      unfold TyD.vals
      go_enter Tryz.func134, Tryz.ntmps134
      go_wp2
      go_ret
      exact ⟨rfl, (Ext.refl w).alloc _⟩
  · by_cases hn : s = []
    · subst hn
      rw [checkT_yes (t := ⟨5, []⟩) rfl]
      unfold TyD.vals
      go_enter Tryz.func134, Tryz.ntmps134
      go_wp2
      go_ret
      exact ⟨rfl, (Ext.refl w).alloc _⟩
    · rw [checkT_no (t := ⟨5, s⟩) (by unfold okT; simpa using hn)]
      have he : (s == []) = false := by simpa using hn
      clear hn
      unfold TyD.vals
      go_enter Tryz.func134, Tryz.ntmps134
      go_wp2
      go_ret
      exact ⟨rfl, (Ext.refl w).alloc _⟩
  · cases hn : nameB s
    · rw [checkT_no (t := ⟨6, s⟩) hn]
      have HN := Lib.hid hn
      clear hn
      unfold TyD.vals
      go_enter Tryz.func134, Tryz.ntmps134
      go_wp2_with fail
      refine (IsName_any s _ hl).mono ?_
      rw [HN.out]
      rintro e w1 ⟨rfl, x1⟩
      go_wp2
      go_ret
      exact ⟨rfl, ((Ext.refl w).alloc _).trans x1⟩
    · rw [checkT_yes (t := ⟨6, s⟩) hn]
      have HN := Lib.hid hn
      clear hn
      unfold TyD.vals
      go_enter Tryz.func134, Tryz.ntmps134
      go_wp2_with fail
      refine (IsName_any s _ hl).mono ?_
      rw [HN.out]
      rintro e w1 ⟨rfl, x1⟩
      go_wp2
      go_ret
      exact ⟨rfl, ((Ext.refl w).alloc _).trans x1⟩
  · rw [checkT_no (okT_odd n1 n2 n3 n4 n5 n6)]
    unfold TyD.vals
    go_enter Tryz.func134, Tryz.ntmps134
    go_wp2
    go_ret
    exact ⟨rfl, (Ext.refl w).alloc _⟩
end Go.Proofs.YtokmeomjdpfknaaGreatDoor
namespace Go.Proofs.YtokmeomjdpfknaaGreatDoor
open Go.RowKit
set_option linter.unusedVariables false

theorem ofKind_any (k : Int) (t : TyD) (w : World) (hl : t.s.length ≤ 140737488351232) :
    Calls Tryz.prog 233 #[.int .i64 k, .agg t.vals] w fun e w' => e = .returned (.agg (TyD.vals ⟨k, t.s⟩)) ∧ Ext w w' := by
  obtain ⟨k0, s⟩ := t
  have hc := fun W => sclone_anyD (bs s) W hl
  have HC := Lib.hid hc
  clear hc
  unfold TyD.vals
  go_enter Tryz.func233, Tryz.ntmps233
  go_wp2_with fail
  refine (HC.out _).mono ?_
  rintro e w1 ⟨rfl, x1⟩
  obtain ⟨g1, g2, hlt, hx⟩ := two_ext x1
  have f0 : w1.frozen? ⟨w.heap.size + 1, 0, none⟩ = false := by simp [World.frozen?, g2]
  have f1 : w1.frozen? ⟨w.heap.size + 1, 1, none⟩ = false := by simp [World.frozen?, g2]
  have hg2 : w1.heap[w.heap.size + 1]? = some (.cells #[.int .i64 0, .string ⟨#[]⟩] 41 (0, 0)) := g2
  have d0 : w1.cell? ⟨w.heap.size + 1, 0, none⟩ = some (.int .i64 0) := by rw [cell_of_row w1 _ _ _ _ _ hg2]; rfl
  have d1 : w1.cell? ⟨w.heap.size + 1, 1, none⟩ = some (.string ⟨#[]⟩) := by rw [cell_of_row w1 _ _ _ _ _ hg2]; rfl
  clear g1 g2 hg2
  have HX := Lib.hid hx
  clear x1 hx
  go_wp2
  refine bodyPost_ret (v := .agg (TyD.vals ⟨k, s⟩)) (by unfold TyD.vals; simp [results, Tryz.results233, go_sem, d0, d1]; try exact ⟨rfl, rfl⟩) rfl ⟨rfl, Ext.set_ (Ext.set_ HX.out (Nat.le_succ _) _) (Nat.le_succ _) _⟩
set_option maxHeartbeats 8000000 in
theorem Elem_any (t : TyD) (w : World) (hl : t.s.length ≤ 140737488351232) :
    Calls Tryz.prog 197 #[.agg t.vals] w fun e w' => e = .returned (.tuple #[.agg (elemT t).1.vals, .bool (elemT t).2]) ∧ Ext w w' := by
  obtain ⟨k, s⟩ := t
  have hbs : s.length ≤ 140737488351232 := hl
  rcases kinds k with rfl | rfl | rfl | rfl | rfl | rfl | ⟨n1, n2, n3, n4, n5, n6, n7⟩
  · rw [elemT_1]
    unfold TyD.vals
    go_enter Tryz.func197, Tryz.ntmps197
    go_wp2
    refine bodyPost_ret (v := .tuple #[.agg (TyD.vals t0D), .bool false]) (by unfold TyD.vals; simp [results, Tryz.results197, go_sem]; try exact ⟨rfl, rfl⟩) rfl ⟨rfl, ?_⟩
    first | exact Ext.refl w | exact (Ext.refl w).alloc _ | exact ((Ext.refl w).alloc _).alloc _ | exact (((Ext.refl w).alloc _).alloc _).alloc _
  · rw [elemT_2]
    unfold TyD.vals
    go_enter Tryz.func197, Tryz.ntmps197
    go_wp2
    refine bodyPost_ret (v := .tuple #[.agg (TyD.vals t0D), .bool false]) (by unfold TyD.vals; simp [results, Tryz.results197, go_sem]; try exact ⟨rfl, rfl⟩) rfl ⟨rfl, ?_⟩
    first | exact Ext.refl w | exact (Ext.refl w).alloc _ | exact ((Ext.refl w).alloc _).alloc _ | exact (((Ext.refl w).alloc _).alloc _).alloc _
  · rw [elemT_3]
    unfold TyD.vals
    go_enter Tryz.func197, Tryz.ntmps197
    go_wp2
    refine bodyPost_ret (v := .tuple #[.agg (TyD.vals t0D), .bool false]) (by unfold TyD.vals; simp [results, Tryz.results197, go_sem]; try exact ⟨rfl, rfl⟩) rfl ⟨rfl, ?_⟩
    first | exact Ext.refl w | exact (Ext.refl w).alloc _ | exact ((Ext.refl w).alloc _).alloc _ | exact (((Ext.refl w).alloc _).alloc _).alloc _
  · rw [elemT_4]
    have hc := fun W => ofKind_any 1 ⟨4, s⟩ W hl
    unfold TyD.vals at hc
    have HC := Lib.hid hc
    clear hc
    unfold TyD.vals
    go_enter Tryz.func197, Tryz.ntmps197
    go_wp2_with fail
    refine (HC.out _).mono ?_
    rintro e w1 ⟨rfl, x1⟩
    obtain ⟨g1, g2, hlt, hx⟩ := two_ext x1
    have f0 : w1.frozen? ⟨w.heap.size + 1, 0, none⟩ = false := by simp [World.frozen?, g2]
    have f1 : w1.frozen? ⟨w.heap.size + 1, 1, none⟩ = false := by simp [World.frozen?, g2]
    have hg2 : w1.heap[w.heap.size + 1]? = some (.cells #[.int .i64 0, .string ⟨#[]⟩] 41 (0, 0)) := g2
    have d0 : w1.cell? ⟨w.heap.size + 1, 0, none⟩ = some (.int .i64 0) := by rw [cell_of_row w1 _ _ _ _ _ hg2]; rfl
    have d1 : w1.cell? ⟨w.heap.size + 1, 1, none⟩ = some (.string ⟨#[]⟩) := by rw [cell_of_row w1 _ _ _ _ _ hg2]; rfl
    clear g1 g2 hg2
    have HX := Lib.hid hx
    clear x1 hx
    go_wp2
    refine bodyPost_ret (v := .tuple #[.agg (TyD.vals ⟨1, s⟩), .bool true]) (by unfold TyD.vals; simp [results, Tryz.results197, go_sem, d0, d1]; try exact ⟨rfl, rfl⟩) rfl ⟨rfl, Ext.set_ (Ext.set_ HX.out (Nat.le_succ _) _) (Nat.le_succ _) _⟩
  · rw [elemT_5]
    have hc := fun W => ofKind_any 2 ⟨5, s⟩ W hl
    unfold TyD.vals at hc
    have HC := Lib.hid hc
    clear hc
    unfold TyD.vals
    go_enter Tryz.func197, Tryz.ntmps197
    go_wp2_with fail
    refine (HC.out _).mono ?_
    rintro e w1 ⟨rfl, x1⟩
    obtain ⟨g1, g2, hlt, hx⟩ := two_ext x1
    have f0 : w1.frozen? ⟨w.heap.size + 1, 0, none⟩ = false := by simp [World.frozen?, g2]
    have f1 : w1.frozen? ⟨w.heap.size + 1, 1, none⟩ = false := by simp [World.frozen?, g2]
    have hg2 : w1.heap[w.heap.size + 1]? = some (.cells #[.int .i64 0, .string ⟨#[]⟩] 41 (0, 0)) := g2
    have d0 : w1.cell? ⟨w.heap.size + 1, 0, none⟩ = some (.int .i64 0) := by rw [cell_of_row w1 _ _ _ _ _ hg2]; rfl
    have d1 : w1.cell? ⟨w.heap.size + 1, 1, none⟩ = some (.string ⟨#[]⟩) := by rw [cell_of_row w1 _ _ _ _ _ hg2]; rfl
    clear g1 g2 hg2
    have HX := Lib.hid hx
    clear x1 hx
    go_wp2
    refine bodyPost_ret (v := .tuple #[.agg (TyD.vals ⟨2, s⟩), .bool true]) (by unfold TyD.vals; simp [results, Tryz.results197, go_sem, d0, d1]; try exact ⟨rfl, rfl⟩) rfl ⟨rfl, Ext.set_ (Ext.set_ HX.out (Nat.le_succ _) _) (Nat.le_succ _) _⟩
  · rw [elemT_6]
    have hc := fun W => ofKind_any 3 ⟨6, s⟩ W hl
    unfold TyD.vals at hc
    have HC := Lib.hid hc
    clear hc
    unfold TyD.vals
    go_enter Tryz.func197, Tryz.ntmps197
    go_wp2_with fail
    refine (HC.out _).mono ?_
    rintro e w1 ⟨rfl, x1⟩
    obtain ⟨g1, g2, hlt, hx⟩ := two_ext x1
    have f0 : w1.frozen? ⟨w.heap.size + 1, 0, none⟩ = false := by simp [World.frozen?, g2]
    have f1 : w1.frozen? ⟨w.heap.size + 1, 1, none⟩ = false := by simp [World.frozen?, g2]
    have hg2 : w1.heap[w.heap.size + 1]? = some (.cells #[.int .i64 0, .string ⟨#[]⟩] 41 (0, 0)) := g2
    have d0 : w1.cell? ⟨w.heap.size + 1, 0, none⟩ = some (.int .i64 0) := by rw [cell_of_row w1 _ _ _ _ _ hg2]; rfl
    have d1 : w1.cell? ⟨w.heap.size + 1, 1, none⟩ = some (.string ⟨#[]⟩) := by rw [cell_of_row w1 _ _ _ _ _ hg2]; rfl
    clear g1 g2 hg2
    have HX := Lib.hid hx
    clear x1 hx
    go_wp2
    refine bodyPost_ret (v := .tuple #[.agg (TyD.vals ⟨3, s⟩), .bool true]) (by unfold TyD.vals; simp [results, Tryz.results197, go_sem, d0, d1]; try exact ⟨rfl, rfl⟩) rfl ⟨rfl, Ext.set_ (Ext.set_ HX.out (Nat.le_succ _) _) (Nat.le_succ _) _⟩
  · rw [elemT_0 n1 n2 n3 n4 n5 n6]
    unfold TyD.vals
    go_enter Tryz.func197, Tryz.ntmps197
    go_wp2
    refine bodyPost_ret (v := .tuple #[.agg (TyD.vals t0D), .bool false]) (by unfold TyD.vals; simp [results, Tryz.results197, go_sem]; try exact ⟨rfl, rfl⟩) rfl ⟨rfl, ?_⟩
    first | exact Ext.refl w | exact (Ext.refl w).alloc _ | exact ((Ext.refl w).alloc _).alloc _ | exact (((Ext.refl w).alloc _).alloc _).alloc _
set_option maxHeartbeats 8000000 in
theorem Over_any (t : TyD) (w : World) (hl : t.s.length ≤ 140737488351232) :
    Calls Tryz.prog 252 #[.agg t.vals] w fun e w' => e = .returned (.tuple #[.agg (overT t).1.vals, .bool (overT t).2]) ∧ Ext w w' := by
  obtain ⟨k, s⟩ := t
  have hbs : s.length ≤ 140737488351232 := hl
  rcases kinds k with rfl | rfl | rfl | rfl | rfl | rfl | ⟨n1, n2, n3, n4, n5, n6, n7⟩
  · rw [overT_1]
    have hc := fun W => ofKind_any 4 ⟨1, s⟩ W hl
    unfold TyD.vals at hc
    have HC := Lib.hid hc
    clear hc
    unfold TyD.vals
    go_enter Tryz.func252, Tryz.ntmps252
    go_wp2_with fail
    refine (HC.out _).mono ?_
    rintro e w1 ⟨rfl, x1⟩
    obtain ⟨g1, g2, hlt, hx⟩ := two_ext x1
    have f0 : w1.frozen? ⟨w.heap.size + 1, 0, none⟩ = false := by simp [World.frozen?, g2]
    have f1 : w1.frozen? ⟨w.heap.size + 1, 1, none⟩ = false := by simp [World.frozen?, g2]
    have hg2 : w1.heap[w.heap.size + 1]? = some (.cells #[.int .i64 0, .string ⟨#[]⟩] 41 (0, 0)) := g2
    have d0 : w1.cell? ⟨w.heap.size + 1, 0, none⟩ = some (.int .i64 0) := by rw [cell_of_row w1 _ _ _ _ _ hg2]; rfl
    have d1 : w1.cell? ⟨w.heap.size + 1, 1, none⟩ = some (.string ⟨#[]⟩) := by rw [cell_of_row w1 _ _ _ _ _ hg2]; rfl
    clear g1 g2 hg2
    have HX := Lib.hid hx
    clear x1 hx
    go_wp2
    refine bodyPost_ret (v := .tuple #[.agg (TyD.vals ⟨4, s⟩), .bool true]) (by unfold TyD.vals; simp [results, Tryz.results252, go_sem, d0, d1]; try exact ⟨rfl, rfl⟩) rfl ⟨rfl, Ext.set_ (Ext.set_ HX.out (Nat.le_succ _) _) (Nat.le_succ _) _⟩
  · rw [overT_2]
    have hc := fun W => ofKind_any 5 ⟨2, s⟩ W hl
    unfold TyD.vals at hc
    have HC := Lib.hid hc
    clear hc
    unfold TyD.vals
    go_enter Tryz.func252, Tryz.ntmps252
    go_wp2_with fail
    refine (HC.out _).mono ?_
    rintro e w1 ⟨rfl, x1⟩
    obtain ⟨g1, g2, hlt, hx⟩ := two_ext x1
    have f0 : w1.frozen? ⟨w.heap.size + 1, 0, none⟩ = false := by simp [World.frozen?, g2]
    have f1 : w1.frozen? ⟨w.heap.size + 1, 1, none⟩ = false := by simp [World.frozen?, g2]
    have hg2 : w1.heap[w.heap.size + 1]? = some (.cells #[.int .i64 0, .string ⟨#[]⟩] 41 (0, 0)) := g2
    have d0 : w1.cell? ⟨w.heap.size + 1, 0, none⟩ = some (.int .i64 0) := by rw [cell_of_row w1 _ _ _ _ _ hg2]; rfl
    have d1 : w1.cell? ⟨w.heap.size + 1, 1, none⟩ = some (.string ⟨#[]⟩) := by rw [cell_of_row w1 _ _ _ _ _ hg2]; rfl
    clear g1 g2 hg2
    have HX := Lib.hid hx
    clear x1 hx
    go_wp2
    refine bodyPost_ret (v := .tuple #[.agg (TyD.vals ⟨5, s⟩), .bool true]) (by unfold TyD.vals; simp [results, Tryz.results252, go_sem, d0, d1]; try exact ⟨rfl, rfl⟩) rfl ⟨rfl, Ext.set_ (Ext.set_ HX.out (Nat.le_succ _) _) (Nat.le_succ _) _⟩
  · rw [overT_3]
    have hc := fun W => ofKind_any 6 ⟨3, s⟩ W hl
    unfold TyD.vals at hc
    have HC := Lib.hid hc
    clear hc
    unfold TyD.vals
    go_enter Tryz.func252, Tryz.ntmps252
    go_wp2_with fail
    refine (HC.out _).mono ?_
    rintro e w1 ⟨rfl, x1⟩
    obtain ⟨g1, g2, hlt, hx⟩ := two_ext x1
    have f0 : w1.frozen? ⟨w.heap.size + 1, 0, none⟩ = false := by simp [World.frozen?, g2]
    have f1 : w1.frozen? ⟨w.heap.size + 1, 1, none⟩ = false := by simp [World.frozen?, g2]
    have hg2 : w1.heap[w.heap.size + 1]? = some (.cells #[.int .i64 0, .string ⟨#[]⟩] 41 (0, 0)) := g2
    have d0 : w1.cell? ⟨w.heap.size + 1, 0, none⟩ = some (.int .i64 0) := by rw [cell_of_row w1 _ _ _ _ _ hg2]; rfl
    have d1 : w1.cell? ⟨w.heap.size + 1, 1, none⟩ = some (.string ⟨#[]⟩) := by rw [cell_of_row w1 _ _ _ _ _ hg2]; rfl
    clear g1 g2 hg2
    have HX := Lib.hid hx
    clear x1 hx
    go_wp2
    refine bodyPost_ret (v := .tuple #[.agg (TyD.vals ⟨6, s⟩), .bool true]) (by unfold TyD.vals; simp [results, Tryz.results252, go_sem, d0, d1]; try exact ⟨rfl, rfl⟩) rfl ⟨rfl, Ext.set_ (Ext.set_ HX.out (Nat.le_succ _) _) (Nat.le_succ _) _⟩
  · rw [overT_4]
    unfold TyD.vals
    go_enter Tryz.func252, Tryz.ntmps252
    go_wp2
    refine bodyPost_ret (v := .tuple #[.agg (TyD.vals t0D), .bool false]) (by unfold TyD.vals; simp [results, Tryz.results252, go_sem]; try exact ⟨rfl, rfl⟩) rfl ⟨rfl, ?_⟩
    first | exact Ext.refl w | exact (Ext.refl w).alloc _ | exact ((Ext.refl w).alloc _).alloc _ | exact (((Ext.refl w).alloc _).alloc _).alloc _
  · rw [overT_5]
    unfold TyD.vals
    go_enter Tryz.func252, Tryz.ntmps252
    go_wp2
    refine bodyPost_ret (v := .tuple #[.agg (TyD.vals t0D), .bool false]) (by unfold TyD.vals; simp [results, Tryz.results252, go_sem]; try exact ⟨rfl, rfl⟩) rfl ⟨rfl, ?_⟩
    first | exact Ext.refl w | exact (Ext.refl w).alloc _ | exact ((Ext.refl w).alloc _).alloc _ | exact (((Ext.refl w).alloc _).alloc _).alloc _
  · rw [overT_6]
    unfold TyD.vals
    go_enter Tryz.func252, Tryz.ntmps252
    go_wp2
    refine bodyPost_ret (v := .tuple #[.agg (TyD.vals t0D), .bool false]) (by unfold TyD.vals; simp [results, Tryz.results252, go_sem]; try exact ⟨rfl, rfl⟩) rfl ⟨rfl, ?_⟩
    first | exact Ext.refl w | exact (Ext.refl w).alloc _ | exact ((Ext.refl w).alloc _).alloc _ | exact (((Ext.refl w).alloc _).alloc _).alloc _
  · rw [overT_0 n1 n2 n3 n4 n5 n6]
    unfold TyD.vals
    go_enter Tryz.func252, Tryz.ntmps252
    go_wp2
    refine bodyPost_ret (v := .tuple #[.agg (TyD.vals t0D), .bool false]) (by unfold TyD.vals; simp [results, Tryz.results252, go_sem]; try exact ⟨rfl, rfl⟩) rfl ⟨rfl, ?_⟩
    first | exact Ext.refl w | exact (Ext.refl w).alloc _ | exact ((Ext.refl w).alloc _).alloc _ | exact (((Ext.refl w).alloc _).alloc _).alloc _
end Go.Proofs.YtokmeomjdpfknaaGreatDoor
namespace Go.Proofs.YtokmeomjdpfknaaGreatDoor
open Go.RowKit
set_option linter.unusedVariables false

set_option maxHeartbeats 8000000 in
theorem written_lo (t : TyD) (w : World) (hl : t.s.length ≤ 140737488351232) (hlo : ¬ (t.k = 4 ∨ t.k = 5 ∨ t.k = 6)) :
    Calls Tryz.prog 165 #[.agg t.vals] w fun e w' => e = .returned (.string (bs (textT t))) ∧ Ext w w' := by
  obtain ⟨k, s⟩ := t
  have hsl : s.length ≤ 140737488351232 := hl
  have hsz : (bs s).size = s.length := rfl
  rcases kinds k with rfl | rfl | rfl | rfl | rfl | rfl | ⟨n1, n2, n3, n4, n5, n6, n7⟩
  · rw [textT_1]
    have hc := fun W => Elem_any ⟨1, s⟩ W hl
    rw [elemT_1] at hc
    unfold TyD.vals at hc
    have HC := Lib.hid hc
    clear hc
    clear hlo
    unfold TyD.vals
    go_enter Tryz.func165, Tryz.ntmps165
    go_wp2_with fail
    refine (HC.out _).mono ?_
    rintro e w1 ⟨rfl, x1⟩
    have X1 := Lib.hid (((Ext.refl w).alloc _).trans x1)
    have hk := x1.block w.heap.size (by simp)
    have a0 := x1.cell (p := ⟨w.heap.size, 0, none⟩) (by simp)
    have a1 := x1.cell (p := ⟨w.heap.size, 1, none⟩) (by simp)
    rw [cell_of_row _ _ _ _ _ _ (heap_alloc_new w _)] at a0 a1
    simp at a0 a1
    have hlt : w.heap.size < w1.heap.size := by have := x1.size; simp at this; omega
    clear x1 hk
    go_wp2
    go_ret
    exact ⟨rfl, X1.out.alloc _⟩
  · rw [textT_2]
    have hc := fun W => Elem_any ⟨2, s⟩ W hl
    rw [elemT_2] at hc
    unfold TyD.vals at hc
    have HC := Lib.hid hc
    clear hc
    clear hlo
    unfold TyD.vals
    go_enter Tryz.func165, Tryz.ntmps165
    go_wp2_with fail
    refine (HC.out _).mono ?_
    rintro e w1 ⟨rfl, x1⟩
    have X1 := Lib.hid (((Ext.refl w).alloc _).trans x1)
    have hk := x1.block w.heap.size (by simp)
    have a0 := x1.cell (p := ⟨w.heap.size, 0, none⟩) (by simp)
    have a1 := x1.cell (p := ⟨w.heap.size, 1, none⟩) (by simp)
    rw [cell_of_row _ _ _ _ _ _ (heap_alloc_new w _)] at a0 a1
    simp at a0 a1
    have hlt : w.heap.size < w1.heap.size := by have := x1.size; simp at this; omega
    clear x1 hk
    go_wp2
    go_ret
    exact ⟨rfl, X1.out.alloc _⟩
  · rw [textT_3]
    have hc := fun W => Elem_any ⟨3, s⟩ W hl
    rw [elemT_3] at hc
    unfold TyD.vals at hc
    have HC := Lib.hid hc
    clear hc
    have b1 : ∀ W, (Op.stringOp .add ⟨#[76]⟩ (bs s)).run Tryz.prog W = .ok (.string (bs (76 :: s))) W := fun W => add_bs ⟨#[76]⟩ (bs s) [76] s rfl rfl (by simp only [List.length_cons, List.length_nil]; omega) W
    have b2 : ∀ W, (Op.stringOp .add (bs (76 :: s)) ⟨#[59]⟩).run Tryz.prog W = .ok (.string (bs (76 :: (s ++ [59])))) W := fun W => add_bs (bs (76 :: s)) ⟨#[59]⟩ (76 :: s) [59] rfl rfl (by simp; omega) W
    clear hlo
    unfold TyD.vals
    go_enter Tryz.func165, Tryz.ntmps165
    go_wp2_with fail
    refine (HC.out _).mono ?_
    rintro e w1 ⟨rfl, x1⟩
    have X1 := Lib.hid (((Ext.refl w).alloc _).trans x1)
    have hk := x1.block w.heap.size (by simp)
    have a0 := x1.cell (p := ⟨w.heap.size, 0, none⟩) (by simp)
    have a1 := x1.cell (p := ⟨w.heap.size, 1, none⟩) (by simp)
    rw [cell_of_row _ _ _ _ _ _ (heap_alloc_new w _)] at a0 a1
    simp at a0 a1
    have hlt : w.heap.size < w1.heap.size := by have := x1.size; simp at this; omega
    clear x1 hk
    go_wp2
    go_ret
    exact ⟨rfl, X1.out.alloc _⟩
  · exact absurd (by simp) hlo
  · exact absurd (by simp) hlo
  · exact absurd (by simp) hlo
  · rw [textT_0 n1 n2 n3 n4 n5 n6]
    have hc := fun W => Elem_any ⟨k, s⟩ W hl
    rw [elemT_0 n1 n2 n3 n4 n5 n6] at hc
    unfold TyD.vals at hc
    have HC := Lib.hid hc
    clear hc
    clear hlo
    unfold TyD.vals
    go_enter Tryz.func165, Tryz.ntmps165
    go_wp2_with fail
    refine (HC.out _).mono ?_
    rintro e w1 ⟨rfl, x1⟩
    have X1 := Lib.hid (((Ext.refl w).alloc _).trans x1)
    have hk := x1.block w.heap.size (by simp)
    have a0 := x1.cell (p := ⟨w.heap.size, 0, none⟩) (by simp)
    have a1 := x1.cell (p := ⟨w.heap.size, 1, none⟩) (by simp)
    rw [cell_of_row _ _ _ _ _ _ (heap_alloc_new w _)] at a0 a1
    simp at a0 a1
    have hlt : w.heap.size < w1.heap.size := by have := x1.size; simp at this; omega
    clear x1 hk
    go_wp2
    go_ret
    exact ⟨rfl, X1.out.alloc _⟩
set_option maxHeartbeats 8000000 in
theorem written_any (t : TyD) (w : World) (hl : t.s.length ≤ 140737488351232) :
    Calls Tryz.prog 165 #[.agg t.vals] w fun e w' => e = .returned (.string (bs (textT t))) ∧ Ext w w' := by
  by_cases hlo : t.k = 4 ∨ t.k = 5 ∨ t.k = 6
  · obtain ⟨k, s⟩ := t
    have hsl : s.length ≤ 140737488351232 := hl
    rcases hlo with rfl | rfl | rfl
    · rw [textT_4]
      have hc := fun W => Elem_any ⟨4, s⟩ W hl
      rw [elemT_4] at hc
      unfold TyD.vals at hc
      have HC := Lib.hid hc
      clear hc
      have hw := fun W => written_lo ⟨1, s⟩ W hl (by simp)
      rw [textT_1] at hw
      unfold TyD.vals at hw
      have HW := Lib.hid hw
      clear hw
      have b1 : ∀ W, (Op.stringOp .add ⟨#[91]⟩ (bs [73])).run Tryz.prog W = .ok (.string (bs (91 :: [73]))) W := fun W => add_bs ⟨#[91]⟩ (bs [73]) [91] [73] rfl rfl (by simp only [List.length_cons, List.length_nil]; omega) W
      unfold TyD.vals
      go_enter Tryz.func165, Tryz.ntmps165
      go_wp2_with fail
      refine (HC.out _).mono ?_
      rintro e w1 ⟨rfl, x1⟩
      have X1 := Lib.hid (((Ext.refl w).alloc _).trans x1)
      have hk := x1.block w.heap.size (by simp)
      have a0 := x1.cell (p := ⟨w.heap.size, 0, none⟩) (by simp)
      have a1 := x1.cell (p := ⟨w.heap.size, 1, none⟩) (by simp)
      rw [cell_of_row _ _ _ _ _ _ (heap_alloc_new w _)] at a0 a1
      simp at a0 a1
      have hlt : w.heap.size < w1.heap.size := by have := x1.size; simp at this; omega
      clear x1 hk
      go_wp2_with fail
      refine (HW.out _).mono ?_
      rintro e w2 ⟨rfl, x2⟩
      go_wp2
      go_ret
      exact ⟨rfl, (X1.out.alloc _).trans x2⟩
    · rw [textT_5]
      have hc := fun W => Elem_any ⟨5, s⟩ W hl
      rw [elemT_5] at hc
      unfold TyD.vals at hc
      have HC := Lib.hid hc
      clear hc
      have hw := fun W => written_lo ⟨2, s⟩ W hl (by simp)
      rw [textT_2] at hw
      unfold TyD.vals at hw
      have HW := Lib.hid hw
      clear hw
      have b1 : ∀ W, (Op.stringOp .add ⟨#[91]⟩ (bs [74])).run Tryz.prog W = .ok (.string (bs (91 :: [74]))) W := fun W => add_bs ⟨#[91]⟩ (bs [74]) [91] [74] rfl rfl (by simp only [List.length_cons, List.length_nil]; omega) W
      unfold TyD.vals
      go_enter Tryz.func165, Tryz.ntmps165
      go_wp2_with fail
      refine (HC.out _).mono ?_
      rintro e w1 ⟨rfl, x1⟩
      have X1 := Lib.hid (((Ext.refl w).alloc _).trans x1)
      have hk := x1.block w.heap.size (by simp)
      have a0 := x1.cell (p := ⟨w.heap.size, 0, none⟩) (by simp)
      have a1 := x1.cell (p := ⟨w.heap.size, 1, none⟩) (by simp)
      rw [cell_of_row _ _ _ _ _ _ (heap_alloc_new w _)] at a0 a1
      simp at a0 a1
      have hlt : w.heap.size < w1.heap.size := by have := x1.size; simp at this; omega
      clear x1 hk
      go_wp2_with fail
      refine (HW.out _).mono ?_
      rintro e w2 ⟨rfl, x2⟩
      go_wp2
      go_ret
      exact ⟨rfl, (X1.out.alloc _).trans x2⟩
    · rw [textT_6]
      have hc := fun W => Elem_any ⟨6, s⟩ W hl
      rw [elemT_6] at hc
      unfold TyD.vals at hc
      have HC := Lib.hid hc
      clear hc
      have hw := fun W => written_lo ⟨3, s⟩ W hl (by simp)
      rw [textT_3] at hw
      unfold TyD.vals at hw
      have HW := Lib.hid hw
      clear hw
      have b1 : ∀ W, (Op.stringOp .add ⟨#[91]⟩ (bs (76 :: (s ++ [59])))).run Tryz.prog W = .ok (.string (bs (91 :: (76 :: (s ++ [59]))))) W := fun W => add_bs ⟨#[91]⟩ (bs (76 :: (s ++ [59]))) [91] (76 :: (s ++ [59])) rfl rfl (by simp only [List.length_append, List.length_cons, List.length_nil]; omega) W
      unfold TyD.vals
      go_enter Tryz.func165, Tryz.ntmps165
      go_wp2_with fail
      refine (HC.out _).mono ?_
      rintro e w1 ⟨rfl, x1⟩
      have X1 := Lib.hid (((Ext.refl w).alloc _).trans x1)
      have hk := x1.block w.heap.size (by simp)
      have a0 := x1.cell (p := ⟨w.heap.size, 0, none⟩) (by simp)
      have a1 := x1.cell (p := ⟨w.heap.size, 1, none⟩) (by simp)
      rw [cell_of_row _ _ _ _ _ _ (heap_alloc_new w _)] at a0 a1
      simp at a0 a1
      have hlt : w.heap.size < w1.heap.size := by have := x1.size; simp at this; omega
      clear x1 hk
      go_wp2_with fail
      refine (HW.out _).mono ?_
      rintro e w2 ⟨rfl, x2⟩
      go_wp2
      go_ret
      exact ⟨rfl, (X1.out.alloc _).trans x2⟩
  · exact written_lo t w hl hlo
set_option maxHeartbeats 8000000 in
theorem WriteType_any (t : TyD) (w : World) (hl : t.s.length ≤ 140737488351232) :
    Calls Tryz.prog 118 #[.agg t.vals] w fun e w' => e = .returned (.tuple #[.string (bs (writeT t).1), .int .i64 (writeT t).2]) ∧ Ext w w' := by
  have hc := fun W => CheckType_any t W hl
  have ht := fun W => written_any t W hl
  unfold TyD.vals at hc ht ⊢
  have HC := Lib.hid hc
  have HT := Lib.hid ht
  clear hc ht
  cases ho : okT t
  · rw [show writeT t = ([], 2) by rw [writeT, ho]; rfl]
    have h2 := Lib.hid (checkT_no ho)
    clear ho
    go_enter Tryz.func118, Tryz.ntmps118
    go_wp2_with fail
    refine (HC.out _).mono ?_
    rw [h2.out]
    rintro e w1 ⟨rfl, x1⟩
    go_wp2
    go_ret2
    exact ⟨rfl, Ext.trans (by first | exact Ext.refl w | exact (Ext.refl w).alloc _) x1⟩
  · rw [show writeT t = (textT t, 0) by rw [writeT, ho]; rfl]
    have h2 := Lib.hid (checkT_yes ho)
    clear ho
    go_enter Tryz.func118, Tryz.ntmps118
    go_wp2_with fail
    refine (HC.out _).mono ?_
    rw [h2.out]
    rintro e w1 ⟨rfl, x1⟩
    have g1 : w.heap.size < w1.heap.size := by have := x1.size; simp at this; omega
    have at1 := AtTD.ext (AtTD.of (t := t) (heap_alloc_new _ _)) x1 (by simp)
    obtain ⟨z0, z1⟩ := id at1
    go_wp2_with fail
    refine (HT.out _).mono ?_
    rintro e w2 ⟨rfl, x2⟩
    go_wp2
    go_ret2
    exact ⟨rfl, Ext.trans (by first | exact Ext.refl w | exact (Ext.refl w).alloc _) (x1.trans x2)⟩
end Go.Proofs.YtokmeomjdpfknaaGreatDoor
