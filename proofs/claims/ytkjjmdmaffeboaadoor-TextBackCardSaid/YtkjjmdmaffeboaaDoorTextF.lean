/- Package text at texts of any length: Len, Encode and Decode without a bound of their own. -/
import Derived.Test.YtkjjmdmaffeboaaDoorTextX
namespace Go.Proofs.YtkjjmdmaffeboaaDoor
open Go.RowKit
set_option linter.unusedVariables false

theorem room_made {B n N : Nat} {w : World} (h : w.ownsRow B 5 1 (.slice (some ⟨n, 0, none⟩) 0 N) 0 []) (hB : B ≤ n) : Has (some 5) B w (.slice (some ⟨n, 0, none⟩) 0 N) (mu []) (N - (mu []).length) := by
  rcases h.2 with ⟨h0, _⟩ | ⟨g, cap, cur, hv, hb, hg, hn, hm, hs, ht⟩
  · cases h0
  · injection hv with e1 e2 e3
    injection e1 with e1
    injection e1 with e1
    subst e1 e3
    exact ⟨n, N, cur, rfl, hb, hg, by simp [mu], hm, by omega, by simp [mu], Fit.nil _⟩
theorem room_own {B n : Nat} {w : World} {v : Value} {l : List Int} (h : Has (some 5) B w v l n) : Own B w 5 .u8 v l := by
  obtain ⟨g, cap, cur, rfl, hb, hg, hn, hm, hs, ht, hf⟩ := h
  exact ⟨⟨by simp, .inr ⟨g, cap, cur, rfl, hb, hg, by omega, hm, by omega, by rw [Nat.mul_one]; exact ht⟩⟩, hf⟩
theorem has_ne_iter {B K n : Nat} {w : World} {v : Value} {l : List Int} {s : ByteArray} {k : Nat} (h : Has (some 5) B w v l n) (hit : w.heap[K]? = some (.stringIter s k)) : ∀ g, v.ownBlock = some g → g ≠ K :=
  own_ne_iter (room_own h) hit

set_option maxHeartbeats 1000000 in
theorem Len_full (s : ByteArray) (w : World) (hT : Tabs w) (hs : s.size ≤ 9223372036854775807) (hz : Lib.validD s.data.toList = true → (encZ s.data.toList).length ≤ 9223372036854775807) :
    Calls Tryd.prog 13 #[.string s] w (Ret w (LenAns s.data.toList)) := by
  have cV := Tryd.utf8_ValidString s w hs hT
  obtain ⟨vb, hvb⟩ : ∃ vb, Lib.validD s.data.toList = vb := ⟨_, rfl⟩
  rw [hvb] at cV
  have HV := Lib.hid hvb
  clear hvb
  cases vb
  · clear hz
    go_enter Tryd.func13, Tryd.ntmps13
    go_wp2_with fail
    refine cV.mono ?_
    rintro e w1 ⟨rfl, he⟩
    go_wp2
    go_ret2
    exact Ret.mk (.inr ⟨HV.out, rfl⟩) he
  · have hz := hz HV.out
    go_enter Tryd.func13, Tryd.ntmps13
    go_wp2_with fail
    refine cV.mono ?_
    rintro e w1 ⟨rfl, he⟩
    go_wp2
    go_loopw [4] (fun n wr => ∃ (k : Nat) (pre : List Int), n = .int .i64 (mu pre).length ∧ k ≤ s.size ∧ wr.heap[w1.heap.size]? = some (.stringIter s k) ∧ Ext w wr ∧ Hid (runes s.data.toList = pre ++ runes (s.data.toList.drop k))) (fun _ wr => s.size - wr.iterPos w1.heap.size)
    case atStart =>
      refine ⟨0, [], rfl, by omega, ?_, ?_, Lib.hid rfl⟩
      · have := World.iter_heap w1 s 0
        simpa using this
      · exact Ext.alloc he (.stringIter s 0)
    case round =>
      obtain ⟨k, pre, rfl, hk, hit, hx, HR⟩ := hrel
      have hsz : w1.heap.size < wr.heap.size := (Array.getElem?_eq_some_iff.1 hit).1
      have hsz1 : w.heap.size ≤ w1.heap.size := he.size
      by_cases hlt : k < s.size
      · obtain ⟨r, m, hd, hm1, hm2, hsc, hr, hv⟩ := at_place s k hlt
        have hdec : Utf8.decode s k = (r, m) := by rw [decode_drop, hd]
        have hnx : ∀ ty, (Instr.next (.pointer (some ⟨w1.heap.size, 0, none⟩)) true ty).run Tryd.prog wr = _ := fun ty => Lib.run_next_any_at wr w1.heap.size s k ty hit hlt
        simp only [hdec] at hnx
        have hit2 := Lib.iterAt_heap wr w1.heap.size s k (k + m) hit
        have hx2 : Ext w (wr.iterAt w1.heap.size s (k + m)) := Lib.below_iterAt hx hsz1 s (k + m)
        have HR2 := Lib.hid (show runes s.data.toList = (pre ++ [(r : Int)]) ++ runes (s.data.toList.drop (k + m)) by rw [HR.out, hr]; simp)
        have hr1 : (r : Int) ≤ 1114111 := hsc.hi
        have hsum : (mu pre).length + (ch r).length ≤ 9223372036854775807 := by
          unfold encZ at hz
          rw [HR.out, hr, mu_app, mu_cons, List.length_append, List.length_append] at hz
          omega
        have hlen : (mu (pre ++ [(r : Int)])).length = (mu pre).length + (ch r).length := by rw [mu_snoc, List.length_append]
        have HL := Lib.hid hlen
        clear hd hdec hr hv hlen
        go_wp2_with (go_at_call 26; refine (sizeOf_any r _ (by omega) hr1).mono ?_; rintro e w2 ⟨rfl, rfl⟩)
        go_roundw
        case rel => exact ⟨k + m, pre ++ [(r : Int)], by rw [HL.out]; go_num, hm2, hit2, hx2, HR2⟩
        case measure =>
          simp only [World.iterPos, hit2, hit]
          omega
      · have hnx : ∀ ty, (Instr.next (.pointer (some ⟨w1.heap.size, 0, none⟩)) true ty).run Tryd.prog wr = _ := fun ty => Lib.run_next_end_at wr w1.heap.size s k ty hit hlt
        have hR := HR.out
        rw [drop_end s k hlt, runes_nil, List.append_nil] at hR
        have HE := Lib.hid (show encZ s.data.toList = mu pre by unfold encZ; rw [hR])
        clear hR
        go_wp2
        go_ret2
        exact Ret.mk (.inl ⟨HV.out, by rw [HE.out]; rfl⟩) hx

set_option maxHeartbeats 2000000 in
theorem Encode_full (s : ByteArray) (w : World) (hT : Tabs w) (hs : s.size ≤ 9223372036854775807) (hz : Lib.validD s.data.toList = true → (encZ s.data.toList).length ≤ 281474976710656) :
    Calls Tryd.prog 11 #[.string s] w (Ret w (EncAns s.data.toList w.heap.size)) := by
  have c := Len_full s w hT hs (fun h => by have := hz h; omega)
  have HZ := Lib.hid hz
  clear hz
  obtain ⟨i8, hi8, hi1, hi2, hi3⟩ := info_parts info8
  go_enter Tryd.func11, Tryd.ntmps11
  go_wp2_with fail
  refine c.mono ?_
  rintro e w1 ⟨v1, rfl, ⟨hv, rfl⟩ | ⟨hv, rfl⟩, he⟩
  · have HV := Lib.hid hv
    clear hv
    have hsz1 : w.heap.size ≤ w1.heap.size := he.size
    obtain ⟨N, hN⟩ : ∃ N, (encZ s.data.toList).length = N := ⟨_, rfl⟩
    have hz := HZ.out HV.out
    rw [hN] at hz ⊢
    have HN := Lib.hid hN
    clear hN
    have hi4 : i8.bytes = 1 := hi3
    go_wp2_with (refine wpList_make_own _ rfl _ _ 22 rfl w.heap.size 5 i8 (.int .u8 0) 1 Tryd.underlying22 hi8 hi1 hi2 _ _ _ N rfl rfl rfl (by rw [hi4]; omega) (by simp only [maxLen]; omega) hsz1 ?_)
    intro w2 ho2 hg2
    have x2 : Ext w w2 := he.grown hg2 (fun g hg => by cases hg)
    have hsz2 : w.heap.size ≤ w2.heap.size := x2.size
    go_wp2
    go_loopw [6] (fun v wr => ∃ (k : Nat) (pre : List Int), k ≤ s.size ∧ wr.heap[w2.heap.size]? = some (.stringIter s k) ∧ Ext w wr ∧ Has (some 5) w.heap.size wr v (mu pre) (N - (mu pre).length) ∧ Hid (runes s.data.toList = pre ++ runes (s.data.toList.drop k))) (fun _ wr => s.size - wr.iterPos w2.heap.size)
    case atStart =>
      refine ⟨0, [], by omega, ?_, Ext.alloc x2 (.stringIter s 0), Has.alloc (room_made ho2 hsz1) _, Lib.hid rfl⟩
      have := World.iter_heap w2 s 0
      simpa using this
    case round =>
      obtain ⟨k, pre, hk, hit, hx, ho, HR⟩ := hrel
      have hsz : w2.heap.size < wr.heap.size := (Array.getElem?_eq_some_iff.1 hit).1
      by_cases hlt : k < s.size
      · obtain ⟨r, m, hd, hm1, hm2, hsc, hr, hv⟩ := at_place s k hlt
        have hdec : Utf8.decode s k = (r, m) := by rw [decode_drop, hd]
        have hnx : ∀ ty, (Instr.next (.pointer (some ⟨w2.heap.size, 0, none⟩)) true ty).run Tryd.prog wr = _ := fun ty => Lib.run_next_any_at wr w2.heap.size s k ty hit hlt
        simp only [hdec] at hnx
        have hit2 := Lib.iterAt_heap wr w2.heap.size s k (k + m) hit
        have hx2 : Ext w (wr.iterAt w2.heap.size s (k + m)) := Lib.below_iterAt hx hsz2 s (k + m)
        have HR2 := Lib.hid (show runes s.data.toList = (pre ++ [(r : Int)]) ++ runes (s.data.toList.drop (k + m)) by rw [HR.out, hr]; simp)
        have hr1 : (r : Int) ≤ 1114111 := hsc.hi
        have hsum : (mu pre).length + (ch r).length ≤ N := by
          have hN := HN.out
          unfold encZ at hN
          rw [HR.out, hr, mu_app, mu_cons, List.length_append, List.length_append] at hN
          omega
        have ho2 : Has (some 5) w.heap.size (wr.iterAt w2.heap.size s (k + m)) u6 (mu pre) (N - (mu pre).length) := Has.kept ho (grown_iter wr w2.heap.size s (k + m)) (fun g hg e => has_ne_iter ho hit g hg (by injection e with e; exact e.symm))
        have ho3' : Has (some 5) w.heap.size (wr.iterAt w2.heap.size s (k + m)) u6 (mu pre) ((ch r).length + (N - (mu (pre ++ [(r : Int)])).length)) := by
          have e : (mu (pre ++ [(r : Int)])).length = (mu pre).length + (ch r).length := by rw [mu_snoc, List.length_append]
          rw [e, show (ch r).length + (N - ((mu pre).length + (ch r).length)) = N - (mu pre).length by omega]
          exact ho2
        have hlow : ∀ g, u6.ownBlock = some g → w.heap.size ≤ g := fun g hg => by
          obtain ⟨g', h1, h2, h3⟩ := RoomAt.lt ho2
          rw [h1] at hg
          injection hg with hg
          omega
        have hne := has_ne_iter ho2 hit2
        have HNE := Lib.hid hne
        clear hd hdec hr hv hne
        go_wp2_with fail
        refine (put_any (some 5) _ (mu pre) (N - (mu (pre ++ [(r : Int)])).length) r w.heap.size _ (by exact ho3') (by exact hx2.size) (by omega) hr1).mono ?_
        rintro e w3 ⟨v3, rfl, ho3, hg3, _⟩
        have hit3 : w3.heap[w2.heap.size]? = some (.stringIter s (k + m)) := (hg3.block w2.heap.size (by rw [Lib.iterAt_size]; exact hsz) (fun e => HNE.out _ e.symm rfl)).trans hit2
        have hx3 : Ext w w3 := hx2.grown hg3 hlow
        go_wp2
        go_roundw
        case rel => exact ⟨k + m, pre ++ [(r : Int)], hm2, hit3, hx3, by rw [← mu_snoc] at ho3; exact ho3, HR2⟩
        case measure =>
          simp only [World.iterPos, hit3, hit]
          omega
      · have hnx : ∀ ty, (Instr.next (.pointer (some ⟨w2.heap.size, 0, none⟩)) true ty).run Tryd.prog wr = _ := fun ty => Lib.run_next_end_at wr w2.heap.size s k ty hit hlt
        have hR := HR.out
        rw [drop_end s k hlt, runes_nil, List.append_nil] at hR
        have HE := Lib.hid (show encZ s.data.toList = mu pre by unfold encZ; rw [hR])
        clear hR
        go_wp2
        go_ret2
        exact Ret.mk (.inl ⟨HV.out, _, rfl, by rw [HE.out]; exact room_own ho⟩) hx
  · have HV := Lib.hid hv
    clear hv
    go_wp2
    go_ret2
    exact Ret.mk (.inr ⟨HV.out, rfl⟩) he
set_option maxHeartbeats 4000000 in
theorem Decode_full (v : Value) (b : List Int) (w : World) (h : Row w .u8 v b) (hl : b.length ≤ 1000000000000000) (ht : (utf (chs b)).length + 4 ≤ 140737488355328) :
    Calls Tryd.prog 18 #[v] w (Ret w (DecAns b)) := by
  have hf := h.fit
  have hk := h
  obtain ⟨A, c, rfl, hbc, hcm, -, -, -⟩ := hk
  unfold maxLen at hcm
  have HF := Lib.hid hf
  have HT := Lib.hid ht
  clear hf ht
  obtain ⟨n, hn⟩ : ∃ n, b.length = n := ⟨_, rfl⟩
  have hbld : Bld w.heap.size w.heap.size [] (w.alloc (.cells #[.pointer none, .slice none 0 0] 46)) := Lib.fresh_isBuilder 46 5 w
  rw [hn] at hbc hl
  have HN := Lib.hid hn
  rw [HN.out] at h ⊢
  clear hn
  go_enter Tryd.func18, Tryd.ntmps18
  go_wp2
  go_loopw [3] (fun at' wr => ∃ (k : Nat) (pre : List Int), at' = .int .i64 k ∧ k ≤ n ∧ Ext w wr ∧ Bld w.heap.size w.heap.size (utf pre) wr ∧ Hid (Upto b k pre)) (fun at' _ => n - (intOf at').toNat)
  case atStart => exact ⟨0, [], rfl, by omega, (Ext.refl w).alloc _, hbld, Lib.hid (Upto.start b)⟩
  case round =>
    obtain ⟨k, pre, rfl, hkn, hx, hB, HU⟩ := hrel
    have hwr : w.heap.size ≤ wr.heap.size := hx.size
    by_cases hlt : k < n
    · obtain ⟨v3, ht1, ht2, ht⟩ := tail_slice h k (by rw [HN.out]; exact hkn)
      obtain ⟨c1, hc1⟩ : ∃ c1, (nextZ (b.drop k)).1 = c1 := ⟨_, rfl⟩
      obtain ⟨m, hm⟩ : ∃ m, (nextZ (b.drop k)).2 = m := ⟨_, rfl⟩
      have hne : nextZ (b.drop k) = (c1, m) := by rw [← hc1, ← hm]
      have HC := Lib.hid hne
      clear hc1 hm hne
      have hsm : (utf pre).length + 4 ≤ 140737488355328 := by
        have e := congrArg utf HU.out.all
        rw [utf_app] at e
        have e2 := congrArg List.length e
        rw [List.length_append] at e2
        have := HT.out
        omega
      by_cases hm0 : m = 0
      · subst hm0
        go_wp2_with fail
        refine (take_any v3 (b.drop k) _ (by exact ht.ext hx)).mono ?_
        rw [HC.out]
        rintro e w2 ⟨rfl, he2⟩
        have hs := HU.out.fail (by rw [HN.out]; exact hlt) (by rw [HC.out])
        have HS := Lib.hid hs
        clear hs
        go_wp2
        go_ret3
        exact Ret.mk (.inr ⟨HS.out.2, by rw [HS.out.1]; rfl⟩) (hx.trans he2)
      · have hmb : ((m : Int) == 0) = false := by simp; omega
        obtain ⟨hu2, hsc⟩ := HU.out.next HF.out HC.out hm0
        have HU2 := Lib.hid hu2
        have hkm : k + m ≤ n := by have := hu2.le; have := HN.out; omega
        have hc0 := hsc.lo
        have hc9 := hsc.hi
        have hm1 : 1 ≤ m := by omega
        clear hu2 hm0 hsc
        go_wp2_with fail
        refine (take_any v3 (b.drop k) _ (by exact ht.ext hx)).mono ?_
        rw [HC.out]
        rintro e w2 ⟨rfl, he2⟩
        have hB2 : Bld w.heap.size w.heap.size (utf pre) w2 := bld_ext hB he2
        have x2 : Ext w w2 := hx.trans he2
        go_wp2_with fail
        refine (WriteRune_any w.heap.size w.heap.size (utf pre) c1 _ hB2 hc0 hc9 (by omega) x2.size).mono ?_
        rintro e w3 ⟨⟨nn, rfl⟩, hB3, hb3⟩
        have x3 : Ext w w3 := Below.trans x2 hb3
        go_wp2
        go_roundw
        case rel => exact ⟨k + m, pre ++ [c1], by go_num, hkm, x3, by rw [utf_snoc]; exact hB3, HU2⟩
        case measure => simp [intOf]; omega
    · have hs := HU.out.done (by rw [HN.out]; exact hlt)
      have HS := Lib.hid hs
      clear hs
      go_wp2_with fail
      refine (Tryd.Builder_String_any w.heap.size w.heap.size (utf pre) _ hB hwr).mono ?_
      rintro e w2 ⟨rfl, hb2⟩
      go_wp2
      go_ret3
      exact Ret.mk (.inl ⟨by rw [HS.out.1, HN.out], by rw [HS.out.2]; rfl⟩) (Below.trans hx hb2)

/-- A text's bytes in a class are at most twice as many. -/
theorem enc_two (s : ByteArray) (hv : Lib.validD s.data.toList = true) : (encZ s.data.toList).length ≤ 2 * s.size := by
  have h := (utf_le (runes_sc s.data.toList)).2
  rw [utf_runes _ hv, ← Lib.size_eq] at h
  exact h
end Go.Proofs.YtkjjmdmaffeboaaDoor
