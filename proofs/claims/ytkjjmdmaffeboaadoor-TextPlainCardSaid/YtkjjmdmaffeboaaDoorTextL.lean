/- Package text: how many bytes a text comes to, and its bytes. -/
import Derived.Test.YtkjjmdmaffeboaaDoorTextE
import Derived.Test.YtkjjmdmaffeboaaDoorTextP
import Derived.Test.YtkjjmdmaffeboaaDoorOwn
import Derived.OwnWalk
namespace Go.Proofs.YtkjjmdmaffeboaaDoor
open Go.RowKit
set_option linter.unusedVariables false

theorem own_ne_iter {B K : Nat} {w : World} {v : Value} {l : List Int} {s : ByteArray} {k : Nat} (h : Own B w 5 .u8 v l) (hit : w.heap[K]? = some (.stringIter s k)) : ∀ g, v.ownBlock = some g → g ≠ K := by
  intro g hg e
  subst e
  rcases h.1.2 with ⟨rfl, _⟩ | ⟨g', cap, cur, rfl, _, hgg, _⟩
  · simp [Value.ownBlock] at hg
  · simp [Value.ownBlock] at hg
    subst hg
    rw [hit] at hgg
    cases hgg
theorem grown_iter (w : World) (K : Nat) (s : ByteArray) (p : Nat) : w.grownBy (w.iterAt K s p) (some K) :=
  ⟨rfl, rfl, rfl, by rw [Lib.iterAt_size]; exact Nat.le_refl _, fun k _ hne => Lib.iterAt_other w K k s p (fun e => hne (by rw [e]))⟩

set_option maxHeartbeats 1000000 in
theorem Len_any (s : ByteArray) (w : World) (hT : Tabs w) (hs : s.size ≤ 9223372036854775807) (hz : (encZ s.data.toList).length ≤ 9223372036854775807) :
    Calls Tryd.prog 13 #[.string s] w (Ret w (LenAns s.data.toList)) := by
  have cV := Tryd.utf8_ValidString s w hs hT
  obtain ⟨vb, hvb⟩ : ∃ vb, Lib.validD s.data.toList = vb := ⟨_, rfl⟩
  rw [hvb] at cV
  have HV := Lib.hid hvb
  clear hvb
  cases vb
  · go_enter Tryd.func13, Tryd.ntmps13
    go_wp2_with fail
    refine cV.mono ?_
    rintro e w1 ⟨rfl, he⟩
    go_wp2
    go_ret2
    exact Ret.mk (.inr ⟨HV.out, rfl⟩) he
  · go_enter Tryd.func13, Tryd.ntmps13
    go_wp2_with fail
    refine cV.mono ?_
    rintro e w1 ⟨rfl, he⟩
    go_wp2
    go_loopw [4] (fun n wr => ∃ (k : Nat) (pre : List Int), n = .int .i64 (mu pre).length ∧ k ≤ s.size ∧ wr.heap[w1.heap.size]? = some (.stringIter s k) ∧ Ext w wr ∧ Hid (runes s.data.toList = pre ++ runes (s.data.toList.drop k))) (fun _ wr => s.size - wr.iterPos w1.heap.size)
    case atStart =>
      refine ⟨0, [], rfl, by omega, ?_, ?_, Lib.hid rfl⟩
      · have := World.iter_heap w1 s 0
        simpa using this
      · exact Ext.alloc he (.stringIter s 0)
    case round =>
      obtain ⟨k, pre, rfl, hk, hit, hx, HR⟩ := hrel
      have hsz : w1.heap.size < wr.heap.size := (Array.getElem?_eq_some_iff.1 hit).1
      have hsz1 : w.heap.size ≤ w1.heap.size := he.size
      by_cases hlt : k < s.size
      · obtain ⟨r, m, hd, hm1, hm2, hsc, hr, hv⟩ := at_place s k hlt
        have hdec : Utf8.decode s k = (r, m) := by rw [decode_drop, hd]
        have hnx : ∀ ty, (Instr.next (.pointer (some ⟨w1.heap.size, 0, none⟩)) true ty).run Tryd.prog wr = _ := fun ty => Lib.run_next_any_at wr w1.heap.size s k ty hit hlt
        simp only [hdec] at hnx
        have hit2 := Lib.iterAt_heap wr w1.heap.size s k (k + m) hit
        have hx2 : Ext w (wr.iterAt w1.heap.size s (k + m)) := Lib.below_iterAt hx hsz1 s (k + m)
        have HR2 := Lib.hid (show runes s.data.toList = (pre ++ [(r : Int)]) ++ runes (s.data.toList.drop (k + m)) by rw [HR.out, hr]; simp)
        have hr1 : (r : Int) ≤ 1114111 := hsc.hi
        have hsum : (mu pre).length + (ch r).length ≤ 9223372036854775807 := by
          unfold encZ at hz
          rw [HR.out, hr, mu_app, mu_cons, List.length_append, List.length_append] at hz
          omega
        have hlen : (mu (pre ++ [(r : Int)])).length = (mu pre).length + (ch r).length := by rw [mu_snoc, List.length_append]
        have HL := Lib.hid hlen
        clear hd hdec hr hv hlen
        go_wp2_with (go_at_call 26; refine (sizeOf_any r _ (by omega) hr1).mono ?_; rintro e w2 ⟨rfl, rfl⟩)
        go_roundw
        case rel => exact ⟨k + m, pre ++ [(r : Int)], by rw [HL.out]; go_num, hm2, hit2, hx2, HR2⟩
        case measure =>
          simp only [World.iterPos, hit2, hit]
          omega
      · have hnx : ∀ ty, (Instr.next (.pointer (some ⟨w1.heap.size, 0, none⟩)) true ty).run Tryd.prog wr = _ := fun ty => Lib.run_next_end_at wr w1.heap.size s k ty hit hlt
        have hR := HR.out
        rw [drop_end s k hlt, runes_nil, List.append_nil] at hR
        have HE := Lib.hid (show encZ s.data.toList = mu pre by unfold encZ; rw [hR])
        clear hR
        go_wp2
        go_ret2
        exact Ret.mk (.inl ⟨HV.out, by rw [HE.out]; rfl⟩) hx

set_option maxHeartbeats 2000000 in
theorem Encode_any (s : ByteArray) (w : World) (hT : Tabs w) (hs : s.size ≤ 9223372036854775807) (hz : (encZ s.data.toList).length ≤ 140737488355328) :
    Calls Tryd.prog 11 #[.string s] w (Ret w (EncAns s.data.toList w.heap.size)) := by
  have c := Len_any s w hT hs (by omega)
  obtain ⟨i8, hi8, hi1, hi2, hi3⟩ := info_parts info8
  go_enter Tryd.func11, Tryd.ntmps11
  go_wp2_with fail
  refine c.mono ?_
  rintro e w1 ⟨v1, rfl, ⟨hv, rfl⟩ | ⟨hv, rfl⟩, he⟩
  · have HV := Lib.hid hv
    clear hv
    have hsz1 : w.heap.size ≤ w1.heap.size := he.size
    obtain ⟨N, hN⟩ : ∃ N, (encZ s.data.toList).length = N := ⟨_, rfl⟩
    rw [hN] at hz ⊢
    have HN := Lib.hid hN
    clear hN
    have hi4 : i8.bytes = 1 := hi3
    go_wp2_with (refine wpList_make_own _ rfl _ _ 22 rfl w.heap.size 5 i8 (.int .u8 0) 1 Tryd.underlying22 hi8 hi1 hi2 _ _ _ N rfl rfl rfl (by rw [hi4]; omega) (by simp only [maxLen]; omega) hsz1 ?_)
    intro w2 ho2 hg2
    have x2 : Ext w w2 := he.grown hg2 (fun g hg => by cases hg)
    have hsz2 : w.heap.size ≤ w2.heap.size := x2.size
    go_wp2
    go_loopw [6] (fun v wr => ∃ (k : Nat) (pre : List Int), k ≤ s.size ∧ wr.heap[w2.heap.size]? = some (.stringIter s k) ∧ Ext w wr ∧ Own w.heap.size wr 5 .u8 v (mu pre) ∧ Hid (runes s.data.toList = pre ++ runes (s.data.toList.drop k))) (fun _ wr => s.size - wr.iterPos w2.heap.size)
    case atStart =>
      refine ⟨0, [], by omega, ?_, Ext.alloc x2 (.stringIter s 0), ⟨ho2.alloc _, Fit.nil _⟩, Lib.hid rfl⟩
      have := World.iter_heap w2 s 0
      simpa using this
    case round =>
      obtain ⟨k, pre, hk, hit, hx, ho, HR⟩ := hrel
      have hsz : w2.heap.size < wr.heap.size := (Array.getElem?_eq_some_iff.1 hit).1
      by_cases hlt : k < s.size
      · obtain ⟨r, m, hd, hm1, hm2, hsc, hr, hv⟩ := at_place s k hlt
        have hdec : Utf8.decode s k = (r, m) := by rw [decode_drop, hd]
        have hnx : ∀ ty, (Instr.next (.pointer (some ⟨w2.heap.size, 0, none⟩)) true ty).run Tryd.prog wr = _ := fun ty => Lib.run_next_any_at wr w2.heap.size s k ty hit hlt
        simp only [hdec] at hnx
        have hit2 := Lib.iterAt_heap wr w2.heap.size s k (k + m) hit
        have hx2 : Ext w (wr.iterAt w2.heap.size s (k + m)) := Lib.below_iterAt hx hsz2 s (k + m)
        have HR2 := Lib.hid (show runes s.data.toList = (pre ++ [(r : Int)]) ++ runes (s.data.toList.drop (k + m)) by rw [HR.out, hr]; simp)
        have hr1 : (r : Int) ≤ 1114111 := hsc.hi
        have hsum : (mu pre).length + ((ch r).length + 0) ≤ 140737488355328 := by
          have hN := HN.out
          unfold encZ at hN
          rw [HR.out, hr, mu_app, mu_cons, List.length_append, List.length_append] at hN
          omega
        have ho2 : Own w.heap.size (wr.iterAt w2.heap.size s (k + m)) 5 .u8 u6 (mu pre) := Own.kept ho (grown_iter wr w2.heap.size s (k + m)) (fun g hg e => own_ne_iter ho hit g hg (by injection e with e; exact e.symm))
        have hne := own_ne_iter ho2 hit2
        have HNE := Lib.hid hne
        clear hd hdec hr hv hne
        go_wp2_with fail
        refine (put_any none _ (mu pre) 0 r w.heap.size _ (by exact ⟨ho2, hsum⟩) (by exact hx2.size) (by omega) hr1).mono ?_
        rintro e w3 ⟨v3, rfl, ho3, hg3, _⟩
        have hit3 : w3.heap[w2.heap.size]? = some (.stringIter s (k + m)) := (hg3.block w2.heap.size (by rw [Lib.iterAt_size]; exact hsz) (fun e => HNE.out _ e.symm rfl)).trans hit2
        have hx3 : Ext w w3 := hx2.grown hg3 ho.low
        go_wp2
        go_roundw
        case rel => exact ⟨k + m, pre ++ [(r : Int)], hm2, hit3, hx3, by rw [mu_snoc]; exact ho3.1, HR2⟩
        case measure =>
          simp only [World.iterPos, hit3, hit]
          omega
      · have hnx : ∀ ty, (Instr.next (.pointer (some ⟨w2.heap.size, 0, none⟩)) true ty).run Tryd.prog wr = _ := fun ty => Lib.run_next_end_at wr w2.heap.size s k ty hit hlt
        have hR := HR.out
        rw [drop_end s k hlt, runes_nil, List.append_nil] at hR
        have HE := Lib.hid (show encZ s.data.toList = mu pre by unfold encZ; rw [hR])
        clear hR
        go_wp2
        go_ret2
        exact Ret.mk (.inl ⟨HV.out, _, rfl, by rw [HE.out]; exact ho⟩) hx
  · have HV := Lib.hid hv
    clear hv
    go_wp2
    go_ret2
    exact Ret.mk (.inr ⟨HV.out, rfl⟩) he
end Go.Proofs.YtkjjmdmaffeboaaDoor
