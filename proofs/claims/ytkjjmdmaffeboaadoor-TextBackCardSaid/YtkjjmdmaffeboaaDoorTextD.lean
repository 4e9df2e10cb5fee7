/- Texts out of bytes: the program's way, and the document's. -/
import Derived.Test.YtkjjmdmaffeboaaDoorTextT
import Derived.Test.YtkjjmdmaffeboaaDoorTextB
import Derived.Test.YtkjjmdmaffeboaaDoorTextN
namespace Go.Proofs.YtkjjmdmaffeboaaDoor
open Go.RowKit
set_option linter.unusedVariables false

/-- What Decode answers of bytes. -/
def DecAns (b : List Int) (v' : Value) (w' : World) : Prop :=
  (stop b = b.length ∧ v' = .tuple #[.string ⟨(utf (chs b)).toArray⟩, .int .i64 0, .int .i64 0]) ∨ (stop b < b.length ∧ v' = .tuple #[.string ⟨#[]⟩, .int .i64 (stop b), .int .i64 20])

/-- A place up to which bytes are read. -/
def Upto (b : List Int) (k : Nat) (pre : List Int) : Prop :=
  k ≤ b.length ∧ (mu pre).length = k ∧ (∀ c ∈ pre, Sc c) ∧ chs b = pre ++ chs (b.drop k)
theorem Upto.le {b : List Int} {k : Nat} {pre : List Int} (h : Upto b k pre) : k ≤ b.length := h.1
theorem Upto.len {b : List Int} {k : Nat} {pre : List Int} (h : Upto b k pre) : (mu pre).length = k := h.2.1
theorem Upto.sc {b : List Int} {k : Nat} {pre : List Int} (h : Upto b k pre) : ∀ c ∈ pre, Sc c := h.2.2.1
theorem Upto.all {b : List Int} {k : Nat} {pre : List Int} (h : Upto b k pre) : chs b = pre ++ chs (b.drop k) := h.2.2.2
theorem Upto.start (b : List Int) : Upto b 0 [] := ⟨Nat.zero_le _, rfl, (fun c hc => by cases hc), rfl⟩
theorem Upto.next {b : List Int} {k : Nat} {pre : List Int} (h : Upto b k pre) (hf : Fit .u8 b) {c : Int} {m : Nat} (hn : nextZ (b.drop k) = (c, m)) (hm : m ≠ 0) : Upto b (k + m) (pre ++ [c]) ∧ Sc c := by
  have hn' : (nextZ (b.drop k)).2 ≠ 0 := by rw [hn]; exact hm
  obtain ⟨s1, s2, s3⟩ := nextZ_sound (hf.drop k) hn'
  have s4 := nextZ_len (hf.drop k) hn'
  have e := chs_step hn'
  rw [hn] at s1 s2 s4 e
  dsimp only at s1 s2 s4 e
  rw [List.length_drop] at s2
  have := h.le
  refine ⟨⟨by omega, by rw [mu_snoc, List.length_append, h.len, s4], fun d hd => ?_, ?_⟩, s1⟩
  · rcases List.mem_append.1 hd with hd | hd
    · exact h.sc d hd
    · rw [List.mem_singleton.1 hd]; exact s1
  · rw [h.all, e, List.drop_drop]
    simp
theorem Upto.fail {b : List Int} {k : Nat} {pre : List Int} (h : Upto b k pre) (hk : k < b.length) (hn : (nextZ (b.drop k)).2 = 0) : stop b = k ∧ stop b < b.length := by
  have e := h.all
  rw [chs_stop hn, List.append_nil] at e
  have : stop b = k := by unfold stop; rw [e, h.len]
  exact ⟨this, by omega⟩
theorem Upto.done {b : List Int} {k : Nat} {pre : List Int} (h : Upto b k pre) (hk : ¬ k < b.length) : stop b = b.length ∧ chs b = pre := by
  have e := h.all
  rw [List.drop_eq_nil_iff.2 (by omega), chs_nil, List.append_nil] at e
  have := h.le
  exact ⟨by unfold stop; rw [e, h.len]; omega, e⟩
theorem Upto.small {b : List Int} {k : Nat} {pre : List Int} (h : Upto b k pre) : (utf pre).length ≤ k := by
  have := (utf_le h.sc).1
  rw [h.len] at this
  exact this

set_option maxHeartbeats 4000000 in
theorem Decode_any (v : Value) (b : List Int) (w : World) (h : Row w .u8 v b) (hl : b.length + 4 ≤ 140737488355328) :
    Calls Tryd.prog 18 #[v] w (Ret w (DecAns b)) := by
  have hf := h.fit
  have hk := h
  obtain ⟨A, c, rfl, hbc, hcm, -, -, -⟩ := hk
  unfold maxLen at hcm
  have HF := Lib.hid hf
  clear hf
  obtain ⟨n, hn⟩ : ∃ n, b.length = n := ⟨_, rfl⟩
  have hbld : Bld w.heap.size w.heap.size [] (w.alloc (.cells #[.pointer none, .slice none 0 0] 46)) := Lib.fresh_isBuilder 46 5 w
  rw [hn] at hbc hl
  have HN := Lib.hid hn
  rw [HN.out] at h ⊢
  clear hn
  go_enter Tryd.func18, Tryd.ntmps18
  go_wp2
  go_loopw [3] (fun at' wr => ∃ (k : Nat) (pre : List Int), at' = .int .i64 k ∧ k ≤ n ∧ Ext w wr ∧ Bld w.heap.size w.heap.size (utf pre) wr ∧ Hid (Upto b k pre)) (fun at' _ => n - (intOf at').toNat)
  case atStart => exact ⟨0, [], rfl, by omega, (Ext.refl w).alloc _, hbld, Lib.hid (Upto.start b)⟩
  case round =>
    obtain ⟨k, pre, rfl, hkn, hx, hB, HU⟩ := hrel
    have hwr : w.heap.size ≤ wr.heap.size := hx.size
    by_cases hlt : k < n
    · obtain ⟨v3, ht1, ht2, ht⟩ := tail_slice h k (by rw [HN.out]; exact hkn)
      obtain ⟨c1, hc1⟩ : ∃ c1, (nextZ (b.drop k)).1 = c1 := ⟨_, rfl⟩
      obtain ⟨m, hm⟩ : ∃ m, (nextZ (b.drop k)).2 = m := ⟨_, rfl⟩
      have hne : nextZ (b.drop k) = (c1, m) := by rw [← hc1, ← hm]
      have HC := Lib.hid hne
      clear hc1 hm hne
      have hsm : (utf pre).length ≤ k := HU.out.small
      by_cases hm0 : m = 0
      · subst hm0
        go_wp2_with fail
        refine (take_any v3 (b.drop k) _ (by exact ht.ext hx)).mono ?_
        rw [HC.out]
        rintro e w2 ⟨rfl, he2⟩
        have hs := HU.out.fail (by rw [HN.out]; exact hlt) (by rw [HC.out])
        have HS := Lib.hid hs
        clear hs
        go_wp2
        go_ret3
        exact Ret.mk (.inr ⟨HS.out.2, by rw [HS.out.1]; rfl⟩) (hx.trans he2)
      · have hmb : ((m : Int) == 0) = false := by simp; omega
        obtain ⟨hu2, hsc⟩ := HU.out.next HF.out HC.out hm0
        have HU2 := Lib.hid hu2
        have hkm : k + m ≤ n := by have := hu2.le; have := HN.out; omega
        have hc0 := hsc.lo
        have hc9 := hsc.hi
        have hm1 : 1 ≤ m := by omega
        clear hu2 hm0 hsc
        go_wp2_with fail
        refine (take_any v3 (b.drop k) _ (by exact ht.ext hx)).mono ?_
        rw [HC.out]
        rintro e w2 ⟨rfl, he2⟩
        have hB2 : Bld w.heap.size w.heap.size (utf pre) w2 := bld_ext hB he2
        have x2 : Ext w w2 := hx.trans he2
        go_wp2_with fail
        refine (WriteRune_any w.heap.size w.heap.size (utf pre) c1 _ hB2 hc0 hc9 (by omega) x2.size).mono ?_
        rintro e w3 ⟨⟨nn, rfl⟩, hB3, hb3⟩
        have x3 : Ext w w3 := Below.trans x2 hb3
        go_wp2
        go_roundw
        case rel => exact ⟨k + m, pre ++ [c1], by go_num, hkm, x3, by rw [utf_snoc]; exact hB3, HU2⟩
        case measure => simp [intOf]; omega
    · have hs := HU.out.done (by rw [HN.out]; exact hlt)
      have HS := Lib.hid hs
      clear hs
      go_wp2_with fail
      refine (Tryd.Builder_String_any w.heap.size w.heap.size (utf pre) _ hB hwr).mono ?_
      rintro e w2 ⟨rfl, hb2⟩
      go_wp2
      go_ret3
      exact Ret.mk (.inl ⟨by rw [HS.out.1, HN.out], by rw [HS.out.2]; rfl⟩) (Below.trans hx hb2)

/-- The bytes of characters as strings have them, as numbers. -/
def utfZ (cs : List Int) : List Int := cs.flatMap Lib.encodeRuneZ
theorem utfZ_snoc (a : List Int) (c : Int) : utfZ (a ++ [c]) = utfZ a ++ Lib.encodeRuneZ c := by simp [utfZ]
theorem utfZ_utf (cs : List Int) : (utfZ cs).map (fun n => UInt8.ofNat n.toNat) = utf cs := by
  unfold utfZ utf
  rw [List.map_flatMap]
  rfl
theorem utfZ_len (cs : List Int) : (utfZ cs).length = (utf cs).length := by rw [← utfZ_utf, List.length_map]
theorem str_utfZ (cs : List Int) : strOfNums (utfZ cs) = ⟨(utf cs).toArray⟩ := by
  unfold strOfNums
  rw [utfZ_utf]
theorem encodeRuneZ_fit (c : Int) : Fit .u8 (Lib.encodeRuneZ c) := fun x hx => by
  have := Lib.encodeRuneZ_byte c x hx
  exact wf_u8 (by omega) (by omega)

set_option maxHeartbeats 4000000 in
theorem refDecode_any (v : Value) (b : List Int) (w : World) (h : Row w .u8 v b) (hl : b.length + 4 ≤ 140737488355328) :
    Calls Tryd.prog 19 #[v] w (Ret w (DecAns b)) := by
  have hf := h.fit
  have hk := h
  obtain ⟨A, c, rfl, hbc, hcm, -, -, -⟩ := hk
  unfold maxLen at hcm
  have HF := Lib.hid hf
  clear hf
  obtain ⟨n, hn⟩ : ∃ n, b.length = n := ⟨_, rfl⟩
  rw [hn] at hbc hl
  have HN := Lib.hid hn
  rw [HN.out] at h ⊢
  clear hn
  go_enter Tryd.func19, Tryd.ntmps19
  go_wp2
  go_loopw [5, 6] (fun u at' wr => ∃ (k : Nat) (pre : List Int), at' = .int .i64 k ∧ k ≤ n ∧ Ext w wr ∧ Own w.heap.size wr 5 .u8 u (utfZ pre) ∧ Hid (Upto b k pre)) (fun _ at' _ => n - (intOf at').toNat)
  case atStart => exact ⟨0, [], rfl, by omega, Ext.refl w, Own.nil _ _ _ _, Lib.hid (Upto.start b)⟩
  case round =>
    obtain ⟨k, pre, rfl, hkn, hx, ho, HU⟩ := hrel
    have hwr : w.heap.size ≤ wr.heap.size := hx.size
    by_cases hlt : k < n
    · obtain ⟨c1, hc1⟩ : ∃ c1, (nextZ (b.drop k)).1 = c1 := ⟨_, rfl⟩
      obtain ⟨m, hm⟩ : ∃ m, (nextZ (b.drop k)).2 = m := ⟨_, rfl⟩
      have hne : nextZ (b.drop k) = (c1, m) := by rw [← hc1, ← hm]
      have HC := Lib.hid hne
      clear hc1 hm hne
      have hsm : (utf pre).length ≤ k := HU.out.small
      by_cases hm0 : m = 0
      · subst hm0
        go_wp2_with fail
        refine (next_any _ b k _ (by exact h.ext hx) (by rw [HN.out]; exact hkn)).mono ?_
        rw [HC.out]
        rintro e w2 ⟨rfl, he2⟩
        have hs := HU.out.fail (by rw [HN.out]; exact hlt) (by rw [HC.out])
        have HS := Lib.hid hs
        clear hs
        go_wp2
        go_ret3
        exact Ret.mk (.inr ⟨HS.out.2, by rw [HS.out.1]; rfl⟩) (hx.trans he2)
      · have hmb : ((m : Int) == 0) = false := by simp; omega
        obtain ⟨hu2, hsc⟩ := HU.out.next HF.out HC.out hm0
        have HU2 := Lib.hid hu2
        have hkm : k + m ≤ n := by have := hu2.le; have := HN.out; omega
        have hc0 := hsc.lo
        have hc9 := hsc.hi
        have hm1 : 1 ≤ m := by omega
        have hlz : (utfZ pre).length + 4 ≤ 140737488355328 := by rw [utfZ_len]; omega
        clear hu2 hm0 hsc
        go_wp2_with fail
        refine (next_any _ b k _ (by exact h.ext hx) (by rw [HN.out]; exact hkn)).mono ?_
        rw [HC.out]
        rintro e w2 ⟨rfl, he2⟩
        have x2 : Ext w w2 := hx.trans he2
        have ho2 := ho.ext he2
        go_wp2_with fail
        refine (Tryd.utf8_AppendRune_plain w.heap.size _ (utfZ pre).length _ c1 (by omega) (by omega) _ ho2.1 hlz x2.size).mono ?_
        rintro e w3 ⟨v3, rfl, ho3, o, hg3⟩
        have x3 : Ext w w3 := (x2.alloc o).grown hg3 ho2.low
        have ho4 : Own w.heap.size w3 5 .u8 v3 (utfZ (pre ++ [c1])) := by
          rw [utfZ_snoc]
          exact ⟨by simpa [Lib.runeCells] using ho3, ho2.2.app (encodeRuneZ_fit c1)⟩
        go_wp2
        go_roundw
        case rel => exact ⟨k + m, pre ++ [c1], by go_num, hkm, x3, ho4, HU2⟩
        case measure => simp [intOf]; omega
    · have hs := HU.out.done (by rw [HN.out]; exact hlt)
      have HS := Lib.hid hs
      have hcv := ho.row.conv
      rw [str_utfZ] at hcv
      clear hs
      go_wp2
      go_ret3
      exact Ret.mk (.inl ⟨by rw [HS.out.1, HN.out], by rw [HS.out.2]; rfl⟩) hx
end Go.Proofs.YtkjjmdmaffeboaaDoor
