/- Several texts of this proof, one behind the other. -/
import Derived.Test.YtecgldkhjgcffaaDoorZsJ
import Derived.Test.YtecgldkhjgcffaaDoorZsI
import Derived.Test.YtecgldkhjgcffaaDoorZsH
/- The document's answer for texts: the character that is written from a place on. -/
namespace Go.Proofs.YtecgldkhjgcffaaDoor
open Go.RowKit
set_option linter.unusedVariables false

theorem UnitAns.val {u v : Int × Nat} (h : v = u) {w : World} {e : Ending} {w' : World} (k : UnitAns w u e w') : UnitAns w v e w' := by rw [h]; exact k
end Go.Proofs.YtecgldkhjgcffaaDoor
/- Texts out of bytes: the program's way, and the document's. -/
namespace Go.Proofs.YtecgldkhjgcffaaDoor
open Go.RowKit
set_option linter.unusedVariables false

/-- What Decode answers of bytes. -/
def DecAns (b : List Int) (v' : Value) (w' : World) : Prop :=
  (stop b = b.length ∧ v' = .tuple #[.string ⟨(utf (chs b)).toArray⟩, .int .i64 0, .int .i64 0]) ∨ (stop b < b.length ∧ v' = .tuple #[.string ⟨#[]⟩, .int .i64 (stop b), .int .i64 20])

/-- A place up to which bytes are read. -/
def Upto (b : List Int) (k : Nat) (pre : List Int) : Prop :=
  k ≤ b.length ∧ (mu pre).length = k ∧ (∀ c ∈ pre, Sc c) ∧ chs b = pre ++ chs (b.drop k)
theorem Upto.le {b : List Int} {k : Nat} {pre : List Int} (h : Upto b k pre) : k ≤ b.length := h.1
theorem Upto.len {b : List Int} {k : Nat} {pre : List Int} (h : Upto b k pre) : (mu pre).length = k := h.2.1
theorem Upto.sc {b : List Int} {k : Nat} {pre : List Int} (h : Upto b k pre) : ∀ c ∈ pre, Sc c := h.2.2.1
theorem Upto.all {b : List Int} {k : Nat} {pre : List Int} (h : Upto b k pre) : chs b = pre ++ chs (b.drop k) := h.2.2.2
theorem Upto.start (b : List Int) : Upto b 0 [] := ⟨Nat.zero_le _, rfl, (fun c hc => by cases hc), rfl⟩
theorem Upto.next {b : List Int} {k : Nat} {pre : List Int} (h : Upto b k pre) (hf : Fit .u8 b) {c : Int} {m : Nat} (hn : nextZ (b.drop k) = (c, m)) (hm : m ≠ 0) : Upto b (k + m) (pre ++ [c]) ∧ Sc c := by
  have hn' : (nextZ (b.drop k)).2 ≠ 0 := by rw [hn]; exact hm
  obtain ⟨s1, s2, s3⟩ := nextZ_sound (hf.drop k) hn'
  have s4 := nextZ_len (hf.drop k) hn'
  have e := chs_step hn'
  rw [hn] at s1 s2 s4 e
  dsimp only at s1 s2 s4 e
  rw [List.length_drop] at s2
  have := h.le
  refine ⟨⟨by omega, by rw [mu_snoc, List.length_append, h.len, s4], fun d hd => ?_, ?_⟩, s1⟩
  · rcases List.mem_append.1 hd with hd | hd
    · exact h.sc d hd
    · rw [List.mem_singleton.1 hd]; exact s1
  · rw [h.all, e, List.drop_drop]
    simp
theorem Upto.fail {b : List Int} {k : Nat} {pre : List Int} (h : Upto b k pre) (hk : k < b.length) (hn : (nextZ (b.drop k)).2 = 0) : stop b = k ∧ stop b < b.length := by
  have e := h.all
  rw [chs_stop hn, List.append_nil] at e
  have : stop b = k := by unfold stop; rw [e, h.len]
  exact ⟨this, by omega⟩
theorem Upto.done {b : List Int} {k : Nat} {pre : List Int} (h : Upto b k pre) (hk : ¬ k < b.length) : stop b = b.length ∧ chs b = pre := by
  have e := h.all
  rw [List.drop_eq_nil_iff.2 (by omega), chs_nil, List.append_nil] at e
  have := h.le
  exact ⟨by unfold stop; rw [e, h.len]; omega, e⟩
theorem Upto.small {b : List Int} {k : Nat} {pre : List Int} (h : Upto b k pre) : (utf pre).length ≤ k := by
  have := (utf_le h.sc).1
  rw [h.len] at this
  exact this

set_option maxRecDepth 100000 in
set_option maxHeartbeats 4000000 in
theorem Decode_any (v : Value) (b : List Int) (w : World) (h : Row w .u8 v b) (hl : b.length + 4 ≤ 140737488355328) :
    Calls Tryd.prog 71 #[v] w (Ret w (DecAns b)) := by
  have hf := h.fit
  have hk := h
  obtain ⟨A, c, rfl, hbc, hcm, -, -, -⟩ := hk
  unfold maxLen at hcm
  have HF := Lib.hid hf
  clear hf
  obtain ⟨n, hn⟩ : ∃ n, b.length = n := ⟨_, rfl⟩
  have hbld : Bld w.heap.size w.heap.size [] (w.alloc (.cells #[.pointer none, .slice none 0 0] 105)) := Lib.fresh_isBuilder 105 5 w
  rw [hn] at hbc hl
  have HN := Lib.hid hn
  rw [HN.out] at h ⊢
  clear hn
  go_enter Tryd.func71, Tryd.ntmps71
  go_wp2
  go_loopw [3] (fun at' wr => ∃ (k : Nat) (pre : List Int), at' = .int .i64 k ∧ k ≤ n ∧ Ext w wr ∧ Bld w.heap.size w.heap.size (utf pre) wr ∧ Hid (Upto b k pre)) (fun at' _ => n - (intOf at').toNat)
  case atStart => exact ⟨0, [], rfl, by omega, (Ext.refl w).alloc _, hbld, Lib.hid (Upto.start b)⟩
  case round =>
    obtain ⟨k, pre, rfl, hkn, hx, hB, HU⟩ := hrel
    have hwr : w.heap.size ≤ wr.heap.size := hx.size
    by_cases hlt : k < n
    · obtain ⟨v3, ht1, ht2, ht⟩ := tail_slice h k (by rw [HN.out]; exact hkn)
      obtain ⟨c1, hc1⟩ : ∃ c1, (nextZ (b.drop k)).1 = c1 := ⟨_, rfl⟩
      obtain ⟨m, hm⟩ : ∃ m, (nextZ (b.drop k)).2 = m := ⟨_, rfl⟩
      have hne : nextZ (b.drop k) = (c1, m) := by rw [← hc1, ← hm]
      have HC := Lib.hid hne
      clear hc1 hm hne
      have hsm : (utf pre).length ≤ k := HU.out.small
      by_cases hm0 : m = 0
      · subst hm0
        go_wp2_with fail
        refine (take_any v3 (b.drop k) _ (by exact ht.ext hx)).mono ?_
        rw [HC.out]
        rintro e w2 ⟨rfl, he2⟩
        have hs := HU.out.fail (by rw [HN.out]; exact hlt) (by rw [HC.out])
        have HS := Lib.hid hs
        clear hs
        go_wp2
        go_ret3
        exact Ret.mk (.inr ⟨HS.out.2, by rw [HS.out.1]; rfl⟩) (hx.trans he2)
      · have hmb : ((m : Int) == 0) = false := by simp; omega
        obtain ⟨hu2, hsc⟩ := HU.out.next HF.out HC.out hm0
        have HU2 := Lib.hid hu2
        have hkm : k + m ≤ n := by have := hu2.le; have := HN.out; omega
        have hc0 := hsc.lo
        have hc9 := hsc.hi
        have hm1 : 1 ≤ m := by omega
        clear hu2 hm0 hsc
        go_wp2_with fail
        refine (take_any v3 (b.drop k) _ (by exact ht.ext hx)).mono ?_
        rw [HC.out]
        rintro e w2 ⟨rfl, he2⟩
        have hB2 : Bld w.heap.size w.heap.size (utf pre) w2 := bld_ext hB he2
        have x2 : Ext w w2 := hx.trans he2
        go_wp2_with fail
        refine (WriteRune_any w.heap.size w.heap.size (utf pre) c1 _ hB2 hc0 hc9 (by omega) x2.size).mono ?_
        rintro e w3 ⟨⟨nn, rfl⟩, hB3, hb3⟩
        have x3 : Ext w w3 := Below.trans x2 hb3
        go_wp2
        go_roundw
        case rel => exact ⟨k + m, pre ++ [c1], by go_num, hkm, x3, by rw [utf_snoc]; exact hB3, HU2⟩
        case measure => simp [intOf]; omega
    · have hs := HU.out.done (by rw [HN.out]; exact hlt)
      have HS := Lib.hid hs
      clear hs
      go_wp2_with fail
      refine (Tryd.Builder_String_any w.heap.size w.heap.size (utf pre) _ hB hwr).mono ?_
      rintro e w2 ⟨rfl, hb2⟩
      go_wp2
      go_ret3
      exact Ret.mk (.inl ⟨by rw [HS.out.1, HN.out], by rw [HS.out.2]; rfl⟩) (Below.trans hx hb2)

/-- The bytes of characters as strings have them, as numbers. -/
def utfZ (cs : List Int) : List Int := cs.flatMap Lib.encodeRuneZ
end Go.Proofs.YtecgldkhjgcffaaDoor
/- What the statements' examples of texts rest on. -/
namespace Go.Proofs.YtecgldkhjgcffaaDoor
open Go.RowKit
set_option linter.unusedVariables false

/-- A bool comes back, and all that was there is as it was. -/
def RetT (w : World) (b : Bool) (e : Ending) (w' : World) : Prop := e = .returned (.bool b) ∧ Ext w w'
theorem Row.litT (w : World) (l : List Int) (hf : Fit .u8 l) (hl : l.length ≤ 65536) (hp : 0 < l.length) :
    Row (w.alloc (.cells (l.map (Value.int .u8)).toArray 5)) .u8 (.slice (some ⟨w.heap.size, 0, none⟩) l.length l.length) l := Row.built w .u8 5 l hf hl
theorem fit_dec {l : List Int} (h : (l.all fun x => decide (0 ≤ x ∧ x < 256)) = true) : Fit .u8 l := fun x hx => by
  have := of_decide_eq_true (List.all_eq_true.1 h x hx)
  exact wf_u8 (by omega) (by omega)
theorem str_eq (s : ByteArray) (l : List UInt8) (h : s.data.toList = l) : (⟨l.toArray⟩ : ByteArray) = s := by
  subst h
  rfl

/-- A string's bytes in a class are at most three times as many. -/
theorem enc_len (l : List UInt8) : (encZ l).length ≤ 3 * l.length := by
  obtain ⟨n, hn⟩ : ∃ n, l.length ≤ n := ⟨_, Nat.le_refl _⟩
  induction n generalizing l with
  | zero =>
    have : l = [] := List.eq_nil_of_length_eq_zero (by omega)
    subst this
    exact Nat.le_refl _
  | succ n ih =>
    by_cases hne : l = []
    · subst hne
      exact Nat.le_refl _
    · have hl : 0 < l.length := List.length_pos_iff.2 hne
      have hw := Lib.decodeL_width l
      have hle := decodeL_le l hne
      have hi := ih (l.drop (Lib.decodeL l).2) (by rw [List.length_drop]; omega)
      have hc : (ch (Lib.decodeL l).1).length ≤ 3 * (Lib.decodeL l).2 := by
        rw [Lib.decodeL_N]
        rcases Lib.decodeN_shape l.length (l.getD 0 0).toNat (l.getD 1 0).toNat (l.getD 2 0).toNat (l.getD 3 0).toNat with ⟨c, e⟩ | ⟨c1, c2, c3, cv, e⟩ | ⟨c1, c2, c3, c4, cv, cs, e⟩ | ⟨c1, c2, c3, c4, c5, cv, cw, e⟩ | e
        · rw [e]
          dsimp only
          by_cases h0 : 1 ≤ ((l.getD 0 0).toNat : Int) ∧ ((l.getD 0 0).toNat : Int) ≤ 127
          · rw [ch1 h0]; simp
          · rw [ch2 h0 (by omega)]; simp
        · rw [e]
          have := (ch_len ((((l.getD 0 0).toNat % 32 * 64 + (l.getD 1 0).toNat % 64 : Nat)) : Int)).2
          dsimp only
          omega
        · rw [e]
          have := (ch_len ((((l.getD 0 0).toNat % 16 * 4096 + (l.getD 1 0).toNat % 64 * 64 + (l.getD 2 0).toNat % 64 : Nat)) : Int)).2
          dsimp only
          omega
        · rw [e]
          have := (ch_len ((((l.getD 0 0).toNat % 8 * 262144 + (l.getD 1 0).toNat % 64 * 4096 + (l.getD 2 0).toNat % 64 * 64 + (l.getD 3 0).toNat % 64 : Nat)) : Int)).2
          dsimp only
          omega
        · rw [e]
          decide
      rw [List.length_drop] at hi
      unfold encZ at hi ⊢
      rw [runes_step l hne, mu_cons, List.length_append]
      omega
theorem enc_fit (s : ByteArray) (h : s.size ≤ 1048576) : (encZ s.data.toList).length ≤ 3145728 := by
  have := enc_len s.data.toList
  rw [← Lib.size_eq] at this
  omega
/-- What was encoded comes back. -/
theorem enc_back (s : ByteArray) (hv : Lib.validD s.data.toList = true) : stop (encZ s.data.toList) = (encZ s.data.toList).length ∧ (⟨(utf (chs (encZ s.data.toList))).toArray⟩ : ByteArray) = s := by
  have hch := chs_all (runes_sc s.data.toList)
  refine ⟨hch.2, ?_⟩
  unfold encZ
  rw [hch.1]
  exact str_eq s _ (utf_runes _ hv).symm
/-- What can be read is a text, and written so. -/
theorem dec_back {b : List Int} (hf : Fit .u8 b) (h : stop b = b.length) (S : ByteArray) (hS : (⟨(utf (chs b)).toArray⟩ : ByteArray) = S) : Lib.validD S.data.toList = true ∧ encZ S.data.toList = b ∧ S.size ≤ b.length := by
  obtain ⟨h1, h2, h3⟩ := chs_sound hf
  obtain ⟨e1, e2⟩ := back_utf h1
  have hd : S.data.toList = utf (chs b) := by rw [← hS]
  have hm : mu (chs b) = b := by rw [drop_stop hf, h, List.take_length]
  rw [Lib.size_eq, hd]
  refine ⟨e1, by unfold encZ; rw [e2, hm], ?_⟩
  have := (utf_le h1).1
  rw [hm] at this
  exact this
end Go.Proofs.YtecgldkhjgcffaaDoor
