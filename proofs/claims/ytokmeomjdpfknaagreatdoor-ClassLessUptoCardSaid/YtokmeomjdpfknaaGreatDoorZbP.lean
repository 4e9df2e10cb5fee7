/- Several texts of this proof, one behind the other. -/
import Derived.Test.YtokmeomjdpfknaaGreatDoorZbO
import Derived.Test.YtokmeomjdpfknaaGreatDoorZbA
import Derived.Test.YtokmeomjdpfknaaGreatDoorZbB
import Derived.LoopN
import Derived.Test.YtokmeomjdpfknaaGreatDoorZbC
import Derived.Test.YtokmeomjdpfknaaGreatDoorZbD
import Derived.RegionCalls
import Derived.Deep.RegionWith
import Derived.Deep.RegionHeld3
import Derived.OwnWalk
namespace Go.Proofs.YtokmeomjdpfknaaGreatDoor
open Go.RowKit
set_option linter.unusedVariables false

def DecAnsP (b : List Int) (v' : Value) (w' : World) : Prop :=
  (stop b = b.length ∧ v' = .tuple #[.string ⟨(utf (chs b)).toArray⟩, .int .i64 0, .int .i64 0]) ∨ (stop b < b.length ∧ v' = .tuple #[.string ⟨#[]⟩, .int .i64 (stop b), .int .i64 20])

def Upto (b : List Int) (k : Nat) (pre : List Int) : Prop :=
  k ≤ b.length ∧ (mu pre).length = k ∧ (∀ c ∈ pre, Sc c) ∧ chs b = pre ++ chs (b.drop k)
theorem Upto.le {b : List Int} {k : Nat} {pre : List Int} (h : Upto b k pre) : k ≤ b.length := h.1
theorem Upto.len {b : List Int} {k : Nat} {pre : List Int} (h : Upto b k pre) : (mu pre).length = k := h.2.1
theorem Upto.sc {b : List Int} {k : Nat} {pre : List Int} (h : Upto b k pre) : ∀ c ∈ pre, Sc c := h.2.2.1
theorem Upto.all {b : List Int} {k : Nat} {pre : List Int} (h : Upto b k pre) : chs b = pre ++ chs (b.drop k) := h.2.2.2
theorem Upto.start (b : List Int) : Upto b 0 [] := ⟨Nat.zero_le _, rfl, (fun c hc => by cases hc), rfl⟩
theorem Upto.next {b : List Int} {k : Nat} {pre : List Int} (h : Upto b k pre) (hf : Fit .u8 b) {c : Int} {m : Nat} (hn : nextZ (b.drop k) = (c, m)) (hm : m ≠ 0) : Upto b (k + m) (pre ++ [c]) ∧ Sc c := by
  have hn' : (nextZ (b.drop k)).2 ≠ 0 := by rw [hn]; exact hm
  obtain ⟨s1, s2, s3⟩ := nextZ_sound (hf.drop k) hn'
  have s4 := nextZ_len (hf.drop k) hn'
  have e := chs_step hn'
  rw [hn] at s1 s2 s4 e
  dsimp only at s1 s2 s4 e
  rw [List.length_drop] at s2
  have := h.le
  refine ⟨⟨by omega, by rw [mu_snoc, List.length_append, h.len, s4], fun d hd => ?_, ?_⟩, s1⟩
  · rcases List.mem_append.1 hd with hd | hd
    · exact h.sc d hd
    · rw [List.mem_singleton.1 hd]; exact s1
  · rw [h.all, e, List.drop_drop]
    simp
theorem Upto.fail {b : List Int} {k : Nat} {pre : List Int} (h : Upto b k pre) (hk : k < b.length) (hn : (nextZ (b.drop k)).2 = 0) : stop b = k ∧ stop b < b.length := by
  have e := h.all
  rw [chs_stop hn, List.append_nil] at e
  have : stop b = k := by unfold stop; rw [e, h.len]
  exact ⟨this, by omega⟩
theorem Upto.done {b : List Int} {k : Nat} {pre : List Int} (h : Upto b k pre) (hk : ¬ k < b.length) : stop b = b.length ∧ chs b = pre := by
  have e := h.all
  rw [List.drop_eq_nil_iff.2 (by omega), chs_nil, List.append_nil] at e
  have := h.le
  exact ⟨by unfold stop; rw [e, h.len]; omega, e⟩
theorem Upto.small {b : List Int} {k : Nat} {pre : List Int} (h : Upto b k pre) : (utf pre).length ≤ k := by
  have := (utf_le h.sc).1
  rw [h.len] at this
  exact this

set_option maxRecDepth 100000 in
set_option maxHeartbeats 4000000 in
theorem Decode_anyP (v : Value) (b : List Int) (w : World) (h : Row w .u8 v b) (hl : b.length + 4 ≤ 140737488355328) :
    Calls Tryz.prog 244 #[v] w (Ret w (DecAnsP b)) := by
  have hf := h.fit
  have hk := h
  obtain ⟨A, c, rfl, hbc, hcm, -, -, -⟩ := hk
  unfold maxLen at hcm
  have HF := Lib.hid hf
  clear hf
  obtain ⟨n, hn⟩ : ∃ n, b.length = n := ⟨_, rfl⟩
  have hbld : BldP w.heap.size w.heap.size [] (w.alloc (.cells #[.pointer none, .slice none 0 0] 100)) := Lib.fresh_isBuilder 100 5 w
  rw [hn] at hbc hl
  have HN := Lib.hid hn
  rw [HN.out] at h ⊢
  clear hn
  go_enter Tryz.func244, Tryz.ntmps244
  go_wp2
  go_loopw [3] (fun at' wr => ∃ (k : Nat) (pre : List Int), at' = .int .i64 k ∧ k ≤ n ∧ Ext w wr ∧ BldP w.heap.size w.heap.size (utf pre) wr ∧ Hid (Upto b k pre)) (fun at' _ => n - (intOf at').toNat)
  case atStart => exact ⟨0, [], rfl, by omega, (Ext.refl w).alloc _, hbld, Lib.hid (Upto.start b)⟩
  case round =>
    obtain ⟨k, pre, rfl, hkn, hx, hB, HU⟩ := hrel
    have hwr : w.heap.size ≤ wr.heap.size := hx.size
    by_cases hlt : k < n
    · obtain ⟨v3, ht1, ht2, ht⟩ := tail_slice h k (by rw [HN.out]; exact hkn)
      obtain ⟨c1, hc1⟩ : ∃ c1, (nextZ (b.drop k)).1 = c1 := ⟨_, rfl⟩
      obtain ⟨m, hm⟩ : ∃ m, (nextZ (b.drop k)).2 = m := ⟨_, rfl⟩
      have hne : nextZ (b.drop k) = (c1, m) := by rw [← hc1, ← hm]
      have HC := Lib.hid hne
      clear hc1 hm hne
      have hsm : (utf pre).length ≤ k := HU.out.small
      by_cases hm0 : m = 0
      · subst hm0
        go_wp2_with fail
        refine (take_any v3 (b.drop k) _ (by exact ht.ext hx)).mono ?_
        rw [HC.out]
        rintro e w2 ⟨rfl, he2⟩
        have hs := HU.out.fail (by rw [HN.out]; exact hlt) (by rw [HC.out])
        have HS := Lib.hid hs
        clear hs
        go_wp2
        go_ret3
        exact Ret.mk (.inr ⟨HS.out.2, by rw [HS.out.1]; rfl⟩) (hx.trans he2)
      · have hmb : ((m : Int) == 0) = false := by simp; omega
        obtain ⟨hu2, hsc⟩ := HU.out.next HF.out HC.out hm0
        have HU2 := Lib.hid hu2
        have hkm : k + m ≤ n := by have := hu2.le; have := HN.out; omega
        have hc0 := hsc.lo
        have hc9 := hsc.hi
        have hm1 : 1 ≤ m := by omega
        clear hu2 hm0 hsc
        go_wp2_with fail
        refine (take_any v3 (b.drop k) _ (by exact ht.ext hx)).mono ?_
        rw [HC.out]
        rintro e w2 ⟨rfl, he2⟩
        have hB2 : BldP w.heap.size w.heap.size (utf pre) w2 := bld_extP hB he2
        have x2 : Ext w w2 := hx.trans he2
        go_wp2_with fail
        refine (WriteRune_any w.heap.size w.heap.size (utf pre) c1 _ hB2 hc0 hc9 (by omega) x2.size).mono ?_
        rintro e w3 ⟨⟨nn, rfl⟩, hB3, hb3⟩
        have x3 : Ext w w3 := Below.trans x2 hb3
        go_wp2
        go_roundw
        case rel => exact ⟨k + m, pre ++ [c1], by go_num, hkm, x3, by rw [utf_snoc]; exact hB3, HU2⟩
        case measure => simp [intOf]; omega
    · have hs := HU.out.done (by rw [HN.out]; exact hlt)
      have HS := Lib.hid hs
      clear hs
      go_wp2_with fail
      refine (Tryz.Builder_String_any w.heap.size w.heap.size (utf pre) _ hB hwr).mono ?_
      rintro e w2 ⟨rfl, hb2⟩
      go_wp2
      go_ret3
      exact Ret.mk (.inl ⟨by rw [HS.out.1, HN.out], by rw [HS.out.2]; rfl⟩) (Below.trans hx hb2)

end Go.Proofs.YtokmeomjdpfknaaGreatDoor
namespace Go.Proofs.YtokmeomjdpfknaaGreatDoor
open Go.RowKit
set_option linter.unusedVariables false

def decT (p : List Int) : ByteArray × Int := if stop p = p.length then (⟨(utf (chs p)).toArray⟩, 0) else (.empty, 20)
def rdTP (l : List Int) (e : Int) : ByteArray × List Int × Int :=
  if ¬ (rdU l e).2.2 = 0 then (.empty, (rdU l e).2.1, (rdU l e).2.2)
  else if ((rdU l e).2.1.length : Int) < (rdU l e).1 then (.empty, (rdU l e).2.1, 3)
  else ((decT ((rdU l e).2.1.take (rdU l e).1.toNat)).1, (rdU l e).2.1.drop (rdU l e).1.toNat, (decT ((rdU l e).2.1.take (rdU l e).1.toNat)).2)
theorem tU_pos {l : List Int} (h : (tU l).2.2 = 0) : 0 ≤ (tU l).1 ∧ (tU l).1 ≤ 9007199254740991 := by
  have h1 := (tU_ok h).1
  unfold uS at h1
  by_cases hc : (tU l).1 < 0 ∨ 9007199254740991 < (tU l).1
  · rw [if_pos hc] at h1
    have := congrArg Prod.snd h1
    simp at this
  · omega
theorem rdU_pos {l : List Int} {e : Int} (h : (rdU l e).2.2 = 0) : 0 ≤ (rdU l e).1 ∧ (rdU l e).1 ≤ 9007199254740991 := by
  unfold rdU at h ⊢
  split
  · rename_i h0
    rw [if_pos h0] at h
    exact tU_pos h
  · exact ⟨Int.le_refl _, by simp⟩

end Go.Proofs.YtokmeomjdpfknaaGreatDoor
namespace Go.Proofs.YtokmeomjdpfknaaGreatDoor
open Go.RowKit
set_option linter.unusedVariables false

def encC (x : Cst) : List Int :=
  x.k :: (if x.k = 1 then dg 1 10 (encZ x.t.data.toList).length ++ encZ x.t.data.toList else if x.k = 2 ∨ x.k = 3 then dg 2 10 x.n else if x.k = 4 then dg 1 10 x.a else dg 1 10 x.a ++ dg 1 10 x.b ++ dg 1 10 x.c)
def encTo (l : List Cst) (k : Nat) : List Int := dg 1 10 l.length ++ ((l.take k).drop 1).flatMap encC
def bytesZ (l : List Cst) : List Int := encTo l l.length
theorem encTo_one (l : List Cst) : encTo l 1 = dg 1 10 l.length := by
  unfold encTo
  rw [List.drop_eq_nil_iff.2 (by rw [List.length_take]; omega)]
  simp
theorem encTo_next {l : List Cst} {k : Nat} (h1 : 1 ≤ k) (h : k < l.length) : encTo l (k + 1) = encTo l k ++ encC (gc l k) := by
  unfold encTo
  rw [takeC_one h, List.drop_append_of_le_length (by rw [List.length_take]; omega), List.flatMap_append, List.append_assoc]
  simp
theorem encTo_le {l : List Cst} {k m : Nat} (h1 : 1 ≤ k) (h : k ≤ m) : (encTo l k).length ≤ (encTo l m).length := by
  induction m with
  | zero => omega
  | succ m ih =>
    by_cases hk : k = m + 1
    · rw [hk]; exact Nat.le_refl _
    · have h2 := ih (by omega)
      by_cases hm : m < l.length
      · rw [encTo_next (by omega) hm, List.length_append]
        omega
      · have e : encTo l (m + 1) = encTo l m := by
          unfold encTo
          rw [List.take_of_length_le (by omega), List.take_of_length_le (by omega)]
        rw [e]
        exact h2
def BytesAns (w : World) (l : List Cst) (v : Value) (w' : World) : Prop :=
  (checkC l = 0 ∧ ∃ b, v = .tuple #[b, .int .i64 0] ∧ Own w.heap.size w' 5 .u8 b (bytesZ l)) ∨ (¬ checkC l = 0 ∧ v = .tuple #[.slice none 0 0, .int .i64 (checkC l)])
theorem check_all {l : List Cst} (h : checkC l = 0) : l.length ≤ 4096 ∧ 0 < l.length ∧ AllMay l := by
  by_cases h1 : 4096 < l.length
  · rw [checkC_big h1] at h; cases h
  · by_cases h2 : l = []
    · rw [h2, checkC_nil] at h; cases h
    · refine ⟨by omega, List.length_pos_iff.2 h2, ?_⟩
      by_cases h3 : AllMay l
      · exact h3
      · rw [checkC_no (by omega) h3] at h; cases h

theorem Row.one (w : World) (T : TypeId) (g : Nat) (x : Int) (hx : (Lit.int .u8 x).wf = true) (hg : g = w.heap.size) : Row (w.alloc (.cells #[.int .u8 x] T)) .u8 (.slice (some ⟨g, 0, none⟩) 1 1) [x] := by
  subst hg
  exact Row.built1 w .u8 T x hx
theorem kept_copy {w wr w3 : World} {B : Nat} {e T : TypeId} {k : IntKind} {v : Value} {p : List Int} {y : Cst} {o : Obj} (ho : Own B wr e k v p) (hx : Ext w wr) (hB : w.heap.size ≤ B) (hg : ((wr.alloc (.cells y.vals T)).alloc o).grownBy w3 v.ownBlock) :
    At0 w3 wr.heap.size y ∧ wr.heap.size < w3.heap.size ∧ Ext w w3 := by
  have hs := hg.size
  simp at hs
  refine ⟨At0.of (T := T) ?_, by omega, ((hx.alloc _).alloc _).grown hg (fun g hgb => Nat.le_trans hB (ho.low g hgb))⟩
  rw [hg.block wr.heap.size (by simp; omega) (fun e => by have := ho.high _ e.symm; omega)]
  rw [heap_alloc_old _ _ (by simp), heap_alloc_new]
end Go.Proofs.YtokmeomjdpfknaaGreatDoor
namespace Go.Proofs.YtokmeomjdpfknaaGreatDoor
open Go.RowKit
set_option linter.unusedVariables false

def rdOne (l : List Int) : Cst × List Int × Int :=
  if l = [] then (c0, [], 3)
  else if gi l 0 = 1 then (⟨1, (rdTP (l.drop 1) 0).1, 0, 0, 0, 0⟩, (rdTP (l.drop 1) 0).2)
  else if gi l 0 = 2 ∨ gi l 0 = 3 then (⟨gi l 0, .empty, (rdS (l.drop 1) 0).1, 0, 0, 0⟩, (rdS (l.drop 1) 0).2)
  else if gi l 0 = 4 then (⟨4, .empty, 0, (rdU (l.drop 1) 0).1, 0, 0⟩, (rdU (l.drop 1) 0).2)
  else if gi l 0 = 5 ∨ gi l 0 = 6 then
    (⟨gi l 0, .empty, 0, (rdU (l.drop 1) 0).1, (rdU (rdU (l.drop 1) 0).2.1 (rdU (l.drop 1) 0).2.2).1, (rdU (rdU (rdU (l.drop 1) 0).2.1 (rdU (l.drop 1) 0).2.2).2.1 (rdU (rdU (l.drop 1) 0).2.1 (rdU (l.drop 1) 0).2.2).2.2).1⟩,
      (rdU (rdU (rdU (l.drop 1) 0).2.1 (rdU (l.drop 1) 0).2.2).2.1 (rdU (rdU (l.drop 1) 0).2.1 (rdU (l.drop 1) 0).2.2).2.2).2)
  else (⟨gi l 0, .empty, 0, 0, 0, 0⟩, l.drop 1, 4)

end Go.Proofs.YtokmeomjdpfknaaGreatDoor
namespace Go.Proofs.YtokmeomjdpfknaaGreatDoor
open Go.RowKit
set_option linter.unusedVariables false

theorem own_ne_iter {B K : Nat} {w : World} {v : Value} {l : List Int} {s : ByteArray} {k : Nat} (h : Own B w 5 .u8 v l) (hit : w.heap[K]? = some (.stringIter s k)) : ∀ g, v.ownBlock = some g → g ≠ K := by
  intro g hg e
  subst e
  rcases h.1.2 with ⟨rfl, _⟩ | ⟨g', cap, cur, rfl, _, hgg, _⟩
  · simp [Value.ownBlock] at hg
  · simp [Value.ownBlock] at hg
    subst hg
    rw [hit] at hgg
    cases hgg
theorem grown_iter (w : World) (K : Nat) (s : ByteArray) (p : Nat) : w.grownBy (w.iterAt K s p) (some K) :=
  ⟨rfl, rfl, rfl, by rw [Lib.iterAt_size]; exact Nat.le_refl _, fun k _ hne => Lib.iterAt_other w K k s p (fun e => hne (by rw [e]))⟩

set_option maxRecDepth 100000 in
set_option maxHeartbeats 1000000 in
theorem Len_any (s : ByteArray) (w : World) (hT : Tabs w) (hs : s.size ≤ 9223372036854775807) (hz : (encZ s.data.toList).length ≤ 9223372036854775807) :
    Calls Tryz.prog 160 #[.string s] w (Ret w (LenAns s.data.toList)) := by
  have cV := Tryz.utf8_ValidString s w hs hT
  obtain ⟨vb, hvb⟩ : ∃ vb, Lib.validD s.data.toList = vb := ⟨_, rfl⟩
  rw [hvb] at cV
  have HV := Lib.hid hvb
  clear hvb
  cases vb
  · go_enter Tryz.func160, Tryz.ntmps160
    go_wp2_with fail
    refine cV.mono ?_
    rintro e w1 ⟨rfl, he⟩
    go_wp2
    go_ret2
    exact Ret.mk (.inr ⟨HV.out, rfl⟩) he
  · go_enter Tryz.func160, Tryz.ntmps160
    go_wp2_with fail
    refine cV.mono ?_
    rintro e w1 ⟨rfl, he⟩
    go_wp2
    go_loopw [4] (fun n wr => ∃ (k : Nat) (pre : List Int), n = .int .i64 (mu pre).length ∧ k ≤ s.size ∧ wr.heap[w1.heap.size]? = some (.stringIter s k) ∧ Ext w wr ∧ Hid (runes s.data.toList = pre ++ runes (s.data.toList.drop k))) (fun _ wr => s.size - wr.iterPos w1.heap.size)
    case atStart =>
      refine ⟨0, [], rfl, by omega, ?_, ?_, Lib.hid rfl⟩
      · have := World.iter_heap w1 s 0
        simpa using this
      · exact Ext.alloc he (.stringIter s 0)
    case round =>
      obtain ⟨k, pre, rfl, hk, hit, hx, HR⟩ := hrel
      have hsz : w1.heap.size < wr.heap.size := (Array.getElem?_eq_some_iff.1 hit).1
      have hsz1 : w.heap.size ≤ w1.heap.size := he.size
      by_cases hlt : k < s.size
      · obtain ⟨r, m, hd, hm1, hm2, hsc, hr, hv⟩ := at_place s k hlt
        have hdec : Utf8.decode s k = (r, m) := by rw [decode_drop, hd]
        have hnx : ∀ ty, (Instr.next (.pointer (some ⟨w1.heap.size, 0, none⟩)) true ty).run Tryz.prog wr = _ := fun ty => Lib.run_next_any_at wr w1.heap.size s k ty hit hlt
        simp only [hdec] at hnx
        have hit2 := Lib.iterAt_heap wr w1.heap.size s k (k + m) hit
        have hx2 : Ext w (wr.iterAt w1.heap.size s (k + m)) := Lib.below_iterAt hx hsz1 s (k + m)
        have HR2 := Lib.hid (show runes s.data.toList = (pre ++ [(r : Int)]) ++ runes (s.data.toList.drop (k + m)) by rw [HR.out, hr]; simp)
        have hr1 : (r : Int) ≤ 1114111 := hsc.hi
        have hsum : (mu pre).length + (ch r).length ≤ 9223372036854775807 := by
          unfold encZ at hz
          rw [HR.out, hr, mu_app, mu_cons, List.length_append, List.length_append] at hz
          omega
        have hlen : (mu (pre ++ [(r : Int)])).length = (mu pre).length + (ch r).length := by rw [mu_snoc, List.length_append]
        have HL := Lib.hid hlen
        clear hd hdec hr hv hlen
        go_wp2_with (go_at_call 194; refine (sizeOf_any r _ (by omega) hr1).mono ?_; rintro e w2 ⟨rfl, rfl⟩)
        go_roundw
        case rel => exact ⟨k + m, pre ++ [(r : Int)], by rw [HL.out]; go_num, hm2, hit2, hx2, HR2⟩
        case measure =>
          simp only [World.iterPos, hit2, hit]
          omega
      · have hnx : ∀ ty, (Instr.next (.pointer (some ⟨w1.heap.size, 0, none⟩)) true ty).run Tryz.prog wr = _ := fun ty => Lib.run_next_end_at wr w1.heap.size s k ty hit hlt
        have hR := HR.out
        rw [drop_end s k hlt, runes_nil, List.append_nil] at hR
        have HE := Lib.hid (show encZ s.data.toList = mu pre by unfold encZ; rw [hR])
        clear hR
        go_wp2
        go_ret2
        exact Ret.mk (.inl ⟨HV.out, by rw [HE.out]; rfl⟩) hx

set_option maxRecDepth 100000 in
set_option maxHeartbeats 2000000 in
theorem Encode_anyP (s : ByteArray) (w : World) (hT : Tabs w) (hs : s.size ≤ 9223372036854775807) (hz : (encZ s.data.toList).length ≤ 140737488355328) :
    Calls Tryz.prog 115 #[.string s] w (Ret w (EncAns s.data.toList w.heap.size)) := by
  have c := Len_any s w hT hs (by omega)
  obtain ⟨i8, hi8, hi1, hi2, hi3⟩ := info_parts info8
  go_enter Tryz.func115, Tryz.ntmps115
  go_wp2_with fail
  refine c.mono ?_
  rintro e w1 ⟨v1, rfl, ⟨hv, rfl⟩ | ⟨hv, rfl⟩, he⟩
  · have HV := Lib.hid hv
    clear hv
    have hsz1 : w.heap.size ≤ w1.heap.size := he.size
    obtain ⟨N, hN⟩ : ∃ N, (encZ s.data.toList).length = N := ⟨_, rfl⟩
    rw [hN] at hz ⊢
    have HN := Lib.hid hN
    clear hN
    have hi4 : i8.bytes = 1 := hi3
    go_wp2_with (refine wpList_make_own _ rfl _ _ 29 rfl w.heap.size 5 i8 (.int .u8 0) 1 Tryz.underlying29 hi8 hi1 hi2 _ _ _ N rfl rfl rfl (by rw [hi4]; omega) (by simp only [maxLen]; omega) hsz1 ?_)
    intro w2 ho2 hg2
    have x2 : Ext w w2 := he.grown hg2 (fun g hg => by cases hg)
    have hsz2 : w.heap.size ≤ w2.heap.size := x2.size
    go_wp2
    go_loopw [6] (fun v wr => ∃ (k : Nat) (pre : List Int), k ≤ s.size ∧ wr.heap[w2.heap.size]? = some (.stringIter s k) ∧ Ext w wr ∧ Own w.heap.size wr 5 .u8 v (mu pre) ∧ Hid (runes s.data.toList = pre ++ runes (s.data.toList.drop k))) (fun _ wr => s.size - wr.iterPos w2.heap.size)
    case atStart =>
      refine ⟨0, [], by omega, ?_, Ext.alloc x2 (.stringIter s 0), ⟨ho2.alloc _, Fit.nil _⟩, Lib.hid rfl⟩
      have := World.iter_heap w2 s 0
      simpa using this
    case round =>
      obtain ⟨k, pre, hk, hit, hx, ho, HR⟩ := hrel
      have hsz : w2.heap.size < wr.heap.size := (Array.getElem?_eq_some_iff.1 hit).1
      by_cases hlt : k < s.size
      · obtain ⟨r, m, hd, hm1, hm2, hsc, hr, hv⟩ := at_place s k hlt
        have hdec : Utf8.decode s k = (r, m) := by rw [decode_drop, hd]
        have hnx : ∀ ty, (Instr.next (.pointer (some ⟨w2.heap.size, 0, none⟩)) true ty).run Tryz.prog wr = _ := fun ty => Lib.run_next_any_at wr w2.heap.size s k ty hit hlt
        simp only [hdec] at hnx
        have hit2 := Lib.iterAt_heap wr w2.heap.size s k (k + m) hit
        have hx2 : Ext w (wr.iterAt w2.heap.size s (k + m)) := Lib.below_iterAt hx hsz2 s (k + m)
        have HR2 := Lib.hid (show runes s.data.toList = (pre ++ [(r : Int)]) ++ runes (s.data.toList.drop (k + m)) by rw [HR.out, hr]; simp)
        have hr1 : (r : Int) ≤ 1114111 := hsc.hi
        have hsum : (mu pre).length + ((ch r).length + 0) ≤ 140737488355328 := by
          have hN := HN.out
          unfold encZ at hN
          rw [HR.out, hr, mu_app, mu_cons, List.length_append, List.length_append] at hN
          omega
        have ho2 : Own w.heap.size (wr.iterAt w2.heap.size s (k + m)) 5 .u8 u6 (mu pre) := Own.kept ho (grown_iter wr w2.heap.size s (k + m)) (fun g hg e => own_ne_iter ho hit g hg (by injection e with e; exact e.symm))
        have hne := own_ne_iter ho2 hit2
        have HNE := Lib.hid hne
        clear hd hdec hr hv hne
        go_wp2_with fail
        refine (put_anyP none _ (mu pre) 0 r w.heap.size _ (by exact ⟨ho2, hsum⟩) (by exact hx2.size) (by omega) hr1).mono ?_
        rintro e w3 ⟨v3, rfl, ho3, hg3, _⟩
        have hit3 : w3.heap[w2.heap.size]? = some (.stringIter s (k + m)) := (hg3.block w2.heap.size (by rw [Lib.iterAt_size]; exact hsz) (fun e => HNE.out _ e.symm rfl)).trans hit2
        have hx3 : Ext w w3 := hx2.grown hg3 ho.low
        go_wp2
        go_roundw
        case rel => exact ⟨k + m, pre ++ [(r : Int)], hm2, hit3, hx3, by rw [mu_snoc]; exact ho3.1, HR2⟩
        case measure =>
          simp only [World.iterPos, hit3, hit]
          omega
      · have hnx : ∀ ty, (Instr.next (.pointer (some ⟨w2.heap.size, 0, none⟩)) true ty).run Tryz.prog wr = _ := fun ty => Lib.run_next_end_at wr w2.heap.size s k ty hit hlt
        have hR := HR.out
        rw [drop_end s k hlt, runes_nil, List.append_nil] at hR
        have HE := Lib.hid (show encZ s.data.toList = mu pre by unfold encZ; rw [hR])
        clear hR
        go_wp2
        go_ret2
        exact Ret.mk (.inl ⟨HV.out, _, rfl, by rw [HE.out]; exact ho⟩) hx
  · have HV := Lib.hid hv
    clear hv
    go_wp2
    go_ret2
    exact Ret.mk (.inr ⟨HV.out, rfl⟩) he
end Go.Proofs.YtokmeomjdpfknaaGreatDoor
namespace Go.Proofs.YtokmeomjdpfknaaGreatDoor
open Go.RowKit
set_option linter.unusedVariables false

theorem str_eq (s : ByteArray) (l : List UInt8) (h : s.data.toList = l) : (⟨l.toArray⟩ : ByteArray) = s := by
  subst h
  rfl

theorem enc_len (l : List UInt8) : (encZ l).length ≤ 3 * l.length := by
  obtain ⟨n, hn⟩ : ∃ n, l.length ≤ n := ⟨_, Nat.le_refl _⟩
  induction n generalizing l with
  | zero =>
    have : l = [] := List.eq_nil_of_length_eq_zero (by omega)
    subst this
    exact Nat.le_refl _
  | succ n ih =>
    by_cases hne : l = []
    · subst hne
      exact Nat.le_refl _
    · have hl : 0 < l.length := List.length_pos_iff.2 hne
      have hw := Lib.decodeL_width l
      have hle := decodeL_le l hne
      have hi := ih (l.drop (Lib.decodeL l).2) (by rw [List.length_drop]; omega)
      have hc : (ch (Lib.decodeL l).1).length ≤ 3 * (Lib.decodeL l).2 := by
        rw [Lib.decodeL_N]
        rcases Lib.decodeN_shape l.length (l.getD 0 0).toNat (l.getD 1 0).toNat (l.getD 2 0).toNat (l.getD 3 0).toNat with ⟨c, e⟩ | ⟨c1, c2, c3, cv, e⟩ | ⟨c1, c2, c3, c4, cv, cs, e⟩ | ⟨c1, c2, c3, c4, c5, cv, cw, e⟩ | e
        · rw [e]
          dsimp only
          by_cases h0 : 1 ≤ ((l.getD 0 0).toNat : Int) ∧ ((l.getD 0 0).toNat : Int) ≤ 127
          · rw [ch1 h0]; simp
          · rw [ch2 h0 (by omega)]; simp
        · rw [e]
          have := (ch_len ((((l.getD 0 0).toNat % 32 * 64 + (l.getD 1 0).toNat % 64 : Nat)) : Int)).2
          dsimp only
          omega
        · rw [e]
          have := (ch_len ((((l.getD 0 0).toNat % 16 * 4096 + (l.getD 1 0).toNat % 64 * 64 + (l.getD 2 0).toNat % 64 : Nat)) : Int)).2
          dsimp only
          omega
        · rw [e]
          have := (ch_len ((((l.getD 0 0).toNat % 8 * 262144 + (l.getD 1 0).toNat % 64 * 4096 + (l.getD 2 0).toNat % 64 * 64 + (l.getD 3 0).toNat % 64 : Nat)) : Int)).2
          dsimp only
          omega
        · rw [e]
          decide
      rw [List.length_drop] at hi
      unfold encZ at hi ⊢
      rw [runes_step l hne, mu_cons, List.length_append]
      omega
theorem enc_back (s : ByteArray) (hv : Lib.validD s.data.toList = true) : stop (encZ s.data.toList) = (encZ s.data.toList).length ∧ (⟨(utf (chs (encZ s.data.toList))).toArray⟩ : ByteArray) = s := by
  have hch := chs_all (runes_sc s.data.toList)
  refine ⟨hch.2, ?_⟩
  unfold encZ
  rw [hch.1]
  exact str_eq s _ (utf_runes _ hv).symm
theorem dec_back {b : List Int} (hf : Fit .u8 b) (h : stop b = b.length) (S : ByteArray) (hS : (⟨(utf (chs b)).toArray⟩ : ByteArray) = S) : Lib.validD S.data.toList = true ∧ encZ S.data.toList = b ∧ S.size ≤ b.length := by
  obtain ⟨h1, h2, h3⟩ := chs_sound hf
  obtain ⟨e1, e2⟩ := back_utf h1
  have hd : S.data.toList = utf (chs b) := by rw [← hS]
  have hm : mu (chs b) = b := by rw [drop_stop hf, h, List.take_length]
  rw [Lib.size_eq, hd]
  refine ⟨e1, by unfold encZ; rw [e2, hm], ?_⟩
  have := (utf_le h1).1
  rw [hm] at this
  exact this
end Go.Proofs.YtokmeomjdpfknaaGreatDoor
namespace Go.Proofs.YtokmeomjdpfknaaGreatDoor
open Go.RowKit
set_option linter.unusedVariables false

theorem Fit.suf {k : IntKind} {l m : List Int} (h : Fit k l) (hs : m <:+ l) : Fit k m := fun x hx => h x (hs.subset hx)
theorem tU_suf (l : List Int) : (tU l).2.1 <:+ l := by
  by_cases h : (tU l).2.2 = 0
  · exact ⟨_, (tU_ok h).2⟩
  · rw [(tU_err h).2]
    exact List.nil_suffix
theorem tS_suf (m : Nat) (wy : Int) (l : List Int) : (tS m wy l).2.1 <:+ l := by
  by_cases h : (tS m wy l).2.2 = 0
  · exact ⟨_, tS_ok h⟩
  · rw [(tS_err h).2.1]
    exact List.nil_suffix
theorem rdU_suf (l : List Int) (e : Int) : (rdU l e).2.1 <:+ l := by
  unfold rdU
  split
  · exact tU_suf l
  · exact List.suffix_refl l
theorem rdS_suf (l : List Int) (e : Int) : (rdS l e).2.1 <:+ l := by
  unfold rdS
  split
  · exact tS_suf 10 2 l
  · exact List.suffix_refl l
theorem rdT_suf (l : List Int) (e : Int) : (rdTP l e).2.1 <:+ l := by
  unfold rdTP
  split
  · exact rdU_suf l e
  · split
    · exact rdU_suf l e
    · exact (List.drop_suffix _ _).trans (rdU_suf l e)
theorem rdOne_suf (l : List Int) : (rdOne l).2.1 <:+ l := by
  unfold rdOne
  have h1 : l.drop 1 <:+ l := List.drop_suffix 1 l
  split
  · exact List.nil_suffix
  · split
    · exact (rdT_suf _ _).trans h1
    · split
      · exact (rdS_suf _ _).trans h1
      · split
        · exact (rdU_suf _ _).trans h1
        · split
          · exact (rdU_suf _ _).trans ((rdU_suf _ _).trans ((rdU_suf _ _).trans h1))
          · exact h1
theorem rdU_rng (l : List Int) (e : Int) : 0 ≤ (rdU l e).1 ∧ (rdU l e).1 ≤ 9007199254740991 := by
  by_cases h : (rdU l e).2.2 = 0
  · exact rdU_pos h
  · unfold rdU at h ⊢
    by_cases he : e = 0
    · rw [if_pos he] at h ⊢
      rw [(tU_err h).1]
      omega
    · rw [if_neg he]
      simp
theorem rdU_i64 (l : List Int) (e : Int) : I64 (rdU l e).1 := by
  have := rdU_rng l e
  exact ⟨by omega, by omega⟩
theorem rdS_i64 {l : List Int} (hf : Fit .u8 l) (e : Int) : I64 (rdS l e).1 := by
  unfold rdS
  split
  · exact tS_range hf
  · exact i64_zero
theorem rdOne_ok {l : List Int} (hf : Fit .u8 l) : (rdOne l).1.ok := by
  have hg : I64 (gi l 0) := by
    have := hf.gi 0
    exact ⟨by omega, by omega⟩
  have h1 := hf.suf (List.drop_suffix 1 l)
  unfold rdOne
  split
  · exact c0_ok
  · split
    · exact ⟨⟨by simp, by simp⟩, i64_zero, i64_zero, i64_zero, i64_zero⟩
    · split
      · exact ⟨hg, rdS_i64 h1 _, i64_zero, i64_zero, i64_zero⟩
      · split
        · exact ⟨⟨by simp, by simp⟩, i64_zero, rdU_i64 _ _, i64_zero, i64_zero⟩
        · split
          · exact ⟨hg, i64_zero, rdU_i64 _ _, rdU_i64 _ _, rdU_i64 _ _⟩
          · exact ⟨hg, i64_zero, i64_zero, i64_zero, i64_zero⟩
def Fits (t : ByteArray) (n : Nat) : Prop := t.size ≤ n ∧ (encZ t.data.toList).length ≤ n
theorem fits_empty (n : Nat) : Fits .empty n := ⟨Nat.zero_le _, by
  have : encZ (ByteArray.empty).data.toList = [] := rfl
  rw [this]
  exact Nat.zero_le _⟩
theorem Fits.le {t : ByteArray} {n m : Nat} (h : Fits t n) (hm : n ≤ m) : Fits t m := ⟨Nat.le_trans h.1 hm, Nat.le_trans h.2 hm⟩
theorem decT_fits {p : List Int} (hf : Fit .u8 p) : Fits (decT p).1 p.length := by
  unfold decT
  split
  · rename_i h
    obtain ⟨_, h2, h3⟩ := dec_back hf h _ rfl
    exact ⟨h3, by rw [h2]; exact Nat.le_refl _⟩
  · exact fits_empty _
theorem rdT_fits {l : List Int} (hf : Fit .u8 l) (e : Int) : Fits (rdTP l e).1 l.length := by
  unfold rdTP
  split
  · exact fits_empty _
  · split
    · exact fits_empty _
    · refine (decT_fits ((hf.suf (rdU_suf l e)).take _)).le ?_
      have := (rdU_suf l e).length_le
      simp only [List.length_take]
      omega
theorem rdOne_fits {l : List Int} (hf : Fit .u8 l) : Fits (rdOne l).1.t l.length := by
  unfold rdOne
  split
  · exact fits_empty _
  · split
    · exact (rdT_fits (hf.suf (List.drop_suffix 1 l)) 0).le (by simp)
    · split
      · exact fits_empty _
      · split
        · exact fits_empty _
        · split
          · exact fits_empty _
          · exact fits_empty _

def rdList (p : List Int) (e : Int) : Nat → List Cst × List Int × Int
  | 0 => ([], p, e)
  | k + 1 => if (rdList p e k).2.2 = 0 then (if k = 0 then ([c0], (rdList p e k).2) else ((rdList p e k).1 ++ [(rdOne (rdList p e k).2.1).1], (rdOne (rdList p e k).2.1).2)) else rdList p e k
theorem rdList_zero (p : List Int) (e : Int) : rdList p e 0 = ([], p, e) := rfl
theorem rdList_first (p : List Int) : rdList p 0 1 = ([c0], p, 0) := by simp [rdList]
theorem rdList_next {p : List Int} {e : Int} {k : Nat} (hk : 1 ≤ k) (h : (rdList p e k).2.2 = 0) : rdList p e (k + 1) = ((rdList p e k).1 ++ [(rdOne (rdList p e k).2.1).1], (rdOne (rdList p e k).2.1).2) := by
  rw [rdList, if_pos h, if_neg (by omega)]
theorem rdList_past {p : List Int} {e : Int} {k : Nat} (h : ¬ (rdList p e k).2.2 = 0) : ∀ m, k ≤ m → rdList p e m = rdList p e k := by
  intro m hm
  induction m with
  | zero => rw [show k = 0 by omega]
  | succ m ih =>
    by_cases hk : k = m + 1
    · rw [hk]
    · have := ih (by omega)
      rw [rdList, this, if_neg h]
theorem rdList_len {p : List Int} {e : Int} : ∀ {k : Nat}, (rdList p e k).2.2 = 0 → (rdList p e k).1.length = k := by
  intro k
  induction k with
  | zero => exact fun _ => rfl
  | succ k ih =>
    intro h
    rw [rdList] at h ⊢
    by_cases h0 : (rdList p e k).2.2 = 0
    · rw [if_pos h0] at h ⊢
      by_cases hk : k = 0
      · rw [if_pos hk, hk]; rfl
      · rw [if_neg hk]
        simp [ih h0]
    · rw [if_neg h0] at h
      exact absurd h h0
theorem rdList_suf (p : List Int) (e : Int) : ∀ k : Nat, (rdList p e k).2.1 <:+ p := by
  intro k
  induction k with
  | zero => exact List.suffix_refl p
  | succ k ih =>
    rw [rdList]
    split
    · split
      · exact ih
      · exact (rdOne_suf _).trans ih
    · exact ih
theorem rdList_all {p : List Int} (hf : Fit .u8 p) (e : Int) : ∀ k : Nat, ∀ x ∈ (rdList p e k).1, x.ok ∧ Fits x.t p.length := by
  intro k
  induction k with
  | zero => exact fun x hx => by cases hx
  | succ k ih =>
    intro x hx
    rw [rdList] at hx
    split at hx
    · split at hx
      · rw [List.mem_singleton.1 hx]
        exact ⟨c0_ok, fits_empty _⟩
      · rcases List.mem_append.1 hx with hx | hx
        · exact ih x hx
        · rw [List.mem_singleton.1 hx]
          have hs := rdList_suf p e k
          exact ⟨rdOne_ok (hf.suf hs), (rdOne_fits (hf.suf hs)).le hs.length_le⟩
    · exact ih x hx
def cntZ (b : List Int) : Int := if (tU b).2.2 = 0 ∧ 4096 < (tU b).1 then 5 else (tU b).2.2
def manyZ (b : List Int) : List Cst × List Int × Int := rdList (tU b).2.1 (cntZ b) (tU b).1.toNat
noncomputable def errZ (b : List Int) : Int := if (manyZ b).2.2 = 0 then checkC (manyZ b).1 else (manyZ b).2.2
theorem many_all {b : List Int} (hf : Fit .u8 b) : (∀ x ∈ (manyZ b).1, x.ok ∧ Fits x.t b.length) ∧ (manyZ b).2.1 <:+ b := by
  have hs := tU_suf b
  exact ⟨fun x hx => by
    obtain ⟨h1, h2⟩ := rdList_all (hf.suf hs) _ _ x hx
    exact ⟨h1, h2.le hs.length_le⟩, (rdList_suf _ _ _).trans hs⟩
end Go.Proofs.YtokmeomjdpfknaaGreatDoor
