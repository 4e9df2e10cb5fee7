/- Several texts of this proof, one behind the other. -/
import Derived.Test.YtecgldkhjgcffaaDoorZtA
import Derived.Test.YtecgldkhjgcffaaDoorZtY
import Derived.Test.YtecgldkhjgcffaaDoorZtF
import Derived.Lib.OthersKept
import Derived.OwnWalk
import Derived.LoopN
import Derived.Lib.Builder
/- The document's answer for texts, the leaves: a character's bytes. -/
namespace Go.Proofs.YtecgldkhjgcffaaDoor
open Go.RowKit
set_option linter.unusedVariables false

theorem Own.built (w : World) (l : List Int) (hf : Fit .u8 l) (hl : l.length ≤ 65536) :
    Own w.heap.size (w.alloc (.cells (l.map (Value.int .u8)).toArray 5)) 5 .u8 (.slice (some ⟨w.heap.size, 0, none⟩) l.length l.length) l :=
  ⟨⟨by simp, .inr ⟨w.heap.size, l.length, (l.map (Value.int .u8)).toArray, rfl, Nat.le_refl _, heap_alloc_new w _, Nat.le_refl _, by simp only [maxLen]; omega, by simp, by
    rw [Nat.mul_one]
    exact List.take_of_length_le (by simp)⟩⟩, hf⟩
theorem th_wf {c : Int} (h0 : 0 ≤ c) (h1 : c ≤ 65535) : Fit .u8 (th c) := by
  intro x hx
  simp only [th, List.mem_cons, List.not_mem_nil, or_false] at hx
  exact wf_u8 (by omega) (by omega)

theorem three_any (c : Int) (w : World) (h0 : 0 ≤ c) (h1 : c ≤ 65535) :
    Calls Tryd.prog 81 #[.int .i64 c] w (Ret w (fun v' w' => Own w.heap.size w' 5 .u8 v' (th c))) := by
  have b1 := b64_or224 (c / 4096) (by omega) (by omega)
  have b2 := b64_and63 (c / 64) (by omega) (by omega)
  have b3 := b64_or128 (c / 64 % 64) (by omega) (by omega)
  have b4 := b64_and63 c (by omega) (by omega)
  have b5 := b64_or128 (c % 64) (by omega) (by omega)
  have b6 : (224 + c / 4096) % 256 = 224 + c / 4096 := by omega
  have b7 : (128 + c / 64 % 64) % 256 = 128 + c / 64 % 64 := by omega
  have b8 : (128 + c % 64) % 256 = 128 + c % 64 := by omega
  go_enter Tryd.func81, Tryd.ntmps81
  go_wp2
  go_ret
  exact Ret.mk (Own.built w (th c) (th_wf h0 h1) (by simp [th])) ((Ext.refl _).alloc _)

theorem char_1 (c : Int) (w : World) (h0 : 1 ≤ c) (h1 : c ≤ 127) :
    Calls Tryd.prog 66 #[.int .i64 c] w (Ret w (fun v' w' => Own w.heap.size w' 5 .u8 v' [c])) := by
  have b6 : c % 256 = c := by omega
  go_enter Tryd.func66, Tryd.ntmps66
  go_wp2
  go_ret
  exact Ret.mk (Own.built w [c] (by intro x hx; simp only [List.mem_cons, List.not_mem_nil, or_false] at hx; exact wf_u8 (by omega) (by omega)) (by simp)) ((Ext.refl _).alloc _)
theorem char_2 (c : Int) (w : World) (h0 : 128 ≤ c) (h1 : c ≤ 2047) :
    Calls Tryd.prog 66 #[.int .i64 c] w (Ret w (fun v' w' => Own w.heap.size w' 5 .u8 v' [192 + c / 64, 128 + c % 64])) := by
  have b1 := b64_or192 (c / 64) (by omega) (by omega)
  have b4 := b64_and63 c (by omega) (by omega)
  have b5 := b64_or128 (c % 64) (by omega) (by omega)
  have b6 : (192 + c / 64) % 256 = 192 + c / 64 := by omega
  have b8 : (128 + c % 64) % 256 = 128 + c % 64 := by omega
  go_enter Tryd.func66, Tryd.ntmps66
  go_wp2
  go_ret
  exact Ret.mk (Own.built w [192 + c / 64, 128 + c % 64] (by intro x hx; simp only [List.mem_cons, List.not_mem_nil, or_false] at hx; exact wf_u8 (by omega) (by omega)) (by simp)) ((Ext.refl _).alloc _)
theorem char_0 (w : World) :
    Calls Tryd.prog 66 #[.int .i64 0] w (Ret w (fun v' w' => Own w.heap.size w' 5 .u8 v' [192, 128])) := by
  have b1 := b64_or192 0 (by omega) (by omega)
  have b5 := b64_or128 0 (by omega) (by omega)
  have b4 := b64_and63 0 (by omega) (by omega)
  go_enter Tryd.func66, Tryd.ntmps66
  go_wp2
  go_ret
  exact Ret.mk (Own.built w [192, 128] (by intro x hx; simp only [List.mem_cons, List.not_mem_nil, or_false] at hx; exact wf_u8 (by omega) (by omega)) (by simp)) ((Ext.refl _).alloc _)
theorem char_3 (c : Int) (w : World) (h0 : 2048 ≤ c) (h1 : c ≤ 65535) :
    Calls Tryd.prog 66 #[.int .i64 c] w (Ret w (fun v' w' => Own w.heap.size w' 5 .u8 v' (th c))) := by
  go_enter Tryd.func66, Tryd.ntmps66
  go_wp2_with (go_at_call 81; refine (three_any c _ (by omega) (by omega)).mono ?_; rintro e w1 ⟨v1, rfl, ho1, he1⟩)
  go_ret
  exact Ret.mk ho1 he1
set_option maxHeartbeats 400000 in
theorem char_6 (c : Int) (w : World) (h0 : 65536 ≤ c) (h1 : c ≤ 1114111) :
    Calls Tryd.prog 66 #[.int .i64 c] w (Ret w (fun v' w' => Own w.heap.size w' 5 .u8 v' (th (55296 + (c - 65536) / 1024) ++ th (56320 + (c - 65536) % 1024)))) := by
  have b1 := b64_or55296 ((c - 65536) / 1024) (by omega) (by omega)
  have b2 := b64_and1023 (c - 65536) (by omega) (by omega)
  have b3 := b64_or56320 ((c - 65536) % 1024) (by omega) (by omega)
  go_enter Tryd.func66, Tryd.ntmps66
  go_wp2_with fail
  refine (three_any (55296 + (c - 65536) / 1024) _ (by omega) (by omega)).mono ?_
  rintro e w1 ⟨v1, rfl, ho1, he1⟩
  go_wp2_with fail
  refine (three_any (56320 + (c - 65536) % 1024) _ (by omega) (by omega)).mono ?_
  rintro e w2 ⟨v2, rfl, ho2, he2⟩
  go_wp2_with (at_builtin; go_loud (refine wpList_app _ rfl _ _ w.heap.size 22 5 _ 1 .u8 rfl Tryd.underlying22 info8 rfl (by omega) v1 (th (55296 + (c - 65536) / 1024)) rfl (ho1.ext he2) v2 (th (56320 + (c - 65536) % 1024)) rfl ho2.row (by simp [th]) (by have := he1.size; have := he2.size; omega) ?_))
  intro v3 w3 ho3 hg3 _
  go_wp2
  go_ret
  exact Ret.mk ho3 ((he1.trans he2).grown hg3 ho1.low)
theorem char_any (c : Int) (w : World) (h0 : 0 ≤ c) (h1 : c ≤ 1114111) :
    Calls Tryd.prog 66 #[.int .i64 c] w (Ret w (fun v' w' => Own w.heap.size w' 5 .u8 v' (ch c))) := by
  by_cases a1 : 1 ≤ c ∧ c ≤ 127
  · rw [ch1 a1]; exact char_1 c w a1.1 a1.2
  · by_cases a2 : c ≤ 2047
    · rw [ch2 a1 a2]
      by_cases a0 : c = 0
      · subst a0; exact char_0 w
      · exact char_2 c w (by omega) a2
    · by_cases a3 : c ≤ 65535
      · rw [ch3 (by omega) a3]; exact char_3 c w (by omega) a3
      · rw [ch6 (by omega)]; exact char_6 c w (by omega) h1
end Go.Proofs.YtecgldkhjgcffaaDoor
/- The document's answer for texts: a text's bytes. -/
namespace Go.Proofs.YtecgldkhjgcffaaDoor
open Go.RowKit
set_option linter.unusedVariables false

/-- unicode/utf8's two tables are as its text lays them. -/
def Tabs (w : World) : Prop := Lib.Utf8Tabs 0 1 w
theorem Tabs.ext {w w' : World} (h : Tabs w) (he : Ext w w') : Tabs w' := Utf8Tabs_below h he

theorem decodeL_le (l : List UInt8) (h : l ≠ []) : (Lib.decodeL l).2 ≤ l.length := by
  have hl : 0 < l.length := List.length_pos_iff.2 h
  rw [Lib.decodeL_N]
  rcases Lib.decodeN_shape l.length (l.getD 0 0).toNat (l.getD 1 0).toNat (l.getD 2 0).toNat (l.getD 3 0).toNat with ⟨c, e⟩ | ⟨c1, c2, c3, cv, e⟩ | ⟨c1, c2, c3, c4, cv, cs, e⟩ | ⟨c1, c2, c3, c4, c5, cv, cw, e⟩ | e
  all_goals
    rw [e]
    dsimp only
    omega
theorem decode_drop (s : ByteArray) (k : Nat) : Utf8.decode s k = Lib.decodeL (s.data.toList.drop k) := by
  rw [Lib.decode_N, Lib.decodeL_N, List.length_drop, Lib.getD_dropU, Lib.getD_dropU, Lib.getD_dropU, Lib.getD_dropU]
  rfl
theorem decodeGo_ext (s : ByteArray) (k : Nat) (h : k < s.size) : Lib.decodeGo (s.extract k s.size) = Lib.decodeL (s.data.toList.drop k) := by
  have hs : (s.extract k s.size).size = s.size - k := by simp
  unfold Lib.decodeGo
  rw [if_neg (by omega), decode_drop]
  rw [List.drop_zero, Lib.ext_list]

/-- What stands at a place of a string. -/
theorem at_place (s : ByteArray) (k : Nat) (h : k < s.size) : ∃ r m : Nat, Lib.decodeL (s.data.toList.drop k) = (r, m) ∧ 1 ≤ m ∧ k + m ≤ s.size ∧ Sc (r : Int) ∧ runes (s.data.toList.drop k) = (r : Int) :: runes (s.data.toList.drop (k + m)) ∧
    Lib.validD (s.data.toList.drop k) = (if r = 65533 ∧ m = 1 then false else Lib.validD (s.data.toList.drop (k + m))) := by
  have hne : s.data.toList.drop k ≠ [] := by
    intro e
    have := congrArg List.length e
    rw [List.length_drop, ← Lib.size_eq] at this
    simp at this
    omega
  have hle := decodeL_le _ hne
  rw [List.length_drop, ← Lib.size_eq] at hle
  refine ⟨(Lib.decodeL (s.data.toList.drop k)).1, (Lib.decodeL (s.data.toList.drop k)).2, rfl, Lib.decodeL_width _, ?_, decodeL_sc _, ?_, ?_⟩
  · revert hle
    generalize (Lib.decodeL (s.data.toList.drop k)).2 = d
    intro hle
    omega
  · rw [runes_step _ hne, List.drop_drop]
  · rw [Lib.validD_step _ hne, List.drop_drop]
theorem drop_end (s : ByteArray) (k : Nat) (h : ¬ k < s.size) : s.data.toList.drop k = [] := List.drop_eq_nil_iff.2 (by rw [← Lib.size_eq]; omega)

/-- What Encode answers of a string. -/
def EncAns (l : List UInt8) (B : Nat) (v' : Value) (w' : World) : Prop :=
  (Lib.validD l = true ∧ ∃ v, v' = .tuple #[v, .int .i64 0] ∧ Own B w' 5 .u8 v (encZ l)) ∨ (Lib.validD l = false ∧ v' = .tuple #[.slice none 0 0, .int .i64 20])
/-- What Len answers of a string. -/
def LenAns (l : List UInt8) (v' : Value) (w' : World) : Prop :=
  (Lib.validD l = true ∧ v' = .tuple #[.int .i64 (encZ l).length, .int .i64 0]) ∨ (Lib.validD l = false ∧ v' = .tuple #[.int .i64 0, .int .i64 20])

set_option maxRecDepth 100000 in
set_option maxHeartbeats 2000000 in
theorem refEncode_any (s : ByteArray) (w : World) (hT : Tabs w) (hs : s.size ≤ 9223372036854775807) (hz : (encZ s.data.toList).length ≤ 140737488355328) :
    Calls Tryd.prog 39 #[.string s] w (Ret w (EncAns s.data.toList w.heap.size)) := by
  go_enter Tryd.func39, Tryd.ntmps39
  go_wp2
  go_loopw [4, 5] (fun v i wr => ∃ (k : Nat) (pre : List Int), i = .int .i64 k ∧ k ≤ s.size ∧ Ext w wr ∧ Own w.heap.size wr 5 .u8 v (mu pre) ∧ Hid (runes s.data.toList = pre ++ runes (s.data.toList.drop k)) ∧ Hid (Lib.validD s.data.toList = Lib.validD (s.data.toList.drop k))) (fun _ i _ => s.size - (intOf i).toNat)
  case atStart => exact ⟨0, [], rfl, by omega, Ext.refl _, Own.nil _ _ _ _, Lib.hid rfl, Lib.hid rfl⟩
  case round =>
    obtain ⟨k, pre, rfl, hk, he, ho, HR, HV⟩ := hrel
    by_cases hlt : k < s.size
    · obtain ⟨r, m, hd, hm1, hm2, hsc, hr, hv⟩ := at_place s k hlt
      have hgo := decodeGo_ext s k hlt
      rw [hd] at hgo
      have HD := Lib.hid hgo
      have hr2 : r ≤ 1114111 := by have := hsc.hi; omega
      have hsum : (mu pre).length + (ch r).length ≤ 140737488355328 := by
        unfold encZ at hz
        rw [HR.out, hr, mu_app, mu_cons, List.length_append, List.length_append] at hz
        omega
      by_cases hbad : r = 65533 ∧ m = 1
      · obtain ⟨rfl, rfl⟩ := hbad
        rw [if_pos ⟨rfl, rfl⟩] at hv
        have HF := Lib.hid (HV.out.trans hv)
        clear hv hr hgo hd
        go_wp2_with fail
        refine (Tryd.utf8_DecodeRuneInString (s.extract k s.size) _ (hT.ext he)).mono ?_
        rw [HD.out]
        rintro e w1 ⟨rfl, he1⟩
        go_wp2
        go_ret2
        exact Ret.mk (.inr ⟨HF.out, rfl⟩) (he.trans he1)
      · rw [if_neg hbad] at hv
        have HR2 := Lib.hid (show runes s.data.toList = (pre ++ [(r : Int)]) ++ runes (s.data.toList.drop (k + m)) by rw [HR.out, hr]; simp)
        have HV2 := Lib.hid (HV.out.trans hv)
        have hsc2 : 0 ≤ (r : Int) := by omega
        clear hv hr hgo hd
        by_cases hr0 : r = 65533
        · subst hr0
          have htest : ¬ (m : Int) < 2 := by omega
          have hsum : (mu pre).length + (ch 65533).length ≤ 140737488355328 := hsum
          clear hbad
          go_wp2_with fail
          refine (Tryd.utf8_DecodeRuneInString (s.extract k s.size) _ (hT.ext he)).mono ?_
          rw [HD.out]
          rintro e w1 ⟨rfl, he1⟩
          have y1 : Ext w w1 := he.trans he1
          go_wp2_with fail
          refine (char_any 65533 _ (by omega) (by omega)).mono ?_
          rintro e w2 ⟨v2, rfl, ho2, he2⟩
          have y2 : Ext w w2 := y1.trans he2
          go_wp2_with (at_builtin; go_loud (refine wpList_app _ rfl _ _ w.heap.size 22 5 _ 1 .u8 rfl Tryd.underlying22 info8 rfl (by omega) _ (mu pre) rfl (ho.ext (Ext.trans he1 he2)) v2 (ch 65533) rfl ho2.row (by omega) y2.size ?_))
          intro v3 w3 ho3 hg3 _
          have y3 : Ext w w3 := y2.grown hg3 ho.low
          go_wp2
          go_roundw
          case rel => exact ⟨k + m, pre ++ [(65533 : Int)], by go_num, by omega, y3, by rw [mu_snoc]; exact ho3, HR2, HV2⟩
          case measure => simp [intOf]; omega
        · have htest : ((r : Int) == 65533) = false := by simp; omega
          clear hbad hr0
          go_wp2_with fail
          refine (Tryd.utf8_DecodeRuneInString (s.extract k s.size) _ (hT.ext he)).mono ?_
          rw [HD.out]
          rintro e w1 ⟨rfl, he1⟩
          have y1 : Ext w w1 := he.trans he1
          go_wp2_with fail
          refine (char_any r _ (by omega) (by omega)).mono ?_
          rintro e w2 ⟨v2, rfl, ho2, he2⟩
          have y2 : Ext w w2 := y1.trans he2
          go_wp2_with (at_builtin; go_loud (refine wpList_app _ rfl _ _ w.heap.size 22 5 _ 1 .u8 rfl Tryd.underlying22 info8 rfl (by omega) _ (mu pre) rfl (ho.ext (Ext.trans he1 he2)) v2 (ch r) rfl ho2.row (by omega) y2.size ?_))
          intro v3 w3 ho3 hg3 _
          have y3 : Ext w w3 := y2.grown hg3 ho.low
          go_wp2
          go_roundw
          case rel => exact ⟨k + m, pre ++ [(r : Int)], by go_num, by omega, y3, by rw [mu_snoc]; exact ho3, HR2, HV2⟩
          case measure => simp [intOf]; omega
    · have hd := drop_end s k hlt
      have hR := HR.out
      have hV := HV.out
      rw [hd] at hR hV
      rw [runes_nil, List.append_nil] at hR
      have hF : Lib.validD s.data.toList = true := hV
      have HF := Lib.hid hF
      have HE := Lib.hid (show encZ s.data.toList = mu pre by unfold encZ; rw [hR])
      clear hd hR hV hF
      go_wp2
      go_ret2
      exact Ret.mk (.inl ⟨HF.out, _, rfl, by rw [HE.out]; exact ho⟩) he

end Go.Proofs.YtecgldkhjgcffaaDoor
/- Package text, the leaves: a byte behind the first one, a character's bytes, how many they are. -/
namespace Go.Proofs.YtecgldkhjgcffaaDoor
open Go.RowKit
set_option linter.unusedVariables false

theorem nextByte_any (r : Int) (w : World) (h0 : 0 ≤ r) (h1 : r ≤ 1114111) :
    Calls Tryd.prog 97 #[.int .i32 r] w fun e w' => e = .returned (.int .u8 (128 + r % 64)) ∧ w = w' := by
  have b1 := b32_and63 r h0 (by omega)
  have b2 := b8_or128 (r % 64) (by omega) (by omega)
  have b3 : r % 64 % 256 = r % 64 := by omega
  go_enter Tryd.func97, Tryd.ntmps97
  go_wp2
  go_ret
  exact ⟨rfl, rfl⟩

theorem sizeOf_6 (r : Int) (w : World) (h0 : 65536 ≤ r) (h1 : r ≤ 1114111) :
    Calls Tryd.prog 83 #[.int .i32 r] w fun e w' => e = .returned (.int .i64 6) ∧ w = w' := by
  go_enter Tryd.func83, Tryd.ntmps83
  go_wp2
  go_ret
  exact ⟨rfl, rfl⟩

theorem sizeOf_3 (r : Int) (w : World) (h0 : 2048 ≤ r) (h1 : r ≤ 65535) :
    Calls Tryd.prog 83 #[.int .i32 r] w fun e w' => e = .returned (.int .i64 3) ∧ w = w' := by
  go_enter Tryd.func83, Tryd.ntmps83
  go_wp2
  go_ret
  exact ⟨rfl, rfl⟩

theorem sizeOf_2 (r : Int) (w : World) (h0 : 128 ≤ r) (h1 : r ≤ 2047) :
    Calls Tryd.prog 83 #[.int .i32 r] w fun e w' => e = .returned (.int .i64 2) ∧ w = w' := by
  go_enter Tryd.func83, Tryd.ntmps83
  go_wp2
  go_ret
  exact ⟨rfl, rfl⟩

theorem sizeOf_1 (r : Int) (w : World) (h0 : 1 ≤ r) (h1 : r ≤ 127) :
    Calls Tryd.prog 83 #[.int .i32 r] w fun e w' => e = .returned (.int .i64 1) ∧ w = w' := by
  have hb : (r == 0) = false := by simp; omega
  go_enter Tryd.func83, Tryd.ntmps83
  go_wp2
  go_ret
  exact ⟨rfl, rfl⟩

theorem sizeOf_0 (w : World) : Calls Tryd.prog 83 #[.int .i32 0] w fun e w' => e = .returned (.int .i64 2) ∧ w = w' := by
  go_enter Tryd.func83, Tryd.ntmps83
  go_wp2
  go_ret
  exact ⟨rfl, rfl⟩
theorem sizeOf_any (r : Int) (w : World) (h0 : 0 ≤ r) (h1 : r ≤ 1114111) :
    Calls Tryd.prog 83 #[.int .i32 r] w fun e w' => e = .returned (.int .i64 (ch r).length) ∧ w = w' := by
  refine ch_cases (P := fun r l => Calls Tryd.prog 83 #[.int .i32 r] w fun e w' => e = .returned (.int .i64 l.length) ∧ w = w') r h0 h1 ?_ ?_ ?_ ?_
  · intro a b; exact sizeOf_1 r w a b
  · intro a b
    by_cases h : r = 0
    · subst h; exact sizeOf_0 w
    · exact sizeOf_2 r w (by omega) b
  · intro a b; exact sizeOf_3 r w a b
  · intro a; exact sizeOf_6 r w a h1

theorem grown_alloc {w w' : World} {o : Obj} {row : Option Nat} (h : (w.alloc o).grownBy w' row) : w.grownBy w' row :=
  ⟨h.os, h.tape, h.output, by have := h.size; simp at this; omega, fun k hk hne => (h.block k (by simp; omega) hne).trans (heap_alloc_old w o hk)⟩
theorem grown_trans {a b c : World} {r r1 : Option Nat} (h : a.grownBy b r) (k : b.grownBy c r1) (hr : r1 = r ∨ ∃ g, a.heap.size ≤ g ∧ r1 = some g) : a.grownBy c r :=
  ⟨k.os.trans h.os, k.tape.trans h.tape, k.output.trans h.output, Nat.le_trans h.size k.size, fun i hi hne => by
    rw [k.block i (Nat.lt_of_lt_of_le hi h.size) (by
      rcases hr with rfl | ⟨g, hg, rfl⟩
      · exact hne
      · intro e; injection e with e; omega)]
    exact h.block i hi hne⟩
/-- A slice over an array variable of the call's own, from its head on, with so much room behind it. -/
def RoomAt (T : TypeId) (B : Nat) (w : World) (v : Value) (l : List Int) (n : Nat) : Prop :=
  ∃ g cap cur, v = .slice (some ⟨g, 0, none⟩) l.length cap ∧ B ≤ g ∧ w.heap[g]? = some (.cells cur T (0, 0)) ∧ l.length + n ≤ cap ∧ cap ≤ maxLen ∧ cur.size = cap ∧ cur.toList.take l.length = l.map (Value.int .u8) ∧ Fit .u8 l
/-- A slice that may be added to: a row of the call's own, or an array variable of its own, with room. -/
def Has (T : Option TypeId) (B : Nat) (w : World) (v : Value) (l : List Int) (n : Nat) : Prop :=
  match T with
  | none => Own B w 5 .u8 v l ∧ l.length + n ≤ 140737488355328
  | some T => RoomAt T B w v l n
theorem RoomAt.lt {T : TypeId} {B : Nat} {w : World} {v : Value} {l : List Int} {n : Nat} (h : RoomAt T B w v l n) : ∃ g, v.ownBlock = some g ∧ g < w.heap.size ∧ B ≤ g := by
  obtain ⟨g, cap, cur, rfl, hb, hg, _⟩ := h
  exact ⟨g, rfl, lt_of_get hg, hb⟩
theorem RoomAt.row {T : TypeId} {B : Nat} {w : World} {v : Value} {l : List Int} {n : Nat} (h : RoomAt T B w v l n) : Row w .u8 v l := by
  obtain ⟨g, cap, cur, rfl, hb, hg, hn, hm, hs, ht, hf⟩ := h
  refine ⟨_, _, rfl, by omega, hm, (fun h => by cases h), hf, fun _ => ⟨g, 0, rfl, lt_of_get hg, fun j hj => ?_⟩⟩
  have hj' : j < cur.size := by omega
  have e1 : (cur.toList.take l.length)[j]? = (l.map (Value.int .u8))[j]? := by rw [ht]
  rw [List.getElem?_take_of_lt (by omega)] at e1
  simp [hj, hj'] at e1
  rw [cell_of_row w g (0 + j) cur T (0, 0) hg]
  simp [gi, hj, hj', e1]
theorem Has.row {T : Option TypeId} {B : Nat} {w : World} {v : Value} {l : List Int} {n : Nat} (h : Has T B w v l n) : Row w .u8 v l := by
  cases T with
  | none => exact h.1.row
  | some T => exact RoomAt.row h
theorem Has.kept {T : Option TypeId} {B : Nat} {w w' : World} {v : Value} {l : List Int} {n : Nat} (h : Has T B w v l n) {row : Option Nat} (hg : w.grownBy w' row) (hne : ∀ g, v.ownBlock = some g → row ≠ some g) : Has T B w' v l n := by
  cases T with
  | none =>
    refine ⟨⟨h.1.1.kept hg ?_, h.1.2⟩, h.2⟩
    cases hv : v.ownBlock with
    | none => exact .inl rfl
    | some g => exact .inr (fun e => hne g hv e.symm)
  | some T =>
    obtain ⟨g, cap, cur, rfl, hb, hgg, hr⟩ := h
    exact ⟨g, cap, cur, rfl, hb, (hg.block g (lt_of_get hgg) (fun e => hne g rfl e.symm)).trans hgg, hr⟩
theorem Has.alloc {T : Option TypeId} {B : Nat} {w : World} {v : Value} {l : List Int} {n : Nat} (h : Has T B w v l n) (o : Obj) : Has T B (w.alloc o) v l n :=
  h.kept (World.grownBy_alloc w o none) (fun _ _ => by simp)
theorem run_has {P : Program} (w : World) (B : Nat) (T : Option TypeId) (t ty : TypeId) (ht : P.underlying t = some (.slice 5))
    (hi : (P.info? 5).map (fun i => (i.zero, i.size, i.bytes)) = some (some (.int .u8 0), 1, 1)) (v : Value) (l : List Int) (n : Nat) (x : Value) (m : List Int) (ho : Has T B w v l (m.length + n)) (hr : Row w .u8 x m) (hm : 0 < m.length) (hB : B ≤ w.heap.size) :
    ∃ v' w', (Builtin.append_ #[t, t] ty #[v, x]).run P w = .ok v' w' ∧ Has T B w' v' (l ++ m) n ∧ w.grownBy w' v.ownBlock ∧ (v'.ownBlock = v.ownBlock ∨ v'.ownBlock = some w.heap.size) := by
  cases T with
  | none =>
    obtain ⟨ho, hl⟩ := ho
    obtain ⟨v', w', h1, h2, h3, h4⟩ := run_app (P := P) w B t ty 5 (.int .u8 0) 1 .u8 ht hi rfl v l ho x m hr (by omega) (by omega) hB
    exact ⟨v', w', h1, ⟨h2, by rw [List.length_append]; omega⟩, h3, h4⟩
  | some T =>
    obtain ⟨i, hi1, hi2, hi3, hi4⟩ := info_parts hi
    obtain ⟨g, cap, cur, rfl, hb, hg, hn, hcm, hs, htk, hf⟩ := ho
    obtain ⟨A, c, rfl, h2, h3, h4, h5, h6⟩ := hr
    obtain ⟨b, o, rfl, _, hc⟩ := h6 hm
    have hcells : ∀ j u, (m.map (Value.int .u8))[j]? = some u → w.cell? ((⟨b, o, none⟩ : Addr).add j) = some u := by
      intro j u hu
      have hj : j < m.length := by
        have := (List.getElem?_eq_some_iff.1 hu).1
        simpa using this
      rw [Addr.add_lit, hc j hj]
      simp [hj] at hu
      simp [gi, hj, ← hu]
    have hf1 := run_firstCells_some (P := P) w i.size m.length ⟨b, o, none⟩ m.length c (m.map (Value.int .u8)) (by simp [hi3]) hcells
    have hst := run_storeCells_at P g l.length T (m.map (Value.int .u8)) 0 cur w hg (by simp; omega) (ints_one .u8 m)
    simp only [Nat.add_zero] at hst
    have hroom : l.length + m.length ≤ cap := by omega
    obtain ⟨C, hC⟩ : ∃ C, C = (List.take l.length cur.toList ++ List.map (Value.int .u8) m ++ List.drop (l.length + (List.map (Value.int .u8) m).length) cur.toList).toArray := ⟨_, rfl⟩
    rw [← hC] at hst
    have hrun : (Builtin.append_ #[t, t] ty #[.slice (some ⟨g, 0, none⟩) l.length cap, .slice (some ⟨b, o, none⟩) m.length c]).run P w = .ok (.slice (some ⟨g, 0, none⟩) (l ++ m).length cap) (w.setRow g C) := by
      rw [hi3] at hf1
      simp [Builtin.append_, run_underlying ht, sizeOf, typeInfo, hi1, hi3, Builtin.lenOf, hroom, hf1, Addr.add_lit, hst]
    have hCs : C.size = cap := by
      rw [hC]
      simp
      omega
    have hCt : C.toList.take (l ++ m).length = (l ++ m).map (Value.int .u8) := by
      rw [hC, List.toList_toArray, htk, List.length_append, List.map_append]
      have e : l.length + m.length = (l.map (Value.int .u8) ++ m.map (Value.int .u8)).length := by simp
      rw [e, List.take_left]
    refine ⟨_, _, hrun, ⟨g, cap, C, rfl, hb, setRow_heap w g cur C T (0, 0) hg, by rw [List.length_append]; omega, hcm, hCs, hCt, hf.app h5⟩, ⟨rfl, rfl, rfl, by simp, fun k _ hk => setRow_other w g k C (fun e => hk (by simp [Value.ownBlock, e]))⟩, .inl rfl⟩
theorem wpList_has {P : Program} (w : World) {ops : Array Oper} {rest : List Oper} {o : Oper} {a : Act} {Q : Exit → Act → World → Prop} (hgd : Region.wanted o (yielded ops a.tmps) = true) (s y : Operand) (B : Nat) (T : Option TypeId) (t : TypeId)
    (hop : o.op = .call { callee := .builtin .append, args := #[s, y], argTypes := #[t, t] }) (ht : P.underlying t = some (.slice 5))
    (hi : (P.info? 5).map (fun i => (i.zero, i.size, i.bytes)) = some (some (.int .u8 0), 1, 1))
    (v : Value) (l : List Int) (n : Nat) (hs : a.eval s = v) (x : Value) (m : List Int) (ho : Has T B w v l (m.length + n)) (hx : a.eval y = x) (hr : Row w .u8 x m) (hm : 0 < m.length) (hB : B ≤ w.heap.size)
    (h : ∀ v' w', Has T B w' v' (l ++ m) n → w.grownBy w' v.ownBlock → (v'.ownBlock = v.ownBlock ∨ v'.ownBlock = some w.heap.size) → wpList P ops Q rest (a.put o.dst v') w') :
    wpList P ops Q (o :: rest) a w := by
  refine wpList_step fun K hK => ?_
  rw [if_pos hgd]
  obtain ⟨v', w', hrun, h2, h3, h4⟩ := run_has (P := P) w B T t o.type ht hi v l n x m ho hr hm hB
  unfold Oper.wp execOp
  simp only [hop, resolve, invoke, builtin, Sem.run_bind, Sem.run_pure, Result.andThen_ok, List.map_toArray, List.map_cons, List.map_nil, hs, hx, hrun]
  exact hK _ _ (h v' w' h2 h3 h4)

/-- A slice has more behind it. -/
def Put (T : Option TypeId) (B : Nat) (w : World) (v : Value) (l : List Int) (n : Nat) (e : Ending) (w' : World) : Prop :=
  ∃ v', e = .returned v' ∧ Has T B w' v' l n ∧ w.grownBy w' v.ownBlock ∧ (v'.ownBlock = v.ownBlock ∨ ∃ g, w.heap.size ≤ g ∧ v'.ownBlock = some g)

theorem put_1 (T : Option TypeId) (v : Value) (l : List Int) (n : Nat) (r : Int) (B : Nat) (w : World) (ho : Has T B w v l (1 + n)) (hB : B ≤ w.heap.size) (h0 : 1 ≤ r) (h1 : r ≤ 127) :
    Calls Tryd.prog 79 #[v, .int .i32 r] w (Put T B w v (l ++ [r]) n) := by
  have hb : (r == 0) = false := by simp; omega
  have b3 : r % 256 = r := by omega
  go_enter Tryd.func79, Tryd.ntmps79
  go_wp2_with (first | (go_at_call 97; refine (nextByte_any _ _ (by omega) (by omega)).mono ?_; rintro e w1 ⟨rfl, rfl⟩) | (at_builtin; go_loud (refine wpList_has _ rfl _ _ B T 22 rfl Tryd.underlying22 info8 v _ n rfl _ [r] (Has.alloc ho _) rfl (Row.built _ _ _ [r] (by intro x hx; simp only [List.mem_cons, List.not_mem_nil, or_false] at hx; exact wf_u8 (by omega) (by omega)) (by simp)) (by simp) (by simp; omega) ?_)))
  intro v' w2 ho2 hg2 hb2
  go_wp2
  go_ret
  refine ⟨_, rfl, ho2, grown_alloc hg2, ?_⟩
  rcases hb2 with h | h
  · exact .inl h
  · exact .inr ⟨_, by simp, h⟩
theorem put_2 (T : Option TypeId) (v : Value) (l : List Int) (n : Nat) (r : Int) (B : Nat) (w : World) (ho : Has T B w v l (2 + n)) (hB : B ≤ w.heap.size) (h0 : 128 ≤ r) (h1 : r ≤ 2047) :
    Calls Tryd.prog 79 #[v, .int .i32 r] w (Put T B w v (l ++ [192 + r / 64, 128 + r % 64]) n) := by
  have b1 := b8_or192 (r / 64) (by omega) (by omega)
  have b3 : r / 64 % 256 = r / 64 := by omega
  go_enter Tryd.func79, Tryd.ntmps79
  go_wp2_with (first | (go_at_call 97; refine (nextByte_any _ _ (by omega) (by omega)).mono ?_; rintro e w1 ⟨rfl, rfl⟩) | (at_builtin; go_loud (refine wpList_has _ rfl _ _ B T 22 rfl Tryd.underlying22 info8 v _ n rfl _ [192 + r / 64, 128 + r % 64] (Has.alloc ho _) rfl (Row.built _ _ _ [192 + r / 64, 128 + r % 64] (by intro x hx; simp only [List.mem_cons, List.not_mem_nil, or_false] at hx; exact wf_u8 (by omega) (by omega)) (by simp)) (by simp) (by simp; omega) ?_)))
  intro v' w2 ho2 hg2 hb2
  go_wp2
  go_ret
  refine ⟨_, rfl, ho2, grown_alloc hg2, ?_⟩
  rcases hb2 with h | h
  · exact .inl h
  · exact .inr ⟨_, by simp, h⟩
theorem put_3 (T : Option TypeId) (v : Value) (l : List Int) (n : Nat) (r : Int) (B : Nat) (w : World) (ho : Has T B w v l (3 + n)) (hB : B ≤ w.heap.size) (h0 : 2048 ≤ r) (h1 : r ≤ 65535) :
    Calls Tryd.prog 79 #[v, .int .i32 r] w (Put T B w v (l ++ [224 + r / 4096, 128 + r / 64 % 64, 128 + r % 64]) n) := by
  have b1 := b8_or224 (r / 4096) (by omega) (by omega)
  have b3 : r / 4096 % 256 = r / 4096 := by omega
  go_enter Tryd.func79, Tryd.ntmps79
  go_wp2_with (first | (go_at_call 97; refine (nextByte_any _ _ (by omega) (by omega)).mono ?_; rintro e w1 ⟨rfl, rfl⟩) | (at_builtin; go_loud (refine wpList_has _ rfl _ _ B T 22 rfl Tryd.underlying22 info8 v _ n rfl _ [224 + r / 4096, 128 + r / 64 % 64, 128 + r % 64] (Has.alloc ho _) rfl (Row.built _ _ _ [224 + r / 4096, 128 + r / 64 % 64, 128 + r % 64] (by intro x hx; simp only [List.mem_cons, List.not_mem_nil, or_false] at hx; exact wf_u8 (by omega) (by omega)) (by simp)) (by simp) (by simp; omega) ?_)))
  intro v' w2 ho2 hg2 hb2
  go_wp2
  go_ret
  refine ⟨_, rfl, ho2, grown_alloc hg2, ?_⟩
  rcases hb2 with h | h
  · exact .inl h
  · exact .inr ⟨_, by simp, h⟩
theorem put_0 (T : Option TypeId) (v : Value) (l : List Int) (n : Nat) (B : Nat) (w : World) (ho : Has T B w v l (2 + n)) (hB : B ≤ w.heap.size) :
    Calls Tryd.prog 79 #[v, .int .i32 0] w (Put T B w v (l ++ [192, 128]) n) := by
  have b1 := b8_or192 0 (by omega) (by omega)
  go_enter Tryd.func79, Tryd.ntmps79
  go_wp2_with (first | (go_at_call 97; refine (nextByte_any _ _ (by omega) (by omega)).mono ?_; rintro e w1 ⟨rfl, rfl⟩) | (at_builtin; go_loud (refine wpList_has _ rfl _ _ B T 22 rfl Tryd.underlying22 info8 v _ n rfl _ [192, 128] (Has.alloc ho _) rfl (Row.built _ _ _ [192, 128] (by intro x hx; simp only [List.mem_cons, List.not_mem_nil, or_false] at hx; exact wf_u8 (by omega) (by omega)) (by simp)) (by simp) (by simp; omega) ?_)))
  intro v' w2 ho2 hg2 hb2
  go_wp2
  go_ret
  refine ⟨_, rfl, ho2, grown_alloc hg2, ?_⟩
  rcases hb2 with h | h
  · exact .inl h
  · exact .inr ⟨_, by simp, h⟩

theorem put_6 (T : Option TypeId) (v : Value) (l : List Int) (n : Nat) (r : Int) (B : Nat) (w : World) (ho : Has T B w v l (6 + n)) (hB : B ≤ w.heap.size) (h0 : 65536 ≤ r) (h1 : r ≤ 1114111) :
    Calls Tryd.prog 79 #[v, .int .i32 r] w (Put T B w v (l ++ ch r) n) := by
  have ho6 : Has T B w v l (3 + (3 + n)) := by rw [show 3 + (3 + n) = 6 + n by omega]; exact ho
  obtain ⟨s, hs⟩ : ∃ s, s = 56320 + (r - 65536) % 1024 := ⟨_, rfl⟩
  have hs0 : 56320 ≤ s := by omega
  have hs1 : s ≤ 57343 := by omega
  have b0 := b32_and1023 (r - 65536) (by omega) (by omega)
  have b4 : 56320 + (r - 65536) % 1024 = s := hs.symm
  have b1 := b8_or224 (s / 4096) (by omega) (by omega)
  have b3 : s / 4096 % 256 = s / 4096 := by omega
  have HS := Lib.hid hs
  clear hs
  go_enter Tryd.func79, Tryd.ntmps79
  go_wp2_with (go_at_call 79; refine (put_3 T v l (3 + n) (55296 + (r - 65536) / 1024) B _ (by exact ho6) hB (by omega) (by omega)).mono ?_; rintro e w1 ⟨v1, rfl, ho1, hg1, hb1⟩)
  have hB1 := Nat.le_trans hB hg1.size
  go_wp2_with (first | (go_at_call 97; refine (nextByte_any _ _ (by omega) (by omega)).mono ?_; rintro e w1 ⟨rfl, rfl⟩) | (at_builtin; go_loud (refine wpList_has _ rfl _ _ B T 22 rfl Tryd.underlying22 info8 v1 _ n rfl _ [224 + s / 4096, 128 + s / 64 % 64, 128 + s % 64] (Has.alloc ho1 _) rfl (Row.built _ _ _ [224 + s / 4096, 128 + s / 64 % 64, 128 + s % 64] (by intro x hx; simp only [List.mem_cons, List.not_mem_nil, or_false] at hx; exact wf_u8 (by omega) (by omega)) (by simp)) (by simp) (by simp; omega) ?_)))
  intro v' w2 ho2 hg2 hb2
  go_wp2
  go_ret
  refine ⟨_, rfl, ?_, grown_trans hg1 (grown_alloc hg2) hb1, ?_⟩
  · have e : l ++ ch r = l ++ [224 + (55296 + (r - 65536) / 1024) / 4096, 128 + (55296 + (r - 65536) / 1024) / 64 % 64, 128 + (55296 + (r - 65536) / 1024) % 64, 224 + s / 4096, 128 + s / 64 % 64, 128 + s % 64] := by
      rw [ch6 (by omega), ← HS.out]
      simp [th]
    rw [e]
    exact ho2
  · show v'.ownBlock = v.ownBlock ∨ ∃ g, w.heap.size ≤ g ∧ v'.ownBlock = some g
    rcases hb2 with h | h
    · rw [h]; exact hb1
    · exact .inr ⟨_, by have := hg1.size; simp; omega, h⟩
theorem put_any (T : Option TypeId) (v : Value) (l : List Int) (n : Nat) (r : Int) (B : Nat) (w : World) (ho : Has T B w v l ((ch r).length + n)) (hB : B ≤ w.heap.size) (h0 : 0 ≤ r) (h1 : r ≤ 1114111) :
    Calls Tryd.prog 79 #[v, .int .i32 r] w (Put T B w v (l ++ ch r) n) := by
  by_cases a1 : 1 ≤ r ∧ r ≤ 127
  · rw [ch1 a1] at ho ⊢; exact put_1 T v l n r B w ho hB a1.1 a1.2
  · by_cases a2 : r ≤ 2047
    · rw [ch2 a1 a2] at ho ⊢
      by_cases a0 : r = 0
      · subst a0; exact put_0 T v l n B w ho hB
      · exact put_2 T v l n r B w ho hB (by omega) a2
    · by_cases a3 : r ≤ 65535
      · rw [ch3 (by omega) a3] at ho ⊢; exact put_3 T v l n r B w ho hB (by omega) a3
      · exact put_6 T v l n r B w (by rw [ch6 (by omega)] at ho; exact ho) hB (by omega) h1
end Go.Proofs.YtecgldkhjgcffaaDoor
/- Package text: how many bytes a text comes to, and its bytes. -/
namespace Go.Proofs.YtecgldkhjgcffaaDoor
open Go.RowKit
set_option linter.unusedVariables false

theorem own_ne_iter {B K : Nat} {w : World} {v : Value} {l : List Int} {s : ByteArray} {k : Nat} (h : Own B w 5 .u8 v l) (hit : w.heap[K]? = some (.stringIter s k)) : ∀ g, v.ownBlock = some g → g ≠ K := by
  intro g hg e
  subst e
  rcases h.1.2 with ⟨rfl, _⟩ | ⟨g', cap, cur, rfl, _, hgg, _⟩
  · simp [Value.ownBlock] at hg
  · simp [Value.ownBlock] at hg
    subst hg
    rw [hit] at hgg
    cases hgg
theorem grown_iter (w : World) (K : Nat) (s : ByteArray) (p : Nat) : w.grownBy (w.iterAt K s p) (some K) :=
  ⟨rfl, rfl, rfl, by rw [Lib.iterAt_size]; exact Nat.le_refl _, fun k _ hne => Lib.iterAt_other w K k s p (fun e => hne (by rw [e]))⟩

set_option maxRecDepth 100000 in
set_option maxHeartbeats 1000000 in
theorem Len_any (s : ByteArray) (w : World) (hT : Tabs w) (hs : s.size ≤ 9223372036854775807) (hz : (encZ s.data.toList).length ≤ 9223372036854775807) :
    Calls Tryd.prog 67 #[.string s] w (Ret w (LenAns s.data.toList)) := by
  have cV := Tryd.utf8_ValidString s w hs hT
  obtain ⟨vb, hvb⟩ : ∃ vb, Lib.validD s.data.toList = vb := ⟨_, rfl⟩
  rw [hvb] at cV
  have HV := Lib.hid hvb
  clear hvb
  cases vb
  · go_enter Tryd.func67, Tryd.ntmps67
    go_wp2_with fail
    refine cV.mono ?_
    rintro e w1 ⟨rfl, he⟩
    go_wp2
    go_ret2
    exact Ret.mk (.inr ⟨HV.out, rfl⟩) he
  · go_enter Tryd.func67, Tryd.ntmps67
    go_wp2_with fail
    refine cV.mono ?_
    rintro e w1 ⟨rfl, he⟩
    go_wp2
    go_loopw [4] (fun n wr => ∃ (k : Nat) (pre : List Int), n = .int .i64 (mu pre).length ∧ k ≤ s.size ∧ wr.heap[w1.heap.size]? = some (.stringIter s k) ∧ Ext w wr ∧ Hid (runes s.data.toList = pre ++ runes (s.data.toList.drop k))) (fun _ wr => s.size - wr.iterPos w1.heap.size)
    case atStart =>
      refine ⟨0, [], rfl, by omega, ?_, ?_, Lib.hid rfl⟩
      · have := World.iter_heap w1 s 0
        simpa using this
      · exact Ext.alloc he (.stringIter s 0)
    case round =>
      obtain ⟨k, pre, rfl, hk, hit, hx, HR⟩ := hrel
      have hsz : w1.heap.size < wr.heap.size := (Array.getElem?_eq_some_iff.1 hit).1
      have hsz1 : w.heap.size ≤ w1.heap.size := he.size
      by_cases hlt : k < s.size
      · obtain ⟨r, m, hd, hm1, hm2, hsc, hr, hv⟩ := at_place s k hlt
        have hdec : Utf8.decode s k = (r, m) := by rw [decode_drop, hd]
        have hnx : ∀ ty, (Instr.next (.pointer (some ⟨w1.heap.size, 0, none⟩)) true ty).run Tryd.prog wr = _ := fun ty => Lib.run_next_any_at wr w1.heap.size s k ty hit hlt
        simp only [hdec] at hnx
        have hit2 := Lib.iterAt_heap wr w1.heap.size s k (k + m) hit
        have hx2 : Ext w (wr.iterAt w1.heap.size s (k + m)) := Lib.below_iterAt hx hsz1 s (k + m)
        have HR2 := Lib.hid (show runes s.data.toList = (pre ++ [(r : Int)]) ++ runes (s.data.toList.drop (k + m)) by rw [HR.out, hr]; simp)
        have hr1 : (r : Int) ≤ 1114111 := hsc.hi
        have hsum : (mu pre).length + (ch r).length ≤ 9223372036854775807 := by
          unfold encZ at hz
          rw [HR.out, hr, mu_app, mu_cons, List.length_append, List.length_append] at hz
          omega
        have hlen : (mu (pre ++ [(r : Int)])).length = (mu pre).length + (ch r).length := by rw [mu_snoc, List.length_append]
        have HL := Lib.hid hlen
        clear hd hdec hr hv hlen
        go_wp2_with (go_at_call 83; refine (sizeOf_any r _ (by omega) hr1).mono ?_; rintro e w2 ⟨rfl, rfl⟩)
        go_roundw
        case rel => exact ⟨k + m, pre ++ [(r : Int)], by rw [HL.out]; go_num, hm2, hit2, hx2, HR2⟩
        case measure =>
          simp only [World.iterPos, hit2, hit]
          omega
      · have hnx : ∀ ty, (Instr.next (.pointer (some ⟨w1.heap.size, 0, none⟩)) true ty).run Tryd.prog wr = _ := fun ty => Lib.run_next_end_at wr w1.heap.size s k ty hit hlt
        have hR := HR.out
        rw [drop_end s k hlt, runes_nil, List.append_nil] at hR
        have HE := Lib.hid (show encZ s.data.toList = mu pre by unfold encZ; rw [hR])
        clear hR
        go_wp2
        go_ret2
        exact Ret.mk (.inl ⟨HV.out, by rw [HE.out]; rfl⟩) hx

set_option maxRecDepth 100000 in
set_option maxHeartbeats 2000000 in
theorem Encode_any (s : ByteArray) (w : World) (hT : Tabs w) (hs : s.size ≤ 9223372036854775807) (hz : (encZ s.data.toList).length ≤ 140737488355328) :
    Calls Tryd.prog 62 #[.string s] w (Ret w (EncAns s.data.toList w.heap.size)) := by
  have c := Len_any s w hT hs (by omega)
  obtain ⟨i8, hi8, hi1, hi2, hi3⟩ := info_parts info8
  go_enter Tryd.func62, Tryd.ntmps62
  go_wp2_with fail
  refine c.mono ?_
  rintro e w1 ⟨v1, rfl, ⟨hv, rfl⟩ | ⟨hv, rfl⟩, he⟩
  · have HV := Lib.hid hv
    clear hv
    have hsz1 : w.heap.size ≤ w1.heap.size := he.size
    obtain ⟨N, hN⟩ : ∃ N, (encZ s.data.toList).length = N := ⟨_, rfl⟩
    rw [hN] at hz ⊢
    have HN := Lib.hid hN
    clear hN
    have hi4 : i8.bytes = 1 := hi3
    go_wp2_with (refine wpList_make_own _ rfl _ _ 22 rfl w.heap.size 5 i8 (.int .u8 0) 1 Tryd.underlying22 hi8 hi1 hi2 _ _ _ N rfl rfl rfl (by rw [hi4]; omega) (by simp only [maxLen]; omega) hsz1 ?_)
    intro w2 ho2 hg2
    have x2 : Ext w w2 := he.grown hg2 (fun g hg => by cases hg)
    have hsz2 : w.heap.size ≤ w2.heap.size := x2.size
    go_wp2
    go_loopw [6] (fun v wr => ∃ (k : Nat) (pre : List Int), k ≤ s.size ∧ wr.heap[w2.heap.size]? = some (.stringIter s k) ∧ Ext w wr ∧ Own w.heap.size wr 5 .u8 v (mu pre) ∧ Hid (runes s.data.toList = pre ++ runes (s.data.toList.drop k))) (fun _ wr => s.size - wr.iterPos w2.heap.size)
    case atStart =>
      refine ⟨0, [], by omega, ?_, Ext.alloc x2 (.stringIter s 0), ⟨ho2.alloc _, Fit.nil _⟩, Lib.hid rfl⟩
      have := World.iter_heap w2 s 0
      simpa using this
    case round =>
      obtain ⟨k, pre, hk, hit, hx, ho, HR⟩ := hrel
      have hsz : w2.heap.size < wr.heap.size := (Array.getElem?_eq_some_iff.1 hit).1
      by_cases hlt : k < s.size
      · obtain ⟨r, m, hd, hm1, hm2, hsc, hr, hv⟩ := at_place s k hlt
        have hdec : Utf8.decode s k = (r, m) := by rw [decode_drop, hd]
        have hnx : ∀ ty, (Instr.next (.pointer (some ⟨w2.heap.size, 0, none⟩)) true ty).run Tryd.prog wr = _ := fun ty => Lib.run_next_any_at wr w2.heap.size s k ty hit hlt
        simp only [hdec] at hnx
        have hit2 := Lib.iterAt_heap wr w2.heap.size s k (k + m) hit
        have hx2 : Ext w (wr.iterAt w2.heap.size s (k + m)) := Lib.below_iterAt hx hsz2 s (k + m)
        have HR2 := Lib.hid (show runes s.data.toList = (pre ++ [(r : Int)]) ++ runes (s.data.toList.drop (k + m)) by rw [HR.out, hr]; simp)
        have hr1 : (r : Int) ≤ 1114111 := hsc.hi
        have hsum : (mu pre).length + ((ch r).length + 0) ≤ 140737488355328 := by
          have hN := HN.out
          unfold encZ at hN
          rw [HR.out, hr, mu_app, mu_cons, List.length_append, List.length_append] at hN
          omega
        have ho2 : Own w.heap.size (wr.iterAt w2.heap.size s (k + m)) 5 .u8 u6 (mu pre) := Own.kept ho (grown_iter wr w2.heap.size s (k + m)) (fun g hg e => own_ne_iter ho hit g hg (by injection e with e; exact e.symm))
        have hne := own_ne_iter ho2 hit2
        have HNE := Lib.hid hne
        clear hd hdec hr hv hne
        go_wp2_with fail
        refine (put_any none _ (mu pre) 0 r w.heap.size _ (by exact ⟨ho2, hsum⟩) (by exact hx2.size) (by omega) hr1).mono ?_
        rintro e w3 ⟨v3, rfl, ho3, hg3, _⟩
        have hit3 : w3.heap[w2.heap.size]? = some (.stringIter s (k + m)) := (hg3.block w2.heap.size (by rw [Lib.iterAt_size]; exact hsz) (fun e => HNE.out _ e.symm rfl)).trans hit2
        have hx3 : Ext w w3 := hx2.grown hg3 ho.low
        go_wp2
        go_roundw
        case rel => exact ⟨k + m, pre ++ [(r : Int)], hm2, hit3, hx3, by rw [mu_snoc]; exact ho3.1, HR2⟩
        case measure =>
          simp only [World.iterPos, hit3, hit]
          omega
      · have hnx : ∀ ty, (Instr.next (.pointer (some ⟨w2.heap.size, 0, none⟩)) true ty).run Tryd.prog wr = _ := fun ty => Lib.run_next_end_at wr w2.heap.size s k ty hit hlt
        have hR := HR.out
        rw [drop_end s k hlt, runes_nil, List.append_nil] at hR
        have HE := Lib.hid (show encZ s.data.toList = mu pre by unfold encZ; rw [hR])
        clear hR
        go_wp2
        go_ret2
        exact Ret.mk (.inl ⟨HV.out, _, rfl, by rw [HE.out]; exact ho⟩) hx
  · have HV := Lib.hid hv
    clear hv
    go_wp2
    go_ret2
    exact Ret.mk (.inr ⟨HV.out, rfl⟩) he
end Go.Proofs.YtecgldkhjgcffaaDoor
/- Package text: a character off the beginning of bytes. -/
namespace Go.Proofs.YtecgldkhjgcffaaDoor
open Go.RowKit
set_option linter.unusedVariables false

theorem takeRow_any (v : Value) (b : List Int) (w : World) (h : Row w .u8 v b) :
    Calls Tryd.prog 104 #[v] w fun e w' => e = .returned (.tuple #[.int .i32 (rowZ b).1, .int .i64 (rowZ b).2]) ∧ w = w' := by
  have hf := h.fit
  obtain ⟨A, c, rfl, h2, h3, h4, h5, h6⟩ := h
  unfold maxLen at h3
  clear h4 h5
  obtain ⟨n, hn⟩ : ∃ n, n = b.length := ⟨_, rfl⟩
  by_cases h0 : n = 0
  · have hb : b = [] := List.eq_nil_of_length_eq_zero (by omega)
    subst hb
    clear h6 hn
    go_enter Tryd.func104, Tryd.ntmps104
    go_wp2
    go_ret2
    exact ⟨rfl, rfl⟩
  · obtain ⟨bl, o, rfl, _, hc⟩ := h6 (by omega)
    have g0 := hf.gi 0
    have hne : ¬ b = [] := fun e => by subst e; simp at hn; omega
    have hc0 : w.cell? ⟨bl, o, none⟩ = some (.int .u8 (gi b 0)) := hc 0 (by omega)
    obtain ⟨x, hx⟩ : ∃ x, x = gi b 0 := ⟨_, rfl⟩
    rw [← hx] at g0 hc0
    have HX := Lib.hid hx
    have HN := Lib.hid hn
    have HE := Lib.hid hne
    rw [← hn] at h2 ⊢
    clear hn hne hx h6
    by_cases c1 : x < 192
    · have hr : rowZ b = (x, 1) := by unfold rowZ; rw [if_neg HE.out, if_pos (by rw [← HX.out]; exact c1), ← HX.out]
      rw [hr]
      have hn1 : ¬ (n : Int) < 1 := by omega
      clear hr hc
      by_cases hc1 : c = 1
      · go_enter Tryd.func104, Tryd.ntmps104
        go_wp2
        refine wp_loop_rounds 1 ?_
        rw [rounds_succ]
        go_wp2
        go_ret2
        exact ⟨rfl, rfl⟩
      · have hc2 : ¬ (c : Int) = 1 := by omega
        go_enter Tryd.func104, Tryd.ntmps104
        go_wp2
        refine wp_loop_rounds 1 ?_
        rw [rounds_succ]
        go_wp2
        go_ret2
        exact ⟨rfl, rfl⟩
    · by_cases c2 : x < 224
      · by_cases hn2 : 2 ≤ n
        · have hr : rowZ b = ((x - 192) * 64 + gi b 1 % 64, 2) := by unfold rowZ; rw [if_neg HE.out, if_neg (by rw [← HX.out]; exact c1), if_pos (by rw [← HX.out]; exact c2), if_pos (by rw [← HN.out]; exact hn2), ← HX.out]
          rw [hr]
          have g1 := hf.gi 1
          have hc1 : w.cell? ⟨bl, o + 1, none⟩ = some (.int .u8 (gi b 1)) := hc 1 (by have := HN.out; omega)
          obtain ⟨y, hy⟩ : ∃ y, y = gi b 1 := ⟨_, rfl⟩
          rw [← hy] at g1 hc1 ⊢
          have HY := Lib.hid hy
          clear hr hc hy
          have b1 := b8_and63 y (by omega) (by omega)
          have b2 := b32_or6 (x - 192) (y % 64) (by omega) (by omega) (by omega) (by omega)
          have b3 : (x - 192) % 256 = x - 192 := by omega
          have hcc : ¬ c = 1 := by omega
          go_enter Tryd.func104, Tryd.ntmps104
          go_wp2
          refine wp_loop_rounds 2 ?_
          rw [rounds_succ]
          go_wp2
          rw [rounds_succ]
          go_wp2
          go_ret2
          exact ⟨rfl, rfl⟩
        · have hr : rowZ b = (0, 0) := by unfold rowZ; rw [if_neg HE.out, if_neg (by rw [← HX.out]; exact c1), if_pos (by rw [← HX.out]; exact c2), if_neg (by rw [← HN.out]; exact hn2)]
          rw [hr]
          clear hr hc
          go_enter Tryd.func104, Tryd.ntmps104
          go_wp2
          go_ret2
          exact ⟨rfl, rfl⟩
      · by_cases hn3 : 3 ≤ n
        · have hr : rowZ b = ((x - 224) * 4096 + gi b 1 % 64 * 64 + gi b 2 % 64, 3) := by unfold rowZ; rw [if_neg HE.out, if_neg (by rw [← HX.out]; exact c1), if_neg (by rw [← HX.out]; exact c2), if_pos (by rw [← HN.out]; exact hn3), ← HX.out]
          rw [hr]
          have g1 := hf.gi 1
          have g2 := hf.gi 2
          have hc1 : w.cell? ⟨bl, o + 1, none⟩ = some (.int .u8 (gi b 1)) := hc 1 (by have := HN.out; omega)
          have hc2 : w.cell? ⟨bl, o + 1 + 1, none⟩ = some (.int .u8 (gi b 2)) := hc 2 (by have := HN.out; omega)
          obtain ⟨y, hy⟩ : ∃ y, y = gi b 1 := ⟨_, rfl⟩
          obtain ⟨z, hz⟩ : ∃ z, z = gi b 2 := ⟨_, rfl⟩
          rw [← hy] at g1 hc1 ⊢
          rw [← hz] at g2 hc2 ⊢
          have HY := Lib.hid hy
          have HZ := Lib.hid hz
          clear hr hc hy hz
          have b1 := b8_and63 y (by omega) (by omega)
          have b1' := b8_and63 z (by omega) (by omega)
          have b2 := b32_or6 (x - 224) (y % 64) (by omega) (by omega) (by omega) (by omega)
          have b2' := b32_or6 ((x - 224) * 64 + y % 64) (z % 64) (by omega) (by omega) (by omega) (by omega)
          have b3 : (x - 224) % 256 = x - 224 := by omega
          have hcc : ¬ c = 1 := by omega
          go_enter Tryd.func104, Tryd.ntmps104
          go_wp2
          refine wp_loop_rounds 3 ?_
          rw [rounds_succ]
          go_wp2
          rw [rounds_succ]
          go_wp2
          rw [rounds_succ]
          go_wp2
          go_ret2
          exact ⟨by rw [show (x - 224) * 4096 + y % 64 * 64 + z % 64 = ((x - 32 - 192) * 64 + y % 64) * 64 + z % 64 by omega]; rfl, rfl⟩
        · have hr : rowZ b = (0, 0) := by unfold rowZ; rw [if_neg HE.out, if_neg (by rw [← HX.out]; exact c1), if_neg (by rw [← HX.out]; exact c2), if_neg (by rw [← HN.out]; exact hn3)]
          rw [hr]
          clear hr hc
          go_enter Tryd.func104, Tryd.ntmps104
          go_wp2
          go_ret2
          exact ⟨rfl, rfl⟩

theorem cut_zero {w : World} {k : IntKind} {A : Option Addr} {c : Nat} (hA : A = none → c = 0) (hc : c ≤ maxLen) : Row w k (.slice A 0 c) [] :=
  ⟨A, c, rfl, Nat.zero_le _, hc, hA, Fit.nil _, fun h => by simp at h⟩
theorem head_slice {w : World} {v : Value} {b : List Int} (h : Row w .u8 v b) (q : Nat) (hq : q ≤ b.length) :
    ∃ v2, (∀ W, (Instr.sliceAt 22 v none (some (.int .i64 q)) none).run Tryd.prog W = .ok v2 W) ∧ (∀ W, (Instr.slice 22 v none (some (.int .i64 q)) none).run Tryd.prog W = .ok v2 W) ∧ Row w .u8 v2 (b.take q) := by
  have hk := h
  obtain ⟨A, c, rfl, h2, h3, h4, h5, h6⟩ := h
  have k1 : ¬ c < q := by omega
  have k3 : q ≤ c := by omega
  by_cases hb : b.length = 0
  · have hq0 : q = 0 := by omega
    subst hq0
    have e : b = [] := List.eq_nil_of_length_eq_zero hb
    subst e
    by_cases hc : c = 0
    · subst hc
      exact ⟨.slice A 0 0, fun W => by go_simp, fun W => by go_simp, cut_zero (fun _ => rfl) h3⟩
    · obtain ⟨ad, rfl⟩ : ∃ ad, A = some ad := by
        cases A with
        | none => exact absurd (h4 rfl) hc
        | some ad => exact ⟨ad, rfl⟩
      exact ⟨.slice (some (ad.add 0)) 0 c, fun W => by go_simp, fun W => by go_simp, cut_zero (fun h => by cases h) h3⟩
  · obtain ⟨bl, o, rfl, h7, h8⟩ := h6 (by omega)
    have k2 : ¬ c = 0 := by omega
    clear h6 h8
    exact ⟨_, fun W => by go_simp, fun W => by go_simp, Row.head hk q hq⟩
theorem tail_slice {w : World} {v : Value} {b : List Int} (h : Row w .u8 v b) (q : Nat) (hq : q ≤ b.length) :
    ∃ v2, (∀ W, (Instr.sliceAt 22 v (some (.int .i64 q)) none none).run Tryd.prog W = .ok v2 W) ∧ (∀ W, (Instr.slice 22 v (some (.int .i64 q)) none none).run Tryd.prog W = .ok v2 W) ∧ Row w .u8 v2 (b.drop q) := by
  have hk := h
  obtain ⟨A, c, rfl, h2, h3, h4, h5, h6⟩ := h
  have k1 : ¬ b.length < q := by omega
  have k3 : q ≤ c := by omega
  by_cases hc : c = q
  · have e : b.drop q = [] := List.drop_eq_nil_iff.2 (by omega)
    rw [e]
    have hlq : b.length = q := by omega
    have HE := Lib.hid e
    clear e
    subst hc
    rw [hlq] at *
    exact ⟨.slice A 0 0, fun W => by go_simp, fun W => by go_simp, cut_zero (fun _ => rfl) (by simp [maxLen])⟩
  · have k4 : ¬ c = q := hc
    by_cases hb : b.length = 0
    · have hq0 : q = 0 := by omega
      subst hq0
      have e : b = [] := List.eq_nil_of_length_eq_zero hb
      subst e
      obtain ⟨ad, rfl⟩ : ∃ ad, A = some ad := by
        cases A with
        | none => exact absurd (h4 rfl) hc
        | some ad => exact ⟨ad, rfl⟩
      exact ⟨.slice (some (ad.add 0)) 0 c, fun W => by go_simp, fun W => by go_simp, cut_zero (fun h => by cases h) h3⟩
    · obtain ⟨bl, o, rfl, h7, h8⟩ := h6 (by omega)
      clear h6 h8
      exact ⟨_, fun W => by go_simp, fun W => by go_simp, Row.tail hk q hq⟩
end Go.Proofs.YtecgldkhjgcffaaDoor
/- strings.Builder, of the call's own: a character is written behind what it holds. -/
namespace Go.Proofs.YtecgldkhjgcffaaDoor
open Go.RowKit
set_option linter.unusedVariables false

/-- The call's own builder, in block b, holds these bytes. -/
def Bld (B b : Nat) (l : List UInt8) (w : World) : Prop := Lib.IsBuilder 105 5 B b (Lib.byteCells l) w
theorem bld_ext {B b : Nat} {l : List UInt8} {w w' : World} (h : Bld B b l w) (he : Ext w w') : Bld B b l w' := by
  have key : ∀ p, Lib.BuilderAt 105 5 B b p (Lib.byteCells l) w → Lib.BuilderAt 105 5 B b p (Lib.byteCells l) w' := by
    rintro p ⟨hB, v, hb, hown, hne⟩
    refine ⟨hB, v, (he.block b (lt_of_get hb)).trans hb, ⟨hown.1, ?_⟩, hne⟩
    rcases hown.2 with h2 | ⟨g, cap, cur, hv, hbg, hg, hr⟩
    · exact .inl h2
    · exact .inr ⟨g, cap, cur, hv, hbg, (he.block g (lt_of_get hg)).trans hg, hr⟩
  exact h.elim (fun x => .inl (key _ x)) (fun x => .inr (key _ x))
theorem sizeBld : ∃ j, Tryd.prog.info? 105 = some j ∧ j.size = 2 := by
  have h : (Tryd.prog.info? 105).map (·.size) = some 2 := by kernel_rfl
  obtain ⟨j, hj, hs⟩ := Option.map_eq_some_iff.1 h
  exact ⟨j, hj, hs⟩
theorem liesBld : liesAt Tryd.prog Tryd.prog.depth 105 (2 / Tryd.prog.cellsOf 105) 0 105 1 = true := by kernel_rfl
set_option maxRecDepth 100000 in
set_option maxHeartbeats 1000000 in
theorem copyCheck_fresh (b : Nat) (w : World) (h0 : w.cell? ⟨b, 0, none⟩ = some (.pointer none)) (hsh : w.shape? b = some (105, 2)) (hf : w.frozen? ⟨b, 0, none⟩ = false) :
    Calls Tryd.prog 106 #[.pointer (some ⟨b, 0, none⟩)] w fun e w' => e = .returned (.tuple #[]) ∧ w' = w.setCell ⟨b, 0, none⟩ (.pointer (some ⟨b, 0, none⟩)) := by
  obtain ⟨j, hj, hjs⟩ := sizeBld
  go_enter Tryd.func106, Tryd.ntmps106
  go_wp2
  rw [Lib.run_to_unsafe w ⟨b, 0, none⟩ Tryd.underlying103 Tryd.underlying132 hj (by rw [hjs]; decide) hsh (Nat.zero_lt_succ 1)]
  simp only [Result.andThen]
  rw [Oper.upon_value]
  go_wp2
  rw [run_callFunc_extern Tryd.func111 (by kernel_rfl) (by kernel_rfl) (by kernel_rfl) (e := Extern.AbiNoEscape.same) (by kernel_rfl)]
  rw [Lib.run_noEscape]
  simp only [Result.andThen]
  rw [Oper.upon_value]
  go_wp2
  rw [Lib.run_from_unsafe w ⟨b, 0, none⟩ Tryd.underlying132 Tryd.underlying103 hj hsh liesBld]
  simp only [Result.andThen]
  rw [Oper.upon_value]
  go_wp2
  go_end0
  exact ⟨rfl, rfl⟩
set_option maxRecDepth 100000 in
theorem copyCheck_used (b : Nat) (w : World) (h0 : w.cell? ⟨b, 0, none⟩ = some (.pointer (some ⟨b, 0, none⟩))) :
    Calls Tryd.prog 106 #[.pointer (some ⟨b, 0, none⟩)] w fun e w' => e = .returned (.tuple #[]) ∧ w' = w := by
  obtain ⟨j, hj, hjs⟩ := sizeBld
  go_enter Tryd.func106, Tryd.ntmps106
  go_wp2
  rw [Lib.run_neq_ptr_same w _ Tryd.underlying103 hj]
  go_wp2
  go_end0
  exact ⟨rfl, rfl⟩
theorem copyCheck_any (B b : Nat) (l : List UInt8) (w : World) (h : Bld B b l w) :
    Calls Tryd.prog 106 #[.pointer (some ⟨b, 0, none⟩)] w fun e w' => e = .returned (.tuple #[]) ∧ (Lib.BuilderAt 105 5 B b (.pointer (some ⟨b, 0, none⟩)) (Lib.byteCells l) w' ∧ Below B w w') := by
  rcases h with h | h
  · refine (copyCheck_fresh b w h.cell0 h.shape h.frozen0).mono ?_
    rintro e w' ⟨rfl, rfl⟩
    exact ⟨rfl, h.used _, (Below.refl B w).setCell (p := ⟨b, 0, none⟩) h.1 _⟩
  · refine (copyCheck_used b w h.cell0).mono ?_
    rintro e w' ⟨rfl, rfl⟩
    exact ⟨rfl, h, Below.refl B _⟩

set_option maxRecDepth 100000 in
set_option maxHeartbeats 2000000 in
theorem WriteRune_any (B b : Nat) (l : List UInt8) (r : Int) (w : World) (h : Bld B b l w) (hr0 : 0 ≤ r) (hr1 : r ≤ 1114111) (hl : l.length + 4 ≤ 140737488355328) (hB : B ≤ w.heap.size) :
    Calls Tryd.prog 89 #[.pointer (some ⟨b, 0, none⟩), .int .i32 r] w fun e w' => (∃ n, e = .returned (.tuple #[.int .i64 n, .nilIface])) ∧ Bld B b (l ++ Lib.encodeRune r) w' ∧ Below B w w' := by
  have hlc : (Lib.byteCells l).length = l.length := Lib.byteCells_length l
  have hk4 := Lib.runeCells_le r
  obtain ⟨C, hC⟩ : ∃ C, C = Lib.byteCells l := ⟨_, rfl⟩
  have c := copyCheck_any B b l w h
  rw [← hC] at c hlc
  have HC := Lib.hid hC
  clear hC h
  have HL := Lib.hid hlc
  clear hlc
  go_enter Tryd.func89, Tryd.ntmps89
  go_wp2_with fail
  refine c.mono ?_
  rintro e w1 ⟨rfl, ⟨hBb, v, hbk, hown, hne⟩, hb1⟩
  obtain ⟨ao, cap, rfl⟩ : ∃ ao cap, v = .slice ao C.length cap := by
    rcases hown.2 with ⟨hv, h0⟩ | ⟨g, cap, cur, hv, _⟩
    · exact ⟨none, 0, by rw [hv, h0]⟩
    · exact ⟨_, _, hv⟩
  have c0 : w1.cell? ⟨b, 0, none⟩ = some (.pointer (some ⟨b, 0, none⟩)) := by rw [Lib.cell_of_heap hbk]; rfl
  have c1 : w1.cell? ⟨b, 1, none⟩ = some (.slice ao C.length cap) := by rw [Lib.cell_of_heap hbk]; rfl
  have hB1 : B ≤ w1.heap.size := Nat.le_trans hB hb1.size
  go_wp2_with fail
  refine (Tryd.utf8_AppendRune_plain B _ C.length C r (by omega) (by omega) _ hown (by have := HL.out; omega) hB1).mono ?_
  rintro e w2 ⟨v', rfl, hown', o, hgrow⟩
  have hlt : b < w1.heap.size := lt_of_get hbk
  have hb2 : w2.heap[b]? = some (.cells #[.pointer (some ⟨b, 0, none⟩), .slice ao C.length cap] 105 (0, 0)) := by
    rw [hgrow.block b (by simp; omega) (fun e => hne e.symm), Lib.alloc_old w1 _ b hlt]
    exact hbk
  have d0 : w2.cell? ⟨b, 0, none⟩ = some (.pointer (some ⟨b, 0, none⟩)) := by rw [Lib.cell_of_heap hb2]; rfl
  have d1 : w2.cell? ⟨b, 1, none⟩ = some (.slice ao C.length cap) := by rw [Lib.cell_of_heap hb2]; rfl
  have f1 : w2.frozen? ⟨b, 1, none⟩ = false := Lib.frozen_of_heap hb2 1
  obtain ⟨g, cap', rfl⟩ : ∃ g cap', v' = .slice (some ⟨g, 0, none⟩) (C.length + (Lib.runeCells r).length) cap' := by
    rcases hown'.2 with ⟨_, h0⟩ | ⟨g, cap', cur, hv, _⟩
    · omega
    · exact ⟨g, cap', hv⟩
  go_wp2
  go_ret2
  refine ⟨⟨_, rfl⟩, ?_, ?_⟩
  · refine .inr ?_
    have e : Lib.byteCells (l ++ Lib.encodeRune r) = C ++ Lib.runeCells r := by rw [Lib.byteCells_append, ← HC.out, Lib.byteCells_encodeRune]
    rw [e]
    exact Lib.BuilderAt.put hBb hb2 (by simpa using hown') (by decide)
  · exact ((hb1.alloc hB1 o).grown hgrow (by have := hb1.size; simp; omega) (fun k hk => (World.ownsRow.lt hown k hk).1)).setCell (p := ⟨b, 1, none⟩) hBb _
end Go.Proofs.YtecgldkhjgcffaaDoor
