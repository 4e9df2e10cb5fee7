/- The document's answer for texts: a text's bytes. -/
import Derived.Test.YtkjjmdmaffeboaaDoorTextC
import Derived.Test.YtkjjmdmaffeboaaDoorShelf
import Derived.Lib.OthersKept
namespace Go.Proofs.YtkjjmdmaffeboaaDoor
open Go.RowKit
set_option linter.unusedVariables false

/-- unicode/utf8's two tables are as its text lays them. -/
def Tabs (w : World) : Prop := Lib.Utf8Tabs 0 1 w
theorem Tabs.ext {w w' : World} (h : Tabs w) (he : Ext w w') : Tabs w' := Utf8Tabs_below h he

theorem decodeL_le (l : List UInt8) (h : l ≠ []) : (Lib.decodeL l).2 ≤ l.length := by
  have hl : 0 < l.length := List.length_pos_iff.2 h
  rw [Lib.decodeL_N]
  rcases Lib.decodeN_shape l.length (l.getD 0 0).toNat (l.getD 1 0).toNat (l.getD 2 0).toNat (l.getD 3 0).toNat with ⟨c, e⟩ | ⟨c1, c2, c3, cv, e⟩ | ⟨c1, c2, c3, c4, cv, cs, e⟩ | ⟨c1, c2, c3, c4, c5, cv, cw, e⟩ | e
  all_goals
    rw [e]
    dsimp only
    omega
theorem decode_drop (s : ByteArray) (k : Nat) : Utf8.decode s k = Lib.decodeL (s.data.toList.drop k) := by
  rw [Lib.decode_N, Lib.decodeL_N, List.length_drop, Lib.getD_dropU, Lib.getD_dropU, Lib.getD_dropU, Lib.getD_dropU]
  rfl
theorem decodeGo_ext (s : ByteArray) (k : Nat) (h : k < s.size) : Lib.decodeGo (s.extract k s.size) = Lib.decodeL (s.data.toList.drop k) := by
  have hs : (s.extract k s.size).size = s.size - k := by simp
  unfold Lib.decodeGo
  rw [if_neg (by omega), decode_drop]
  rw [List.drop_zero, Lib.ext_list]

/-- What stands at a place of a string. -/
theorem at_place (s : ByteArray) (k : Nat) (h : k < s.size) : ∃ r m : Nat, Lib.decodeL (s.data.toList.drop k) = (r, m) ∧ 1 ≤ m ∧ k + m ≤ s.size ∧ Sc (r : Int) ∧ runes (s.data.toList.drop k) = (r : Int) :: runes (s.data.toList.drop (k + m)) ∧
    Lib.validD (s.data.toList.drop k) = (if r = 65533 ∧ m = 1 then false else Lib.validD (s.data.toList.drop (k + m))) := by
  have hne : s.data.toList.drop k ≠ [] := by
    intro e
    have := congrArg List.length e
    rw [List.length_drop, ← Lib.size_eq] at this
    simp at this
    omega
  have hle := decodeL_le _ hne
  rw [List.length_drop, ← Lib.size_eq] at hle
  refine ⟨(Lib.decodeL (s.data.toList.drop k)).1, (Lib.decodeL (s.data.toList.drop k)).2, rfl, Lib.decodeL_width _, ?_, decodeL_sc _, ?_, ?_⟩
  · revert hle
    generalize (Lib.decodeL (s.data.toList.drop k)).2 = d
    intro hle
    omega
  · rw [runes_step _ hne, List.drop_drop]
  · rw [Lib.validD_step _ hne, List.drop_drop]
theorem drop_end (s : ByteArray) (k : Nat) (h : ¬ k < s.size) : s.data.toList.drop k = [] := List.drop_eq_nil_iff.2 (by rw [← Lib.size_eq]; omega)

/-- What Encode answers of a string. -/
def EncAns (l : List UInt8) (B : Nat) (v' : Value) (w' : World) : Prop :=
  (Lib.validD l = true ∧ ∃ v, v' = .tuple #[v, .int .i64 0] ∧ Own B w' 5 .u8 v (encZ l)) ∨ (Lib.validD l = false ∧ v' = .tuple #[.slice none 0 0, .int .i64 20])
/-- What Len answers of a string. -/
def LenAns (l : List UInt8) (v' : Value) (w' : World) : Prop :=
  (Lib.validD l = true ∧ v' = .tuple #[.int .i64 (encZ l).length, .int .i64 0]) ∨ (Lib.validD l = false ∧ v' = .tuple #[.int .i64 0, .int .i64 20])

set_option maxHeartbeats 2000000 in
theorem refEncode_any (s : ByteArray) (w : World) (hT : Tabs w) (hs : s.size ≤ 9223372036854775807) (hz : (encZ s.data.toList).length ≤ 140737488355328) :
    Calls Tryd.prog 12 #[.string s] w (Ret w (EncAns s.data.toList w.heap.size)) := by
  go_enter Tryd.func12, Tryd.ntmps12
  go_wp2
  go_loopw [4, 5] (fun v i wr => ∃ (k : Nat) (pre : List Int), i = .int .i64 k ∧ k ≤ s.size ∧ Ext w wr ∧ Own w.heap.size wr 5 .u8 v (mu pre) ∧ Hid (runes s.data.toList = pre ++ runes (s.data.toList.drop k)) ∧ Hid (Lib.validD s.data.toList = Lib.validD (s.data.toList.drop k))) (fun _ i _ => s.size - (intOf i).toNat)
  case atStart => exact ⟨0, [], rfl, by omega, Ext.refl _, Own.nil _ _ _ _, Lib.hid rfl, Lib.hid rfl⟩
  case round =>
    obtain ⟨k, pre, rfl, hk, he, ho, HR, HV⟩ := hrel
    by_cases hlt : k < s.size
    · obtain ⟨r, m, hd, hm1, hm2, hsc, hr, hv⟩ := at_place s k hlt
      have hgo := decodeGo_ext s k hlt
      rw [hd] at hgo
      have HD := Lib.hid hgo
      have hr2 : r ≤ 1114111 := by have := hsc.hi; omega
      have hsum : (mu pre).length + (ch r).length ≤ 140737488355328 := by
        unfold encZ at hz
        rw [HR.out, hr, mu_app, mu_cons, List.length_append, List.length_append] at hz
        omega
      by_cases hbad : r = 65533 ∧ m = 1
      · obtain ⟨rfl, rfl⟩ := hbad
        rw [if_pos ⟨rfl, rfl⟩] at hv
        have HF := Lib.hid (HV.out.trans hv)
        clear hv hr hgo hd
        go_wp2_with fail
        refine (Tryd.utf8_DecodeRuneInString (s.extract k s.size) _ (hT.ext he)).mono ?_
        rw [HD.out]
        rintro e w1 ⟨rfl, he1⟩
        go_wp2
        go_ret2
        exact Ret.mk (.inr ⟨HF.out, rfl⟩) (he.trans he1)
      · rw [if_neg hbad] at hv
        have HR2 := Lib.hid (show runes s.data.toList = (pre ++ [(r : Int)]) ++ runes (s.data.toList.drop (k + m)) by rw [HR.out, hr]; simp)
        have HV2 := Lib.hid (HV.out.trans hv)
        have hsc2 : 0 ≤ (r : Int) := by omega
        clear hv hr hgo hd
        by_cases hr0 : r = 65533
        · subst hr0
          have htest : ¬ (m : Int) < 2 := by omega
          have hsum : (mu pre).length + (ch 65533).length ≤ 140737488355328 := hsum
          clear hbad
          go_wp2_with fail
          refine (Tryd.utf8_DecodeRuneInString (s.extract k s.size) _ (hT.ext he)).mono ?_
          rw [HD.out]
          rintro e w1 ⟨rfl, he1⟩
          have y1 : Ext w w1 := he.trans he1
          go_wp2_with fail
          refine (char_any 65533 _ (by omega) (by omega)).mono ?_
          rintro e w2 ⟨v2, rfl, ho2, he2⟩
          have y2 : Ext w w2 := y1.trans he2
          go_wp2_with (at_builtin; go_loud (refine wpList_app _ rfl _ _ w.heap.size 22 5 _ 1 .u8 rfl Tryd.underlying22 info8 rfl (by omega) _ (mu pre) rfl (ho.ext (Ext.trans he1 he2)) v2 (ch 65533) rfl ho2.row (by omega) y2.size ?_))
          intro v3 w3 ho3 hg3 _
          have y3 : Ext w w3 := y2.grown hg3 ho.low
          go_wp2
          go_roundw
          case rel => exact ⟨k + m, pre ++ [(65533 : Int)], by go_num, by omega, y3, by rw [mu_snoc]; exact ho3, HR2, HV2⟩
          case measure => simp [intOf]; omega
        · have htest : ((r : Int) == 65533) = false := by simp; omega
          clear hbad hr0
          go_wp2_with fail
          refine (Tryd.utf8_DecodeRuneInString (s.extract k s.size) _ (hT.ext he)).mono ?_
          rw [HD.out]
          rintro e w1 ⟨rfl, he1⟩
          have y1 : Ext w w1 := he.trans he1
          go_wp2_with fail
          refine (char_any r _ (by omega) (by omega)).mono ?_
          rintro e w2 ⟨v2, rfl, ho2, he2⟩
          have y2 : Ext w w2 := y1.trans he2
          go_wp2_with (at_builtin; go_loud (refine wpList_app _ rfl _ _ w.heap.size 22 5 _ 1 .u8 rfl Tryd.underlying22 info8 rfl (by omega) _ (mu pre) rfl (ho.ext (Ext.trans he1 he2)) v2 (ch r) rfl ho2.row (by omega) y2.size ?_))
          intro v3 w3 ho3 hg3 _
          have y3 : Ext w w3 := y2.grown hg3 ho.low
          go_wp2
          go_roundw
          case rel => exact ⟨k + m, pre ++ [(r : Int)], by go_num, by omega, y3, by rw [mu_snoc]; exact ho3, HR2, HV2⟩
          case measure => simp [intOf]; omega
    · have hd := drop_end s k hlt
      have hR := HR.out
      have hV := HV.out
      rw [hd] at hR hV
      rw [runes_nil, List.append_nil] at hR
      have hF : Lib.validD s.data.toList = true := hV
      have HF := Lib.hid hF
      have HE := Lib.hid (show encZ s.data.toList = mu pre by unfold encZ; rw [hR])
      clear hd hR hV hF
      go_wp2
      go_ret2
      exact Ret.mk (.inl ⟨HF.out, _, rfl, by rw [HE.out]; exact ho⟩) he

theorem refLen_any (s : ByteArray) (w : World) (hT : Tabs w) (hs : s.size ≤ 9223372036854775807) (hz : (encZ s.data.toList).length ≤ 140737488355328) :
    Calls Tryd.prog 14 #[.string s] w (Ret w (LenAns s.data.toList)) := by
  have c := refEncode_any s w hT hs hz
  go_enter Tryd.func14, Tryd.ntmps14
  go_wp2_with fail
  refine c.mono ?_
  rintro e w1 ⟨v1, rfl, ⟨hv, v2, rfl, ho⟩ | ⟨hv, rfl⟩, he⟩
  · obtain ⟨A, c1, rfl, _⟩ := ho.row
    have HV := Lib.hid hv
    clear hv
    go_wp2
    go_ret2
    exact Ret.mk (.inl ⟨HV.out, rfl⟩) he
  · have HV := Lib.hid hv
    clear hv
    go_wp2
    go_ret2
    exact Ret.mk (.inr ⟨HV.out, rfl⟩) he
end Go.Proofs.YtkjjmdmaffeboaaDoor
