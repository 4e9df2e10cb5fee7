/- The statements' own examples of texts. -/
import Derived.Test.YtkjjmdmaffeboaaDoorTextL
import Derived.Test.YtkjjmdmaffeboaaDoorTextD
namespace Go.Proofs.YtkjjmdmaffeboaaDoor
open Go.RowKit
set_option linter.unusedVariables false

/-- A bool comes back, and all that was there is as it was. -/
def RetT (w : World) (b : Bool) (e : Ending) (w' : World) : Prop := e = .returned (.bool b) ∧ Ext w w'
theorem Row.litT (w : World) (l : List Int) (hf : Fit .u8 l) (hl : l.length ≤ 65536) (hp : 0 < l.length) :
    Row (w.alloc (.cells (l.map (Value.int .u8)).toArray 5)) .u8 (.slice (some ⟨w.heap.size, 0, none⟩) l.length l.length) l := Row.built w .u8 5 l hf hl
theorem fit_dec {l : List Int} (h : (l.all fun x => decide (0 ≤ x ∧ x < 256)) = true) : Fit .u8 l := fun x hx => by
  have := of_decide_eq_true (List.all_eq_true.1 h x hx)
  exact wf_u8 (by omega) (by omega)
theorem str_eq (s : ByteArray) (l : List UInt8) (h : s.data.toList = l) : (⟨l.toArray⟩ : ByteArray) = s := by
  subst h
  rfl

/-- A string's bytes in a class are at most three times as many. -/
theorem enc_len (l : List UInt8) : (encZ l).length ≤ 3 * l.length := by
  obtain ⟨n, hn⟩ : ∃ n, l.length ≤ n := ⟨_, Nat.le_refl _⟩
  induction n generalizing l with
  | zero =>
    have : l = [] := List.eq_nil_of_length_eq_zero (by omega)
    subst this
    exact Nat.le_refl _
  | succ n ih =>
    by_cases hne : l = []
    · subst hne
      exact Nat.le_refl _
    · have hl : 0 < l.length := List.length_pos_iff.2 hne
      have hw := Lib.decodeL_width l
      have hle := decodeL_le l hne
      have hi := ih (l.drop (Lib.decodeL l).2) (by rw [List.length_drop]; omega)
      have hc : (ch (Lib.decodeL l).1).length ≤ 3 * (Lib.decodeL l).2 := by
        rw [Lib.decodeL_N]
        rcases Lib.decodeN_shape l.length (l.getD 0 0).toNat (l.getD 1 0).toNat (l.getD 2 0).toNat (l.getD 3 0).toNat with ⟨c, e⟩ | ⟨c1, c2, c3, cv, e⟩ | ⟨c1, c2, c3, c4, cv, cs, e⟩ | ⟨c1, c2, c3, c4, c5, cv, cw, e⟩ | e
        · rw [e]
          dsimp only
          by_cases h0 : 1 ≤ ((l.getD 0 0).toNat : Int) ∧ ((l.getD 0 0).toNat : Int) ≤ 127
          · rw [ch1 h0]; simp
          · rw [ch2 h0 (by omega)]; simp
        · rw [e]
          have := (ch_len ((((l.getD 0 0).toNat % 32 * 64 + (l.getD 1 0).toNat % 64 : Nat)) : Int)).2
          dsimp only
          omega
        · rw [e]
          have := (ch_len ((((l.getD 0 0).toNat % 16 * 4096 + (l.getD 1 0).toNat % 64 * 64 + (l.getD 2 0).toNat % 64 : Nat)) : Int)).2
          dsimp only
          omega
        · rw [e]
          have := (ch_len ((((l.getD 0 0).toNat % 8 * 262144 + (l.getD 1 0).toNat % 64 * 4096 + (l.getD 2 0).toNat % 64 * 64 + (l.getD 3 0).toNat % 64 : Nat)) : Int)).2
          dsimp only
          omega
        · rw [e]
          decide
      rw [List.length_drop] at hi
      unfold encZ at hi ⊢
      rw [runes_step l hne, mu_cons, List.length_append]
      omega
theorem enc_fit (s : ByteArray) (h : s.size ≤ 1048576) : (encZ s.data.toList).length ≤ 3145728 := by
  have := enc_len s.data.toList
  rw [← Lib.size_eq] at this
  omega
/-- What was encoded comes back. -/
theorem enc_back (s : ByteArray) (hv : Lib.validD s.data.toList = true) : stop (encZ s.data.toList) = (encZ s.data.toList).length ∧ (⟨(utf (chs (encZ s.data.toList))).toArray⟩ : ByteArray) = s := by
  have hch := chs_all (runes_sc s.data.toList)
  refine ⟨hch.2, ?_⟩
  unfold encZ
  rw [hch.1]
  exact str_eq s _ (utf_runes _ hv).symm
/-- What can be read is a text, and written so. -/
theorem dec_back {b : List Int} (hf : Fit .u8 b) (h : stop b = b.length) (S : ByteArray) (hS : (⟨(utf (chs b)).toArray⟩ : ByteArray) = S) : Lib.validD S.data.toList = true ∧ encZ S.data.toList = b ∧ S.size ≤ b.length := by
  obtain ⟨h1, h2, h3⟩ := chs_sound hf
  obtain ⟨e1, e2⟩ := back_utf h1
  have hd : S.data.toList = utf (chs b) := by rw [← hS]
  have hm : mu (chs b) = b := by rw [drop_stop hf, h, List.take_length]
  rw [Lib.size_eq, hd]
  refine ⟨e1, by unfold encZ; rw [e2, hm], ?_⟩
  have := (utf_le h1).1
  rw [hm] at this
  exact this

set_option maxHeartbeats 2000000 in
theorem is_yes (s : ByteArray) (v : Value) (b : List Int) (w : World) (hT : Tabs w) (h : Row w .u8 v b) (hs : s.size ≤ 65536) (hb : b.length ≤ 65536) (hv : Lib.validD s.data.toList = true) (he : encZ s.data.toList = b) :
    Calls Tryd.prog 21 #[.string s, v] w (RetT w true) := by
  have c1 := Encode_any s w hT (by omega) (by rw [he]; omega)
  have hsc := runes_sc s.data.toList
  have hch := chs_all hsc
  have hmu : mu (runes s.data.toList) = b := he
  rw [hmu] at hch
  have hstr : (⟨(utf (chs b)).toArray⟩ : ByteArray) = s := by rw [hch.1]; exact str_eq s _ (utf_runes _ hv).symm
  have HS := Lib.hid hstr
  have HST := Lib.hid hch.2
  have HV := Lib.hid hv
  have HE := Lib.hid he
  clear hsc hch hmu hstr hv he
  go_enter Tryd.func21, Tryd.ntmps21
  go_wp2_with fail
  refine c1.mono ?_
  rintro e w1 ⟨u1, rfl, ⟨-, v1, rfl, ho1⟩ | ⟨hv, rfl⟩, he1⟩
  rotate_left
  · rw [HV.out] at hv; cases hv
  rw [HE.out] at ho1
  go_wp2_with fail
  refine (Decode_any v b _ (by exact h.ext he1) (by omega)).mono ?_
  rintro e w2 ⟨u2, rfl, ⟨-, rfl⟩ | ⟨hlt, rfl⟩, he2⟩
  rotate_left
  · rw [HST.out] at hlt; exact absurd hlt (Nat.lt_irrefl _)
  rw [HS.out]
  go_wp2_with fail
  refine (Len_any s _ (hT.ext (he1.trans he2)) (by omega) (by rw [HE.out]; omega)).mono ?_
  rintro e w3 ⟨u3, rfl, ⟨-, rfl⟩ | ⟨hv, rfl⟩, he3⟩
  rotate_left
  · rw [HV.out] at hv; cases hv
  rw [HE.out]
  have x3 : Ext w w3 := (he1.trans he2).trans he3
  go_wp2_with fail
  refine (eqBytes_any _ _ b b _ (by exact ho1.row.ext (he2.trans he3)) (by exact h.ext x3)).mono ?_
  rw [decide_eq_true rfl]
  rintro e w4 ⟨rfl, m4, rfl⟩
  obtain ⟨A, c, rfl, _⟩ := h
  go_wp2
  go_ret
  exact ⟨rfl, x3.drewN m4⟩

theorem fails_yes (k : Nat) (v : Value) (b : List Int) (w : World) (h : Row w .u8 v b) (hb : b.length ≤ 65536) (hs : stop b = k) (hk : k < b.length) :
    Calls Tryd.prog 22 #[.int .i64 k, v] w (RetT w true) := by
  have HS := Lib.hid hs
  clear hs
  go_enter Tryd.func22, Tryd.ntmps22
  go_wp2_with fail
  refine (Decode_any v b _ (by exact h) (by omega)).mono ?_
  rintro e w2 ⟨u2, rfl, ⟨heq, rfl⟩ | ⟨-, rfl⟩, he2⟩
  · rw [HS.out] at heq; omega
  rw [HS.out]
  go_wp2
  go_ret
  exact ⟨rfl, he2⟩

set_option maxHeartbeats 4000000 in
theorem works_any (w : World) (hT : Tabs w) : Calls Tryd.prog 16 #[] w (RetT w true) := by
  have x0 := Ext.refl w
  go_enter Tryd.func16, Tryd.ntmps16
  go_wp2_with fail
  refine (is_yes ⟨#[65]⟩ _ [65] _ (by exact hT.ext (x0.alloc _)) (by exact Row.litT _ [65] (fit_dec (by decide)) (by decide) (by decide)) (by decide) (by decide) (by decide +kernel) (by decide +kernel)).mono ?_
  rintro e w1 ⟨rfl, he1⟩
  have x1 : Ext w w1 := (x0.alloc _).trans he1
  go_wp2_with fail
  refine (is_yes ⟨#[0]⟩ _ [192, 128] _ (by exact hT.ext (x1.alloc _)) (by exact Row.litT _ [192, 128] (fit_dec (by decide)) (by decide) (by decide)) (by decide) (by decide) (by decide +kernel) (by decide +kernel)).mono ?_
  rintro e w2 ⟨rfl, he2⟩
  have x2 : Ext w w2 := (x1.alloc _).trans he2
  go_wp2_with fail
  refine (is_yes ⟨#[223, 191]⟩ _ [223, 191] _ (by exact hT.ext (x2.alloc _)) (by exact Row.litT _ [223, 191] (fit_dec (by decide)) (by decide) (by decide)) (by decide) (by decide) (by decide +kernel) (by decide +kernel)).mono ?_
  rintro e w3 ⟨rfl, he3⟩
  have x3 : Ext w w3 := (x2.alloc _).trans he3
  go_wp2_with fail
  refine (is_yes ⟨#[224, 160, 128]⟩ _ [224, 160, 128] _ (by exact hT.ext (x3.alloc _)) (by exact Row.litT _ [224, 160, 128] (fit_dec (by decide)) (by decide) (by decide)) (by decide) (by decide) (by decide +kernel) (by decide +kernel)).mono ?_
  rintro e w4 ⟨rfl, he4⟩
  have x4 : Ext w w4 := (x3.alloc _).trans he4
  go_wp2_with fail
  refine (is_yes ⟨#[239, 191, 191]⟩ _ [239, 191, 191] _ (by exact hT.ext (x4.alloc _)) (by exact Row.litT _ [239, 191, 191] (fit_dec (by decide)) (by decide) (by decide)) (by decide) (by decide) (by decide +kernel) (by decide +kernel)).mono ?_
  rintro e w5 ⟨rfl, he5⟩
  have x5 : Ext w w5 := (x4.alloc _).trans he5
  go_wp2_with fail
  refine (is_yes ⟨#[240, 144, 128, 128]⟩ _ [237, 160, 128, 237, 176, 128] _ (by exact hT.ext (x5.alloc _)) (by exact Row.litT _ [237, 160, 128, 237, 176, 128] (fit_dec (by decide)) (by decide) (by decide)) (by decide) (by decide) (by decide +kernel) (by decide +kernel)).mono ?_
  rintro e w6 ⟨rfl, he6⟩
  have x6 : Ext w w6 := (x5.alloc _).trans he6
  go_wp2_with fail
  refine (is_yes ⟨#[244, 143, 191, 191]⟩ _ [237, 175, 191, 237, 191, 191] _ (by exact hT.ext (x6.alloc _)) (by exact Row.litT _ [237, 175, 191, 237, 191, 191] (fit_dec (by decide)) (by decide) (by decide)) (by decide) (by decide) (by decide +kernel) (by decide +kernel)).mono ?_
  rintro e w7 ⟨rfl, he7⟩
  have x7 : Ext w w7 := (x6.alloc _).trans he7
  go_wp2_with fail
  refine (fails_yes 1 _ [65, 0] _ (by exact Row.litT _ [65, 0] (fit_dec (by decide)) (by decide) (by decide)) (by decide) (by decide +kernel) (by decide)).mono ?_
  rintro e w8 ⟨rfl, he8⟩
  have x8 : Ext w w8 := (x7.alloc _).trans he8
  go_wp2_with fail
  refine (fails_yes 1 _ [65, 192, 129] _ (by exact Row.litT _ [65, 192, 129] (fit_dec (by decide)) (by decide) (by decide)) (by decide) (by decide +kernel) (by decide)).mono ?_
  rintro e w9 ⟨rfl, he9⟩
  have x9 : Ext w w9 := (x8.alloc _).trans he9
  go_wp2_with fail
  refine (fails_yes 0 _ [237, 160, 128] _ (by exact Row.litT _ [237, 160, 128] (fit_dec (by decide)) (by decide) (by decide)) (by decide) (by decide +kernel) (by decide)).mono ?_
  rintro e w10 ⟨rfl, he10⟩
  have x10 : Ext w w10 := (x9.alloc _).trans he10
  go_wp2_with fail
  refine (fails_yes 0 _ [224, 128, 128] _ (by exact Row.litT _ [224, 128, 128] (fit_dec (by decide)) (by decide) (by decide)) (by decide) (by decide +kernel) (by decide)).mono ?_
  rintro e w11 ⟨rfl, he11⟩
  have x11 : Ext w w11 := (x10.alloc _).trans he11
  go_wp2_with fail
  refine (fails_yes 1 _ [65, 224, 160] _ (by exact Row.litT _ [65, 224, 160] (fit_dec (by decide)) (by decide) (by decide)) (by decide) (by decide +kernel) (by decide)).mono ?_
  rintro e w12 ⟨rfl, he12⟩
  have x12 : Ext w w12 := (x11.alloc _).trans he12
  go_wp2_with fail
  refine (fails_yes 0 _ [240, 144, 128, 128] _ (by exact Row.litT _ [240, 144, 128, 128] (fit_dec (by decide)) (by decide) (by decide)) (by decide) (by decide +kernel) (by decide)).mono ?_
  rintro e w13 ⟨rfl, he13⟩
  have x13 : Ext w w13 := (x12.alloc _).trans he13
  go_wp2_with fail
  go_ret
  exact ⟨rfl, x13⟩
end Go.Proofs.YtkjjmdmaffeboaaDoor
