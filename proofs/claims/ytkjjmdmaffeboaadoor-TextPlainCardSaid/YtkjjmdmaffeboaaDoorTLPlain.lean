/- TextPlain: no byte of a text is 0, and bytes stand for themselves just where they are from 1 to 7F, of each string and byte; the row's two tables are as the library's text lays them. -/
import Derived.Test.YtkjjmdmaffeboaaDoorTFrame
import Derived.Test.YtkjjmdmaffeboaaDoorTextX
import Derived.Test.YtkjjmdmaffeboaaDoorTextF
namespace Go.Proofs.YtkjjmdmaffeboaaDoor
open Go.ChangeShapes Go.WideShapes Go.ChangeAt Go.RowKit
open Go.ChangeMaps (open_string shut_string)
set_option linter.unusedVariables false

theorem one_str (c : Int) : (⟨(utf [c]).toArray⟩ : ByteArray) = strOfNums (Lib.encodeRuneZ c) := by
  unfold strOfNums
  simp [utf, Lib.encodeRune]
set_option maxHeartbeats 4000000 in
theorem textPlain_walk (w : World) (hT : Tabs w) (s : ByteArray) (hs : s.size ≤ 140737488351232) (c : Int) (hc : 0 ≤ c ∧ c < 256) : Calls Tryd.prog 9 #[.string s, .int .u8 c] w (RetT w true) := by
  have hl : Lib.validD s.data.toList = true → (encZ s.data.toList).length ≤ 2 * s.size := enc_two s
  obtain ⟨b, hb⟩ : ∃ b, encZ s.data.toList = b := ⟨_, rfl⟩
  have hfit : ∀ x ∈ b, 1 ≤ x ∧ x < 256 := by rw [← hb]; exact mu_fit (runes_sc s.data.toList)
  rw [hb] at hl
  have HE := Lib.hid hb
  have HX := Lib.hid hfit
  obtain ⟨hc0, hc1⟩ := hc
  have hcw : (Lit.int .u8 c).wf = true := wf_u8 hc0 (by omega)
  have HW := Lib.hid hcw
  obtain ⟨ho1, ho2⟩ := chs_one c hc0 hc1
  have HO1 := Lib.hid ho1
  have HO2 := Lib.hid ho2
  obtain ⟨n, hn⟩ : ∃ n, b.length = n := ⟨_, rfl⟩
  rw [hn] at hl
  have HN := Lib.hid hn
  have HL := Lib.hid hl
  clear hb hfit hcw ho1 ho2 hn hl
  go_enter Tryd.func9, Tryd.ntmps9
  go_wp2_with fail
  refine (works_any _ hT).mono ?_
  rintro e w1 ⟨rfl, he1⟩
  go_wp2_with fail
  refine (Encode_full s _ (hT.ext he1) (by omega) (fun h => by rw [HE.out, HN.out]; have := HL.out h; omega)).mono ?_
  rintro e w2 ⟨u2, rfl, c2, he2⟩
  have x2 : Ext w w2 := he1.trans he2
  obtain ⟨N, A, C, E, hu, hN, hrow⟩ : ∃ (N : Nat) (A : Option Addr) (C : Nat) (E : Int), u2 = .tuple #[.slice A N C, .int .i64 E] ∧ N ≤ 281474976710656 ∧ (N = 0 ∨ (E = 0 ∧ N = n ∧ Row w2 .u8 (.slice A n C) b)) := by
    rcases c2 with ⟨hv2, v2, rfl, ho2⟩ | ⟨-, rfl⟩
    · have hl2 := HL.out hv2
      rw [HE.out] at ho2
      have hr := ho2.row
      obtain ⟨A, C, rfl, -⟩ := ho2.row
      rw [HN.out] at hr ⊢
      exact ⟨n, A, C, 0, rfl, by omega, .inr ⟨rfl, rfl, hr⟩⟩
    · exact ⟨0, none, 0, 20, rfl, by omega, .inl rfl⟩
  subst hu
  have HR := Lib.hid hrow
  clear hrow c2
  go_wp2
  go_loopw [7] (fun i wr => ∃ k : Nat, i = .int .i64 k ∧ k ≤ N ∧ Ext w2 wr) (fun i _ => N - (intOf i).toNat)
  case atStart => exact ⟨0, rfl, by omega, Ext.refl _⟩
  case round =>
    obtain ⟨k, rfl, hk, hx⟩ := hrel
    by_cases hlt : k < N
    · rcases HR.out with h0 | ⟨rfl, rfl, hrow⟩
      · omega
      · have hg := HX.out (gi b k) (gi_mem (by rw [HN.out]; exact hlt))
        obtain ⟨A', c', e', -, -, -, -, h6⟩ := hrow.ext hx
        obtain ⟨bl, o, hA, hbl, hcell⟩ := h6 (by rw [HN.out]; omega)
        have hck := hcell k (by rw [HN.out]; exact hlt)
        obtain ⟨g, hgg⟩ : ∃ g, gi b k = g := ⟨_, rfl⟩
        rw [hgg] at hg hck
        have hz : (g == 0) = false := by simp; omega
        have hA2 : A = some ⟨bl, o, none⟩ := by injection e' with e1 e2 e3; rw [e1, hA]
        subst hA2
        obtain ⟨hg1, hg2⟩ := hg
        clear hcell h6 hrow e' hA hgg
        go_wp2
        go_roundw
        case rel => exact ⟨k + 1, by go_num, by omega, hx⟩
        case measure => simp [intOf]; omega
    · have x3 : Ext w wr := x2.trans hx
      have hrow1 : Row (wr.alloc (.cells #[.int .u8 c] 5)) .u8 (.slice (some ⟨wr.heap.size, 0, none⟩) 1 1) [c] := Row.built1 wr .u8 5 c HW.out
      go_wp2_with fail
      refine (Decode_any _ [c] _ (by exact hrow1) (by simp)).mono ?_
      rintro e w4 ⟨u4, rfl, c4, he4⟩
      have x4 : Ext w w4 := (x3.alloc _).trans he4
      by_cases hin : 1 ≤ c ∧ c ≤ 127
      · obtain ⟨hch, hst⟩ := HO1.out hin
        rcases c4 with ⟨-, rfl⟩ | ⟨hlt4, rfl⟩
        rotate_left
        · rw [hst] at hlt4; exact absurd hlt4 (by simp)
        have hcv := (Row.built1 w4 .u8 5 c HW.out).conv
        have hstr : (⟨(utf (chs [c])).toArray⟩ : ByteArray) = strOfNums [c] := by rw [hch, one_str, Lib.encodeRuneZ_one hc0 hin.2]
        rw [hstr]
        obtain ⟨S, hS⟩ : ∃ S, strOfNums [c] = S := ⟨_, rfl⟩
        rw [hS] at hcv ⊢
        obtain ⟨hi1, hi2⟩ := hin
        clear hch hst hstr hS
        go_wp2
        go_ret
        exact ⟨rfl, x4.alloc _⟩
      · obtain ⟨hch, hst⟩ := HO2.out hin
        rcases c4 with ⟨hst4, rfl⟩ | ⟨-, rfl⟩
        · rw [hst] at hst4; simp at hst4
        rw [hst]
        have hin' : c < 1 ∨ 127 < c := by omega
        clear hch hst hin
        rcases hin' with hin' | hin'
        all_goals
          go_wp2
          go_ret
          exact ⟨rfl, x4⟩

theorem textPlain_fits (os : Os) {H : Type} (enc : TypeId × Value → H) :
    (OpenSpec.ofChange Rows.textPlainSpec).preRow enc Tryd.prog Tryd.f9 Rows.textPlainRow.domain false Rows.textPlainRow.laid ((laidWorld os).forCall (fun _ _ => 0) ⟨#[], #[.string ⟨#[]⟩, .int .u8 0], []⟩).memory #[.string ⟨#[]⟩, .int .u8 0] := by
  have hw : (DataW.whole enc Tryd.prog ((laidWorld os).forCall (fun _ _ => 0) ⟨#[], #[.string ⟨#[]⟩, .int .u8 0], []⟩).memory Tryd.f9.params.toList Rows.textPlainSpec.vars false (#[.string ⟨#[]⟩, .int .u8 0] : Array Value).toList 8).map (fun x => (x.1, x.2.1)) = some ([.lit (.string []), .lit (.int .u8 0)], []) := by kernel_rfl
  obtain ⟨⟨x1, x2, x3⟩, hx, hx1⟩ := Option.map_eq_some_iff.1 hw
  simp only [Prod.mk.injEq] at hx1
  obtain ⟨rfl, rfl⟩ := hx1
  exact OpenSpec.preRow_of_cond 8 hx (by kernel_rfl) (fun k hk => by cases hk) (by kernel_rfl) (laid_met os _)

set_option maxRecDepth 100000 in
set_option maxHeartbeats 2000000 in
theorem textPlain_lifted (os : Os) (started : os.Started) (H : Type) (enc : TypeId × Value → H) (F : Stop.Interp) :
    ReturnsInHanded {} Tryd.checked os 9 .any ((OpenSpec.ofChange Rows.textPlainSpec).preRow enc Tryd.prog Tryd.f9 Rows.textPlainRow.domain false Rows.textPlainRow.laid) (((OpenSpec.ofChange Rows.textPlainSpec).at F).post enc Tryd.prog Tryd.f9 false true false false) := by
  refine returnsInHanded_of_row (C := Tryd.checked) (s := (OpenSpec.ofChange Rows.textPlainSpec)) own started (by kernel_rfl) Tryd.func9
    (witness_row_atRef (enc := enc) (C := Tryd.checked) false (laidWorld os) #[.string ⟨#[]⟩, .int .u8 0] rfl (by kernel_rfl) (by kernel_rfl) (by kernel_rfl) (textPlain_fits os enc)) ?_
  intro W base args ds gs before hval0 hW _ hcond hsz0 hL _ _
  have hT : Tabs W := tabs_of hL
  have hval : ∀ (j : Nat) t v, Tryd.f9.params[j]? = some t → args[j]? = some v → Value.okWide Tryd.prog W .any base t v := hval0
  have hsz : (DataW.weightsEach Tryd.prog (Tryd.f9.params.toList ++ Rows.textPlainSpec.plain.varTypes Tryd.prog) (ds ++ gs)).all (· ≤ reachBytes) = true := hsz0
  have hW' := hW
  obtain ⟨p, q, hA0, hV, rfl, hfz, hnd⟩ := hW
  have hA : DataW.TrodAll enc Tryd.prog W 0 (fun _ => true) true Tryd.f9.params.toList args.toList ds p := hA0
  rw [Tryd.params9] at hA hval hsz
  obtain ⟨v0, vs0, d0, ds0, p0, q0, hargs, rfl, rfl, h0, r0⟩ := trodAll_cons hA
  obtain ⟨v1, vs1, d1, ds1, p1, q1, rfl, rfl, rfl, h1, r1⟩ := trodAll_cons r0
  obtain ⟨rfl, rfl, rfl⟩ := trodAll_nil r1
  obtain rfl : args = #[v0, v1] := by cases args; simp_all
  obtain ⟨rfl, rfl⟩ := trodVars_none hV
  obtain ⟨a0, rfl, rfl, rfl, w0⟩ := open_string Tryd.underlying9 (hval 0 9 v0 rfl rfl) h0
  have z0 : a0.size ≤ 140737488351232 := by
    have hs : a0.data.toList.length ≤ reachBytes := sized_string hsz (j := 0) rfl rfl
    rw [Lib.size_eq]
    exact hs
  obtain ⟨a1, rfl, rfl, rfl, w1⟩ := open_int Tryd.underlying5 (hval 1 5 v1 rfl rfl) h1
  have z1 : 0 ≤ a1 ∧ a1 < 256 := by
    simp [Lit.wf, IntKind.min, IntKind.max, IntKind.signed, IntKind.bits] at w1
    omega
  clear hA0 hval0 hsz0 hcond
  refine (textPlain_walk W hT a0 z0 a1 z1).mono fun e W' ⟨he, bel⟩ => ?_
  subst he
  exact ⟨_, rfl, _, _, _, [], _, [], hW', trodAll_mk1 (shut_bool Tryd.underlying4 _), (trodAll_cons_mk (shut_string Tryd.underlying9 w0) (trodAll_cons_mk (shut_int Tryd.underlying5 w1) trodAll_mk0)), rfl, bel.frame _, fun h => by cases h⟩

theorem textPlain_over : Rows.TextPlainSaid :=
  OpenClaim.holds_of_cond 9 Tryd.f9 rfl rfl rfl rfl rfl rfl rfl ⟨rfl, rfl, rfl, rfl, rfl⟩ rfl rfl rfl rfl rfl (by kernel_rfl) Tryd.func9 (by kernel_rfl)
    (of_decide_eq_true (by kernel_rfl)) (by unfold Func.isWrapper; first | (rw [if_pos (by decide +kernel)]; kernel_rfl) | (rw [if_neg (by decide +kernel)]; exact ⟨rfl, rfl⟩))
    (fun os started H enc _ F => by rw [OpenClaim.pre_eq_preRow]; exact textPlain_lifted os started H enc F)
theorem textPlain_plain (f : FuncId) (fn : Func) (hf : Tryd.pinned.checked.prog.funcNamed "warpbeam/warpbeamlaw02.TextPlain" = some f) (hfn : Tryd.pinned.checked.prog.funcs[f]? = some fn) :
    false = Tryd.pinned.checked.prog.looks [] ∧ ∀ (j : Nat) t, fn.params[j]? = some t → Tryd.pinned.checked.prog.wantsStandIn t = false := by
  obtain rfl : f = 9 := Option.some.inj ((show Tryd.prog.funcNamed "warpbeam/warpbeamlaw02.TextPlain" = some 9 by kernel_rfl).symm.trans hf) |>.symm
  obtain rfl : fn = Tryd.f9 := (Option.some.inj (Tryd.func9.symm.trans hfn)).symm
  refine ⟨by kernel_rfl, fun j t ht => ?_⟩
  rw [Tryd.params9] at ht
  have hm := Array.mem_of_getElem? ht
  simp only [List.mem_toArray, List.mem_cons, List.not_mem_nil, or_false] at hm
  rcases hm with rfl | rfl
  · exact (show Tryd.prog.wantsStandIn 9 = false by kernel_rfl)
  · exact (show Tryd.prog.wantsStandIn 5 = false by kernel_rfl)

/-- The statement. -/
theorem textPlain_proved : Rows.TextPlainCardSaid :=
  Claim7.holds_tied_plain_at .later [] _ _ _ _ textPlain_over (fun _ h => by cases h) (by kernel_rfl) (fun _ h => by cases h) textPlain_row_tie rfl ⟨rfl, rfl⟩ (by kernel_rfl) rfl textPlain_plain (by kernel_rfl)
#print axioms textPlain_proved
end Go.Proofs.YtkjjmdmaffeboaaDoor
