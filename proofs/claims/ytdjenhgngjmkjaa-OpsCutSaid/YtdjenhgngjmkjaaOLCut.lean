/- OpsCut: no instruction's bytes are the beginning of another one's: cut, they end too early. Of all instructions, of 400 bytes at most. -/
import Derived.Test.YtdjenhgngjmkjaaOOpen
import Derived.Test.YtdjenhgngjmkjaaOpsAw
import Derived.Test.YtdjenhgngjmkjaaOpsZ
import Derived.LoopN
import Derived.Deep.RegionHeld3
import Derived.Deep.CutRange
namespace Go.Proofs.Ytdjenhgngjmkjaa
open Go.ChangeShapes Go.WideShapes Go.ChangeAt Go.RowKit
open Go.ChangeMaps (open_string shut_string)
set_option linter.unusedVariables false
theorem res_drew {W : World} {g : Nat} {o : Obj} (h : W.heap[g]? = some o) : W.drew.heap[g]? = some o := h
theorem res_of {W W' : World} {g : Nat} {o : Obj} {row : Option Nat} (hg : W.grownBy W' row) (h : W.heap[g]? = some o) (hne : some g ≠ row) : W'.heap[g]? = some o := (hg.block g (lt_of_get h) hne).trans h
/-- A variable of the call's own, empty. -/
theorem res_facts {W : World} {g : Nat} {a b c d e f : Value} {T : TypeId} (h : W.heap[g]? = some (.cells #[a, b, c, d, e, f] T (0, 0))) : (∀ j, W.frozen? ⟨g, j, none⟩ = false) ∧ W.cell? ⟨g, 0, none⟩ = some a ∧ W.cell? ⟨g, 1, none⟩ = some b ∧ W.cell? ⟨g, 2, none⟩ = some c ∧ W.cell? ⟨g, 3, none⟩ = some d ∧ W.cell? ⟨g, 4, none⟩ = some e ∧ W.cell? ⟨g, 5, none⟩ = some f :=
  ⟨fun j => by simp [World.frozen?, h], room6 h (Ext.refl _)⟩
set_option maxRecDepth 100000 in
set_option maxHeartbeats 8000000 in
theorem opsCut_yes (w : World) (v1 v2 : Value) (x : In) (h1 : Row w .i64 v1 x.to) (h2 : Row w .i64 v2 x.ks) (hm : mayI x = true) (hel4 : (encB x).length ≤ 400) :
    Calls Try.prog 8 #[.agg (x.vals v1 v2)] w fun e w' => e = .returned (.bool true) ∧ Ext w w' := by
  have H1 := Lib.hid h1
  have H2 := Lib.hid h2
  obtain ⟨A1, k1, rfl, -⟩ := h1
  obtain ⟨A2, k2, rfl, -⟩ := h2
  have ha := (may_parts hm).1
  have HB := Lib.hid (fun W e => boxed (w := w) (W := W) (x := x) (v1 := .slice A1 x.to.length k1) (v2 := .slice A2 x.ks.length k2) e)
  obtain ⟨d0, d1, d2, d3, d4, d5⟩ := HB.out _ (Ext.refl _)
  have HE := Lib.hid (fun W (e : Ext w W) => Encode_any x _ _ W (H1.out.ext e) (H2.out.ext e))
  rw [show opsEnc x = (encB x, 0) by unfold opsEnc; rw [if_pos hm]] at HE
  unfold In.vals at HB HE d0 d1 d2 d3 d4 d5 ⊢
  obtain ⟨n, hn⟩ : ∃ n : Nat, x.a = n := ⟨x.a.toNat, by omega⟩
  have hn8 : n < 8192 := by omega
  have hmk : ∀ W, (Instr.makeSlice 22 (.int .i64 x.a) (.int .i64 x.a)).run Try.prog W = .ok (.slice (some ⟨W.heap.size, 0, none⟩) n n) (W.alloc (.cells (ZC n) 5)) := fun W => by rw [hn]; exact run_zeros n (by omega) W
  have hel := encB_len hm
  obtain ⟨L, hL⟩ : ∃ L, (encB x).length = L := ⟨_, rfl⟩
  have HD := Lib.hid (fun (k : Nat) (h1 : 1 ≤ k) (h2 : k < L) W u (r : Row W .u8 u (List.replicate n 0 ++ (encB x).take k)) => by
    have h := Decode_any u _ x.a W r
    rw [dec_short hm hn h1 (by rw [hL]; exact h2)] at h
    exact h)
  rw [hL] at hel hel4
  have HL := Lib.hid hL
  have HEL := Lib.hid hel
  have h400 : ¬ (400 : Int) < L := by omega
  clear hm ha hn hL hel
  go_enter Try.func8, Try.ntmps8
  go_wp2_with fail
  refine (HE.out _ ((Ext.refl w).alloc _)).mono ?_
  rintro e w1 ⟨v', rfl, ⟨b1, rfl, o1⟩, x1⟩
  obtain ⟨B1, c1, rfl, hr11, hr12, -⟩ := id o1.row
  unfold maxLen at hr12
  clear d0 d1 d2 d3 d4 d5
  have HO1 := Lib.hid o1
  rw [HL.out] at hr11 ⊢
  have X1 := ((Ext.refl w).alloc (.cells #[.int .i64 x.a, .int .i64 x.o, .int .i64 x.n, .int .i64 x.m, .slice A1 x.to.length k1, .slice A2 x.ks.length k2] 26)).trans x1
  have HX1 := Lib.hid x1
  clear x1 o1
  go_wp2_with fail
  go_loopw [5] (fun i wr => ∃ k : Nat, i = .int .i64 k ∧ 1 ≤ k ∧ k ≤ L ∧ Hid (Ext w1 wr)) (fun i _ => L - (intOf i).toNat)
  case atStart => exact ⟨1, rfl, by omega, HEL.out.1, Lib.hid (Ext.refl _)⟩
  case round =>
    obtain ⟨k, rfl, hk1, hk2, HX⟩ := hrel
    by_cases hlt : k < L
    · obtain ⟨d0, d1, d2, d3, d4, d5⟩ := HB.out _ (HX1.out.trans HX.out)
      clear d1 d2 d3 d4 d5
      have hk0 : (0 : Int) ≤ k := by omega
      have hkc : (k : Int) ≤ c1 := by omega
      have hrk := HO1.out.row.ext HX.out
      obtain ⟨A0, c0, hq, -⟩ := id hrk
      have hrk' : Row wr .u8 (.slice B1 k c1) ((encB x).take k) := Row.head (n := (encB x).length) hrk k (by rw [HL.out]; omega)
      have HRK := Lib.hid hrk'
      have HT := Lib.hid (show ((encB x).take k).length = k by rw [List.length_take, HL.out]; omega)
      clear hrk hrk' hq
      go_wp2_with fail
      go_cut [6, 7, 8] from 22 to 43 (fun s6 s7 s8 wx => s8 = .int .i64 3 ∧ Hid (Ext wr wx))
      case first =>
        have hn1 : w.heap.size + 1 ≤ wr.heap.size := by have := (HX1.out.trans HX.out).size; simpa using this
        have hn2 : ¬ w.heap.size = wr.heap.size := by omega
        have hn3 : ¬ w.heap.size = wr.heap.size + 1 := by omega
        have hlen : (List.replicate n (0 : Int)).length + ((encB x).take k).length ≤ 140737488355328 := by rw [List.length_replicate, HT.out]; omega
        go_region_held3 (fun w' => w'.cell? ⟨w.heap.size, 0, none⟩ = some (.int .i64 x.a)) (first | with_reducible assumption | go_keep) (first
          | ((refine step_app rfl _ _ wr.heap.size 22 5 _ 1 .u8 rfl Try.underlying22 info8 rfl (by omega) (.slice (some ⟨_, 0, none⟩) n n) (List.replicate n 0) rfl (by first | exact (own_zeros wr.heap.size wr n (by omega) (Nat.le_refl _)).ext (Ext.refl _).drew | exact ((own_zeros wr.heap.size wr n (by omega) (Nat.le_refl _)).ext ((Ext.refl _).alloc _)).ext (Ext.refl _).drew | exact (own_zeros2 wr.heap.size wr _ n (by omega) (Nat.le_refl _)).ext (Ext.refl _).drew) _ ((encB x).take k) rfl (by first | exact HRK.out.ext (((Ext.refl wr).alloc _).drew) | exact HRK.out.ext ((((Ext.refl wr).alloc _).alloc _).drew)) (by rw [Nat.mul_one]; exact hlen) (by simp; try omega) ?_); intro u2 w2 ho2 hg2 _; have X2 : Ext wr w2 := (by first | exact (((Ext.refl wr).alloc _).drew).grown hg2 (fun g hg => by simp [Value.ownBlock] at hg; omega) | exact ((((Ext.refl wr).alloc _).alloc _).drew).grown hg2 (fun g hg => by simp [Value.ownBlock] at hg; omega)); have tt0 := (HB.out _ ((HX1.out.trans HX.out).trans X2)).1; have hn4 : ¬ w.heap.size = w2.heap.size := (by have := X2.size; omega); (try have rA : w2.heap[wr.heap.size + 1]? = some (.cells #[.int .i64 0, .int .i64 0, .int .i64 0, .int .i64 0, .slice none 0 0, .slice none 0 0] 26) := res_of hg2 (res_drew (two_at wr _ _)) (by simp [Value.ownBlock])); (try have rB : w2.heap[wr.heap.size]? = some (.cells #[.int .i64 0, .int .i64 0, .int .i64 0, .int .i64 0, .slice none 0 0, .slice none 0 0] 26) := res_of hg2 (res_drew ((heap_alloc_old _ _ (by simp)).trans (heap_alloc_new wr _))) (by simp [Value.ownBlock])))
          | (go_at_call 13; (with_reducible refine (HD.out k hk1 hlt _ _ (by first | exact ho2.row | exact ho2.row.ext ((Ext.refl _).alloc _))).mono ?_); rintro e w4 ⟨v', rfl, ⟨u4, u5, rfl, o4, o5⟩, x4⟩; obtain ⟨B4, n4, c4, rfl⟩ := o4.slice; obtain ⟨B5, n5, c5, rfl⟩ := o5.slice; have X4 : Ext wr w4 := (by first | exact X2.trans x4 | exact X2.trans (((Ext.refl _).alloc _).trans x4)); have tt1 := (HB.out _ ((HX1.out.trans HX.out).trans X4)).1; have hn5 : ¬ w.heap.size = w4.heap.size := (by have := X4.size; omega); (try (have rC := res_facts ((x4.block _ (lt_of_get rA)).trans rA); obtain ⟨fz, z0, z1, z2, z3, z4, z5⟩ := rC; have tt2 := (HB.out _ (((HX1.out.trans HX.out).trans X4).grown (six_set (W := w4) (wr.heap.size + 1) (.int .i64 0) (.int .i64 0) (.int .i64 0) (.int .i64 0) (.slice B4 n4 c4) (.slice B5 n5 c5)) (fun g hg => by injection hg with hg; simp; omega))).1)); (try (have rC := res_facts ((x4.block _ (lt_of_get rB)).trans rB); obtain ⟨fz, z0, z1, z2, z3, z4, z5⟩ := rC; have tt2 := (HB.out _ (((HX1.out.trans HX.out).trans X4).grown (six_set (W := w4) (wr.heap.size) (.int .i64 0) (.int .i64 0) (.int .i64 0) (.int .i64 0) (.slice B4 n4 c4) (.slice B5 n5 c5)) (fun g hg => by injection hg with hg; simp; omega))).1)); (try (have rC := res_facts ((x4.block w2.heap.size (by simp)).trans (heap_alloc_new w2 _)); obtain ⟨fz, z0, z1, z2, z3, z4, z5⟩ := rC; have hsz2 := X2.size; have tt2 := (HB.out _ (((HX1.out.trans HX.out).trans X4).grown (six_set (W := w4) (w2.heap.size) (.int .i64 0) (.int .i64 0) (.int .i64 0) (.int .i64 0) (.slice B4 n4 c4) (.slice B5 n5 c5)) (fun g hg => by injection hg with hg; simp; omega))).1)); unfold In.vals; simp only [i0]))
        all_goals
          go_wp2_with fail
          go_meet
          have hs2 := X2.size
          first
            | (with_reducible refine ⟨rfl, Lib.hid (X4.alloc _)⟩)
            | (with_reducible refine ⟨rfl, Lib.hid (X4.grown (six_set _ _ _ _ _ _ _) ?_)⟩
               intro g hg
               injection hg with hg
               omega)
      case rest =>
        obtain ⟨rfl, HXc⟩ := hcut
        go_wp2_with fail
        go_roundw
        case rel => exact ⟨k + 1, by go_num, by omega, by omega, Lib.hid (HX.out.trans HXc.out)⟩
        case measure => simp [intOf]; omega
    · obtain rfl : k = L := by omega
      go_wp2_with fail
      refine (awake_any _).mono ?_
      rintro e w6 ⟨rfl, x6⟩
      go_wp2
      go_ret
      exact ⟨rfl, X1.trans (HX.out.trans x6)⟩
set_option maxRecDepth 100000 in
set_option maxHeartbeats 4000000 in
theorem opsCut_walk (w : World) (v1 v2 : Value) (x : In) (h1 : Row w .i64 v1 x.to) (h2 : Row w .i64 v2 x.ks) (hb : B64 x.a ∧ B64 x.o ∧ B64 x.n ∧ B64 x.m) (hz : x.to.length * 8 ≤ 140737488351232 ∧ x.ks.length * 8 ≤ 140737488351232) :
    Calls Try.prog 8 #[.agg (x.vals v1 v2)] w fun e w' => e = .returned (.bool true) ∧ Ext w w' := by
  by_cases hmm : mayI x = true ∧ (encB x).length ≤ 400
  · exact opsCut_yes w v1 v2 x h1 h2 hmm.1 hmm.2
  · have H1 := Lib.hid h1
    have H2 := Lib.hid h2
    obtain ⟨A1, k1, rfl, -⟩ := h1
    obtain ⟨A2, k2, rfl, -⟩ := h2
    have HB := Lib.hid (fun W e => boxed (w := w) (W := W) (x := x) (v1 := .slice A1 x.to.length k1) (v2 := .slice A2 x.ks.length k2) e)
    obtain ⟨d0, d1, d2, d3, d4, d5⟩ := HB.out _ (Ext.refl _)
    have HE := Lib.hid (fun W (e : Ext w W) => Encode_any x _ _ W (H1.out.ext e) (H2.out.ext e))
    obtain ⟨E, hE⟩ : ∃ E, opsEnc x = E := ⟨_, rfl⟩
    have hcase : E.2 = 2 ∨ (E.2 = 0 ∧ (400 : Int) < E.1.length) := by
      rw [← hE]
      unfold opsEnc
      by_cases hm : mayI x = true
      · rw [if_pos hm]
        have : ¬ (encB x).length ≤ 400 := fun h => hmm ⟨hm, h⟩
        exact .inr ⟨rfl, by simp only; omega⟩
      · rw [if_neg hm]
        exact .inl rfl
    rw [hE] at HE
    obtain ⟨l, er⟩ := E
    simp only at hcase HE
    unfold In.vals at HB HE d0 d1 d2 d3 d4 d5 ⊢
    clear hmm hE
    rcases hcase with rfl | ⟨rfl, hl⟩
    all_goals
      go_enter Try.func8, Try.ntmps8
      go_wp2_with fail
      refine (HE.out _ ((Ext.refl w).alloc _)).mono ?_
      rintro e w1 ⟨v', rfl, ⟨b1, rfl, o1⟩, x1⟩
      obtain ⟨B1, c1, rfl, -⟩ := o1.row
      go_wp2_with fail
      refine (awake_any _).mono ?_
      rintro e w6 ⟨rfl, x6⟩
      go_wp2
      go_ret
      exact ⟨rfl, ((Ext.refl w).alloc _).trans (x1.trans x6)⟩

set_option maxRecDepth 100000 in
theorem opsCut_lifted (os : Os) (started : os.Started) (H : Type) (enc : TypeId × Value → H) :
    ReturnsInHanded {} Try.checked os 8 .any (Rows.opsCutSpec.pre6 enc Try.prog Try.f8 Rows.opsCutRow.domain false) (Rows.opsCutSpec.post enc Try.prog Try.f8 false true false false) := by
  refine returnsInHanded_of_change_sized (C := Try.checked) own started (by kernel_rfl) Try.func8
    (ChangeSpec.witness6 (enc := enc) (C := Try.checked) false ⟨#[], #[.agg #[.int .i64 0, .int .i64 0, .int .i64 0, .int .i64 0, .slice none 0 0, .slice none 0 0]], []⟩ 8 (by kernel_rfl) (by kernel_rfl) (by kernel_rfl) (by kernel_rfl)) ?_
  intro W base args ds gs before hval0 hW hcnd hsz0 _
  have hval : ∀ (j : Nat) t v, Try.f8.params[j]? = some t → args[j]? = some v → Value.okWide Try.prog W .any base t v := hval0
  have hsz : (DataW.weightsEach Try.prog (Try.f8.params.toList ++ Rows.opsCutSpec.plain.varTypes Try.prog) (ds ++ gs)).all (· ≤ reachBytes) = true := hsz0
  have hW' := hW
  obtain ⟨p, q, hA0, hV, rfl, hfz, hnd⟩ := hW
  have hA : DataW.TrodAll enc Try.prog W 0 (fun _ => true) true Try.f8.params.toList args.toList ds p := hA0
  rw [Try.params8] at hA hval hsz
  obtain ⟨v0, vs0, d0, ds0, p0, q0, hargs, rfl, rfl, h0, r0⟩ := trodAll_cons hA
  obtain ⟨rfl, rfl, rfl⟩ := trodAll_nil r0
  obtain rfl : args = #[v0] := by cases args; simp_all
  obtain ⟨rfl, rfl⟩ := trodVars_none hV
  obtain ⟨cs0, rfl, -⟩ := okWide_struct Try.underlying26 (hval 0 26 v0 rfl rfl)
  have k0 := h0
  have lt0 : ∀ x ∈ p0, x.block < W.heap.size := by obtain ⟨m, hm⟩ := k0; exact DataW.trod_lt m _ _ _ hm
  obtain ⟨y0, u0, t0, e0, w0, x0, b0, z0⟩ : ∃ (y : In) (u t : Value), cs0 = y.vals u t ∧ Row W .i64 u y.to ∧ Row W .i64 t y.ks ∧ (B64 y.a ∧ B64 y.o ∧ B64 y.n ∧ B64 y.m) ∧ y.to.length * 8 ≤ 140737488351232 ∧ y.ks.length * 8 ≤ 140737488351232 := by
    obtain ⟨fuel, hf⟩ := h0
    obtain ⟨y, u, t, d1, d2, hcs, hu, ht, hb, hd, s1, s2⟩ := open_ins hf
    have hd : d0 = _ := hd
    have hw := weights_at hsz (j := 0) rfl (show _ = some d0 from rfl)
    rw [hd] at hw
    have hcs : cs0.toList = (y.vals u t).toList := by simpa [Value.cells] using hcs
    exact ⟨y, u, t, Array.toList_inj.1 hcs, hu, ht, hb, ins_weights s1 s2 hw⟩
  subst e0
  clear hA0 hval0 hsz0
  refine (opsCut_walk W u0 t0 y0 w0 x0 b0 z0).mono fun e W' ⟨he, bel⟩ => ?_
  subst he
  exact ⟨_, rfl, _, _, _, [], _, [], hW', trodAll_mk1 (shut_bool Try.underlying4 _), (trodAll_cons_mk (Below.trod laidOut (by kernel_rfl) (of_decide_eq_true (by kernel_rfl)) k0 bel lt0) trodAll_mk0), rfl, bel.frame _, fun h => by cases h⟩

theorem opsCut_over : Rows.opsCutRow.holds Try.pinned (OpenSpec.ofChange Rows.opsCutSpec) :=
  OpenClaim.holds_of_wide 8 Try.f8 rfl rfl rfl rfl rfl rfl rfl ⟨rfl, rfl, rfl, rfl, rfl⟩ rfl rfl rfl rfl rfl (by kernel_rfl) Try.func8 (by kernel_rfl)
    (of_decide_eq_true (by kernel_rfl)) (by unfold Func.isWrapper; first | (rw [if_pos (by decide +kernel)]; kernel_rfl) | (rw [if_neg (by decide +kernel)]; exact ⟨rfl, rfl⟩))
    (fun os started H enc _ => opsCut_lifted os started H enc)

/-- The statement. -/
theorem opsCut_proved : Rows.OpsCutSaid := opsCut_over
#print axioms opsCut_proved

end Go.Proofs.Ytdjenhgngjmkjaa
