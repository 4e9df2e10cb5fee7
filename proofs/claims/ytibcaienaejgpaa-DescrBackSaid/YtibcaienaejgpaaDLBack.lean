/- DescrBack: what was written is read as it was. Of every proto. -/
import Derived.Test.YtibcaienaejgpaaDOpen
import Derived.Test.YtibcaienaejgpaaDescY
namespace Go.Proofs.Ytibcaienaejgpaa
open Go.ChangeShapes Go.WideShapes Go.ChangeAt Go.RowKit
open Go.ChangeMaps (open_string shut_string)
set_option linter.unusedVariables false
theorem AtT.made (w : World) (t : Ty) {w' : World} (x : Ext (w.alloc (.cells t.vals 23)) w') : AtT w' w.heap.size t ∧ w.heap.size < w'.heap.size :=
  ⟨(AtT.of (t := t) (heap_alloc_new w _)).ext x (by simp), by have := x.size; simp at this; omega⟩
set_option maxRecDepth 100000 in
set_option maxHeartbeats 8000000 in
theorem descrBack_walk (w : World) (v : Value) (p : Pr) (h : RowT w v p.args) (hret : p.ret.s.length ≤ 140737488351232) (hl : p.args.length * 24 ≤ 140737488351232) : Calls Try.prog 6 #[.agg (p.vals v)] w (fun e w' => e = .returned (.bool true) ∧ Ext w w') := by
  have hbs0 := bs_nil []
  have hWP := fun W (x : Ext w W) => WriteProto_any v p W (h.ext x) hret
  have hCP := fun W (x : Ext w W) => CheckProto_any v p W (h.ext x) hret
  have hrow := Lib.hid h
  obtain ⟨A, c, rfl, hc, hm, ha, hf, hg⟩ := h
  unfold maxLen at hm
  have hf := Lib.hid hf
  obtain ⟨n, hn⟩ : ∃ n, n = p.args.length := ⟨_, rfl⟩
  rw [← hn] at hc hg hl hWP hCP hrow ⊢
  have Hn := Lib.hid hn
  clear ha
  by_cases h0 : checkP p = 0
  · have hn16 : n ≤ 16 := by
      rw [hn]
      exact Nat.le_of_not_lt (fun hh => by rw [checkP_long hh] at h0; cases h0)
    have HA := Lib.hid (ok64 h0)
    have hP := fun W => Proto_any (textP p) (by
      have h1 := ret64 h0
      have h2 := flat_len64 p.args (ok64 h0)
      have : p.args.length * 67 ≤ 16 * 67 := Nat.mul_le_mul_right _ (by omega)
      simp only [textP, List.length_cons, List.length_append]
      omega) W
    unfold ProtoAns at hP
    rw [proto_text h0] at hP
    rw [writeP_yes h0] at hWP
    rw [h0] at hCP
    have hS := fun W v2 (x : Ext w W) (r : RowT W v2 p.args) => SameProto_any (.slice A n c) v2 p p W (hrow.out.ext x) r
    rw [show eqP p p = true by simp [eqP]] at hS
    obtain ⟨s, hs⟩ : ∃ s, s = textP p := ⟨_, rfl⟩
    rw [← hs] at hP hWP
    unfold Pr.vals at hP hWP hCP hS ⊢
    have HWP := Lib.hid hWP
    have HCP := Lib.hid hCP
    have HP := Lib.hid hP
    have HS := Lib.hid hS
    clear hWP hCP hP hS hs h0 hn
    go_enter Try.func6, Try.ntmps6
    go_wp2_with fail
    refine (works_any _).mono ?_
    rintro e w1 ⟨rfl, x1⟩
    have hp1 := AtP.ext (AtP.of (heap_alloc_new w (.cells (p.vals (.slice A n c)) 29))) x1 (by simp)
    have X1 := Lib.hid (((Ext.refl w).alloc (.cells (p.vals (.slice A n c)) 29)).trans x1)
    have hl1 : w.heap.size < w1.heap.size := by have := x1.size; simp at this; omega
    clear x1
    obtain ⟨p0, p1, p2⟩ := id hp1
    go_wp2_with fail
    refine (HWP.out _ X1.out).mono ?_
    rintro e w2 ⟨rfl, x2⟩
    have X2 := Lib.hid (X1.out.trans x2)
    have hp2 := hp1.ext x2 hl1
    have hl2 : w.heap.size < w2.heap.size := Nat.lt_of_lt_of_le hl1 x2.size
    clear p0 p1 p2 x2 hp1
    obtain ⟨p0, p1, p2⟩ := id hp2
    go_wp2_with fail
    refine (HCP.out _ X2.out).mono ?_
    rintro e w3 ⟨rfl, x3⟩
    have X3 := Lib.hid (X2.out.trans x3)
    have hp3 := hp2.ext x3 hl2
    have hl3 : w.heap.size < w3.heap.size := Nat.lt_of_lt_of_le hl2 x3.size
    clear p0 p1 p2 x3 hp2
    go_wp2_with fail
    refine (HP.out _).mono ?_
    rintro e w4 ⟨v4, rfl, hr4, x4⟩
    have X4 := Lib.hid (X3.out.trans x4)
    have hp4 := hp3.ext x4 hl3
    have hl4 : w.heap.size < w4.heap.size := Nat.lt_of_lt_of_le hl3 x4.size
    obtain ⟨A4, k4, hv4, hk4, hm4⟩ := hr4.cut
    rw [← Hn.out] at hv4 hk4
    subst hv4
    have R4 := Lib.hid (hr4.ext ((Ext.refl _).alloc (.cells (p.vals (.slice A4 n k4)) 29)))
    have X4' := Lib.hid (X4.out.alloc (.cells (p.vals (.slice A4 n k4)) 29))
    have hp4' := hp4.ext ((Ext.refl _).alloc (.cells (p.vals (.slice A4 n k4)) 29)) hl4
    clear x4 hr4 hp3
    obtain ⟨p0, p1, p2⟩ := id hp4
    go_wp2_with fail
    refine (HS.out _ _ X4'.out R4.out).mono ?_
    rintro e w5 ⟨rfl, x5⟩
    have X5 := Lib.hid (X4'.out.trans x5)
    have P5 := Lib.hid (hp4'.ext x5 (by simp; omega))
    have hp5 : w.heap.size < w5.heap.size := by have := x5.size; simp at this; omega
    clear p0 p1 p2 x5 hp4 hp4'
    go_wp2
    go_loopw [7] (fun i wr => ∃ k : Nat, k ≤ n ∧ i = .int .i64 k ∧ Hid (Ext w wr) ∧ Hid (AtP wr w.heap.size p (.slice A n c)) ∧ w.heap.size < wr.heap.size) (fun i _ => n - (intOf i).toNat)
    case atStart => exact ⟨0, by omega, rfl, X5, P5, hp5⟩
    case round =>
      obtain ⟨k, hk, rfl, Hx, Hp, hpl⟩ := hrel
      have hp := Hp.out
      obtain ⟨p0, p1, p2⟩ := id hp
      by_cases hlt : k < n
      · have ho := HA.out _ (gt_mem (l := p.args) (j := k) (by have := Hn.out; omega))
        have hk40 : (k : Int) < 40 := by omega
        obtain ⟨bk, ok, rfl, hbk, hx1⟩ := hg (by omega)
        obtain ⟨y0, y1⟩ := (hx1 k hlt).ext Hx.out hbk
        clear hx1
        have hsl := (hf.out _ (gt_mem (l := p.args) (j := k) (by have := Hn.out; omega))).2
        have hW := fun W => WriteType_any (gt p.args k) W hsl
        have hC := fun W => CheckType_any (gt p.args k) W hsl
        have hI := fun W => is_yes (gt p.args k) ho W
        rw [show writeT (gt p.args k) = (textT (gt p.args k), 0) by rw [writeT, ho]; rfl] at hW
        rw [checkT_yes ho] at hC
        obtain ⟨t, ht⟩ : ∃ t, t = gt p.args k := ⟨_, rfl⟩
        rw [← ht] at hW hC hI y0 y1
        unfold Ty.vals at hW hC hI
        have HW := Lib.hid hW
        have HC := Lib.hid hC
        have HI := Lib.hid hI
        clear hW hC hI ho ht
        go_wp2_with fail
        refine (HW.out _).mono ?_
        rintro e w5 ⟨rfl, x5⟩
        obtain ⟨a5, hlt5⟩ := AtT.made _ t x5
        have X5 := Lib.hid ((Hx.out.alloc (.cells t.vals 23)).trans x5)
        have P5 := Lib.hid (hp.ext (((Ext.refl _).alloc (.cells t.vals 23)).trans x5) hpl)
        have hp5 : w.heap.size < w5.heap.size := by have := x5.size; simp at this; omega
        clear x5
        obtain ⟨z0, z1⟩ := id a5
        go_wp2_with fail
        refine (HC.out _).mono ?_
        rintro e w6 ⟨rfl, x6⟩
        have X6 := Lib.hid (X5.out.trans x6)
        have P6 := Lib.hid (P5.out.ext x6 hp5)
        have a6 := a5.ext x6 hlt5
        have hp6 : w.heap.size < w6.heap.size := Nat.lt_of_lt_of_le hp5 x6.size
        clear z0 z1 x6 a5
        obtain ⟨z0, z1⟩ := id a6
        go_wp2_with fail
        refine (HI.out _).mono ?_
        rintro e w7 ⟨rfl, x7⟩
        have X7 := Lib.hid (X6.out.trans x7)
        have P7 := Lib.hid (P6.out.ext x7 hp6)
        have hp7 : w.heap.size < w7.heap.size := Nat.lt_of_lt_of_le hp6 x7.size
        clear x7
        go_wp2
        exact ⟨⟨k + 1, by omega, by go_num, X7, P7, hp7⟩, by simp [intOf]; omega⟩
      · obtain rfl : k = n := by omega
        go_wp2
        go_ret
        exact ⟨rfl, Hx.out⟩
  · rw [writeP_no h0] at hWP
    obtain ⟨e0, he0⟩ : ∃ e0, e0 = checkP p := ⟨_, rfl⟩
    rw [← he0] at h0 hWP hCP
    have hb : (e0 == 0) = false := by simpa using h0
    unfold Pr.vals at hWP hCP ⊢
    have HWP := Lib.hid hWP
    have HCP := Lib.hid hCP
    clear hWP hCP he0 h0 hn
    go_enter Try.func6, Try.ntmps6
    go_wp2_with fail
    refine (works_any _).mono ?_
    rintro e w1 ⟨rfl, x1⟩
    have hp1 := AtP.ext (AtP.of (heap_alloc_new w (.cells (p.vals (.slice A n c)) 29))) x1 (by simp)
    have X1 := Lib.hid (((Ext.refl w).alloc (.cells (p.vals (.slice A n c)) 29)).trans x1)
    have hl1 : w.heap.size < w1.heap.size := by have := x1.size; simp at this; omega
    clear x1
    obtain ⟨p0, p1, p2⟩ := id hp1
    go_wp2_with fail
    refine (HWP.out _ X1.out).mono ?_
    rintro e w2 ⟨rfl, x2⟩
    have X2 := Lib.hid (X1.out.trans x2)
    have hp2 := hp1.ext x2 hl1
    have hl2 : w.heap.size < w2.heap.size := Nat.lt_of_lt_of_le hl1 x2.size
    clear p0 p1 p2 x2 hp1
    obtain ⟨p0, p1, p2⟩ := id hp2
    go_wp2_with fail
    refine (HCP.out _ X2.out).mono ?_
    rintro e w3 ⟨rfl, x3⟩
    have X3 := Lib.hid (X2.out.trans x3)
    have P3 := Lib.hid (hp2.ext x3 hl2)
    have hp3 : w.heap.size < w3.heap.size := Nat.lt_of_lt_of_le hl2 x3.size
    clear p0 p1 p2 x3 hp2
    go_wp2
    go_loopw [7] (fun i wr => ∃ k : Nat, k ≤ n ∧ i = .int .i64 k ∧ Hid (Ext w wr) ∧ Hid (AtP wr w.heap.size p (.slice A n c)) ∧ w.heap.size < wr.heap.size) (fun i _ => n - (intOf i).toNat)
    case atStart => exact ⟨0, by omega, rfl, X3, P3, hp3⟩
    case round =>
      obtain ⟨k, hk, rfl, Hx, Hp, hpl⟩ := hrel
      have hp := Hp.out
      obtain ⟨p0, p1, p2⟩ := id hp
      by_cases hlt : k < n
      · by_cases hk40 : (k : Int) < 40
        · obtain ⟨bk, ok, rfl, hbk, hx1⟩ := hg (by omega)
          obtain ⟨y0, y1⟩ := (hx1 k hlt).ext Hx.out hbk
          clear hx1
          have hsl := (hf.out _ (gt_mem (l := p.args) (j := k) (by have := Hn.out; omega))).2
          have hW := fun W => WriteType_any (gt p.args k) W hsl
          have hC := fun W => CheckType_any (gt p.args k) W hsl
          cases ho : okT (gt p.args k)
          · rw [show writeT (gt p.args k) = ([], 2) by rw [writeT, ho]; rfl] at hW
            rw [checkT_no ho] at hC
            obtain ⟨t, ht⟩ : ∃ t, t = gt p.args k := ⟨_, rfl⟩
            rw [← ht] at hW hC y0 y1
            unfold Ty.vals at hW hC
            have HW := Lib.hid hW
            have HC := Lib.hid hC
            have hbs0 := bs_nil []
            clear hW hC ho ht
            go_wp2_with fail
            refine (HW.out _).mono ?_
            rintro e w5 ⟨rfl, x5⟩
            obtain ⟨a5, hlt5⟩ := AtT.made _ t x5
            have X5 := Lib.hid ((Hx.out.alloc (.cells t.vals 23)).trans x5)
            have P5 := Lib.hid (hp.ext (((Ext.refl _).alloc (.cells t.vals 23)).trans x5) hpl)
            have hp5 : w.heap.size < w5.heap.size := by have := x5.size; simp at this; omega
            clear x5
            obtain ⟨z0, z1⟩ := id a5
            go_wp2_with fail
            refine (HC.out _).mono ?_
            rintro e w6 ⟨rfl, x6⟩
            have X6 := Lib.hid (X5.out.trans x6)
            have P6 := Lib.hid (P5.out.ext x6 hp5)
            have hp6 : w.heap.size < w6.heap.size := Nat.lt_of_lt_of_le hp5 x6.size
            clear z0 z1 x6 a5
            go_wp2
            exact ⟨⟨k + 1, by omega, by go_num, X6, P6, hp6⟩, by simp [intOf]; omega⟩
          · have hI := fun W => is_yes (gt p.args k) ho W
            rw [show writeT (gt p.args k) = (textT (gt p.args k), 0) by rw [writeT, ho]; rfl] at hW
            rw [checkT_yes ho] at hC
            obtain ⟨t, ht⟩ : ∃ t, t = gt p.args k := ⟨_, rfl⟩
            rw [← ht] at hW hC hI y0 y1
            unfold Ty.vals at hW hC hI
            have HW := Lib.hid hW
            have HC := Lib.hid hC
            have HI := Lib.hid hI
            clear hW hC hI ho ht
            go_wp2_with fail
            refine (HW.out _).mono ?_
            rintro e w5 ⟨rfl, x5⟩
            obtain ⟨a5, hlt5⟩ := AtT.made _ t x5
            have X5 := Lib.hid ((Hx.out.alloc (.cells t.vals 23)).trans x5)
            have P5 := Lib.hid (hp.ext (((Ext.refl _).alloc (.cells t.vals 23)).trans x5) hpl)
            have hp5 : w.heap.size < w5.heap.size := by have := x5.size; simp at this; omega
            clear x5
            obtain ⟨z0, z1⟩ := id a5
            go_wp2_with fail
            refine (HC.out _).mono ?_
            rintro e w6 ⟨rfl, x6⟩
            have X6 := Lib.hid (X5.out.trans x6)
            have P6 := Lib.hid (P5.out.ext x6 hp5)
            have a6 := a5.ext x6 hlt5
            have hp6 : w.heap.size < w6.heap.size := Nat.lt_of_lt_of_le hp5 x6.size
            clear z0 z1 x6 a5
            obtain ⟨z0, z1⟩ := id a6
            go_wp2_with fail
            refine (HI.out _).mono ?_
            rintro e w7 ⟨rfl, x7⟩
            have X7 := Lib.hid (X6.out.trans x7)
            have P7 := Lib.hid (P6.out.ext x7 hp6)
            have hp7 : w.heap.size < w7.heap.size := Nat.lt_of_lt_of_le hp6 x7.size
            clear x7
            go_wp2
            exact ⟨⟨k + 1, by omega, by go_num, X7, P7, hp7⟩, by simp [intOf]; omega⟩
        · go_wp2
          go_ret
          exact ⟨rfl, Hx.out⟩
      · obtain rfl : k = n := by omega
        go_wp2
        go_ret
        exact ⟨rfl, Hx.out⟩

set_option maxRecDepth 100000 in
theorem descrBack_lifted (os : Os) (started : os.Started) (H : Type) (enc : TypeId × Value → H) :
    ReturnsInHanded {} Try.checked os 6 .any (Rows.descrBackSpec.pre6 enc Try.prog Try.f6 Rows.descrBackRow.domain false) (Rows.descrBackSpec.post enc Try.prog Try.f6 false true false false) := by
  refine returnsInHanded_of_change_sized (C := Try.checked) own started (by kernel_rfl) Try.func6
    (ChangeSpec.witness6 (enc := enc) (C := Try.checked) false ⟨#[], #[.agg #[.int .i64 0, .string ⟨#[]⟩, .slice none 0 0]], []⟩ 8 (by kernel_rfl) (by kernel_rfl) (by kernel_rfl) (by kernel_rfl)) ?_
  intro W base args ds gs before hval0 hW hcnd hsz0 _
  have hval : ∀ (j : Nat) t v, Try.f6.params[j]? = some t → args[j]? = some v → Value.okWide Try.prog W .any base t v := hval0
  have hsz : (DataW.weightsEach Try.prog (Try.f6.params.toList ++ Rows.descrBackSpec.plain.varTypes Try.prog) (ds ++ gs)).all (· ≤ reachBytes) = true := hsz0
  have hW' := hW
  obtain ⟨p, q, hA0, hV, rfl, hfz, hnd⟩ := hW
  have hA : DataW.TrodAll enc Try.prog W 0 (fun _ => true) true Try.f6.params.toList args.toList ds p := hA0
  rw [Try.params6] at hA hval hsz
  obtain ⟨v0, vs0, d0, ds0, p0, q0, hargs, rfl, rfl, h0, r0⟩ := trodAll_cons hA
  obtain ⟨rfl, rfl, rfl⟩ := trodAll_nil r0
  obtain rfl : args = #[v0] := by cases args; simp_all
  obtain ⟨rfl, rfl⟩ := trodVars_none hV
  obtain ⟨cs0, rfl, -⟩ := okWide_struct Try.underlying29 (hval 0 29 v0 rfl rfl)
  have k0 := h0
  have lt0 : ∀ x ∈ p0, x.block < W.heap.size := by obtain ⟨m, hm⟩ := k0; exact DataW.trod_lt m _ _ _ hm
  obtain ⟨a0, u0, e0, w0, z0, y0⟩ : ∃ (p : Pr) (u : Value), cs0 = p.vals u ∧ RowT W u p.args ∧ p.ret.s.length ≤ 140737488351232 ∧ p.args.length * 24 ≤ 140737488351232 := by
    obtain ⟨fuel, hf⟩ := h0
    obtain ⟨A, n, c, p, sp, da, hcs, hln, hrow, hd, hda⟩ := open_protoV hf
    have hd : d0 = _ := hd
    have hw := weights_at hsz (j := 0) rfl (show _ = some d0 from rfl)
    rw [hd] at hw
    obtain ⟨hr, hw2⟩ := proto_weights hw
    have hcs : cs0.toList = (p.vals (.slice A n c)).toList := by simpa [Value.cells] using hcs
    rcases hda with ⟨hnil, rfl⟩ | rfl
    · exact ⟨p, _, Array.toList_inj.1 hcs, hrow (fun y hy => by rw [hnil] at hy; cases hy), hr, by rw [hnil]; simp⟩
    · obtain ⟨b1, b2⟩ := types_weights hw2
      exact ⟨p, _, Array.toList_inj.1 hcs, hrow b2, hr, b1⟩
  subst e0
  clear hA0 hval0 hsz0
  refine (descrBack_walk W u0 a0 w0 z0 y0).mono fun e W' ⟨he, bel⟩ => ?_
  subst he
  exact ⟨_, rfl, _, _, _, [], _, [], hW', trodAll_mk1 (shut_bool Try.underlying4 _), (trodAll_cons_mk (Below.trod laidOut (by kernel_rfl) (of_decide_eq_true (by kernel_rfl)) k0 bel lt0) trodAll_mk0), rfl, bel.frame _, fun h => by cases h⟩

theorem descrBack_over : Rows.descrBackRow.holds Try.pinned (OpenSpec.ofChange Rows.descrBackSpec) :=
  OpenClaim.holds_of_wide 6 Try.f6 rfl rfl rfl rfl rfl rfl rfl ⟨rfl, rfl, rfl, rfl, rfl⟩ rfl rfl rfl rfl rfl (by kernel_rfl) Try.func6 (by kernel_rfl)
    (of_decide_eq_true (by kernel_rfl)) (by unfold Func.isWrapper; first | (rw [if_pos (by decide +kernel)]; kernel_rfl) | (rw [if_neg (by decide +kernel)]; exact ⟨rfl, rfl⟩))
    (fun os started H enc _ => descrBack_lifted os started H enc)

/-- The statement. -/
theorem descrBack_proved : Rows.DescrBackSaid := descrBack_over
#print axioms descrBack_proved
end Go.Proofs.Ytibcaienaejgpaa
