/- DescrApart: no type's text is the beginning of another one's; types one behind the other are told apart, as a proto's. Of all lists of types. -/
import Derived.Test.YtibcaienaejgpaaDOpen
import Derived.Test.YtibcaienaejgpaaDescY
import Derived.BigQuiet
import Derived.Deep.QuietTactic
namespace Go.Proofs.Ytibcaienaejgpaa
open Go.ChangeShapes Go.WideShapes Go.ChangeAt Go.RowKit
open Go.ChangeMaps (open_string shut_string)
set_option linter.unusedVariables false
theorem RowT.head {w : World} {A : Option Addr} {n c : Nat} {l : List Ty} (h : RowT w (.slice A n c) l) (m : Nat) (hm : m ≤ l.length) :
    RowT w (.slice A m c) (l.take m) := by
  obtain ⟨A, c', h1, h2, h3, h4, h5, h6⟩ := h
  injection h1 with e1 e2 e3
  subst e1 e2 e3
  have hlen : (l.take m).length = m := by simp; omega
  refine ⟨_, _, by rw [hlen], by omega, h3, h4, fun x hx => h5 x (List.mem_of_mem_take hx), fun hl => ?_⟩
  obtain ⟨b, o, ha, hb, hc⟩ := h6 (by omega)
  refine ⟨b, o, ha, hb, fun j hj => ?_⟩
  have e : gt (l.take m) j = gt l j := by simp [gt, show j < m by omega]
  rw [e]
  exact hc j (by omega)
theorem RowT.none_ {w : World} {A : Option Addr} {c : Nat} (ha : A = none → c = 0) (hc : c ≤ maxLen) : RowT w (.slice A 0 c) [] :=
  ⟨A, c, rfl, Nat.zero_le _, hc, ha, (fun _ h => by cases h), fun h => by simp at h⟩
theorem head_sliceT {w : World} {v : Value} {b : List Ty} (h : RowT w v b) (q : Nat) (hq : q ≤ b.length) :
    ∃ v2, (∀ W, (Instr.sliceAt 27 v none (some (.int .i64 q)) none).run Try.prog W = .ok v2 W) ∧ (∀ W, (Instr.slice 27 v none (some (.int .i64 q)) none).run Try.prog W = .ok v2 W) ∧ RowT w v2 (b.take q) := by
  have hk := h
  obtain ⟨A, c, rfl, h2, h3, h4, h5, h6⟩ := h
  have k1 : ¬ c < q := by omega
  have k3 : q ≤ c := by omega
  by_cases hb : b.length = 0
  · have hq0 : q = 0 := by omega
    subst hq0
    have e : b = [] := List.eq_nil_of_length_eq_zero hb
    subst e
    by_cases hc : c = 0
    · subst hc
      exact ⟨.slice A 0 0, fun W => by go_simp, fun W => by go_simp, RowT.none_ (fun _ => rfl) h3⟩
    · obtain ⟨ad, rfl⟩ : ∃ ad, A = some ad := by
        cases A with
        | none => exact absurd (h4 rfl) hc
        | some ad => exact ⟨ad, rfl⟩
      exact ⟨.slice (some (ad.add 0)) 0 c, fun W => by go_simp, fun W => by go_simp, RowT.none_ (fun h => by cases h) h3⟩
  · obtain ⟨bl, o, rfl, h7, h8⟩ := h6 (by omega)
    have k2 : ¬ c = 0 := by omega
    clear h6 h8
    exact ⟨_, fun W => by go_simp, fun W => by go_simp, RowT.head hk q hq⟩
theorem quiet_left {P : Program} {f : FuncId} {args : Array Value} {w : World} {n : Nat} {v : Value}
    (h : Calls P f args (w.drewN n) fun e w' => e = .returned v ∧ w' = w.drewN n) : Calls P f args (w.drewN n) fun e w'' => e = .returned v ∧ ∃ m, w'' = w.drewN m :=
  h.mono fun _ _ ⟨he, hm⟩ => ⟨he, n, hm⟩
theorem apart_eq {a b : Ty} (ha : okT a = true) (hb : okT b = true) : Lib.hasPrefix (bs (textT a)).data.toList (bs (textT b)).data.toList = eqT a b := by
  show (textT b).isPrefixOf (textT a) = eqT a b
  by_cases h : a = b
  · subst h
    simp [eqT]
  · rw [show eqT a b = false by simp [eqT, h]]
    rw [Bool.eq_false_iff]
    intro hp
    exact h (text_apart ha hb (List.isPrefixOf_iff_prefix.1 hp))
set_option maxRecDepth 100000 in
set_option maxHeartbeats 8000000 in
theorem descrApart_walk (w : World) (v : Value) (l : List Ty) (h : RowT w v l) (hl : l.length * 24 ≤ 140737488351232) : Calls Try.prog 8 #[v] w (fun e w' => e = .returned (.bool true) ∧ Ext w w') := by
  obtain ⟨q, hq⟩ : ∃ q, q = min l.length 16 := ⟨_, rfl⟩
  obtain ⟨v2, s1, s2, hr⟩ := head_sliceT h q (by omega)
  obtain ⟨A0, c0, rfl, -, hm0, -⟩ := h
  unfold maxLen at hm0
  have hmin : min (l.length : Int) 16 = (q : Int) := by omega
  obtain ⟨L, hL⟩ : ∃ L, L = l.take q := ⟨_, rfl⟩
  have hLq : L.length = q := by rw [hL]; simp; omega
  rw [← hL] at hr
  have hq16 : q ≤ 16 := by omega
  obtain ⟨A, c, rfl, hc, hm, ha, hf, hg⟩ := hr
  unfold maxLen at hm
  rw [hLq] at hc hg s1 s2
  have HLq := Lib.hid hLq
  have hf := Lib.hid hf
  obtain ⟨n0, hn0⟩ : ∃ n0, n0 = l.length := ⟨_, rfl⟩
  rw [← hn0] at hmin s1 s2 ⊢
  clear hL ha hLq hq hl hn0
  go_enter Try.func8, Try.ntmps8
  go_wp2_with fail
  refine (works_any _).mono ?_
  rintro e w1 ⟨rfl, x1⟩
  have X1 := Lib.hid x1
  clear x1
  go_wp2
  go_loopw [3, 4] (fun s i wr => ∃ k : Nat, k ≤ q ∧ i = .int .i64 k ∧ Hid (s = .string (bs (40 :: (L.take k).flatMap textT))) ∧ Hid (∀ j, j < k → okT (gt L j) = true) ∧ Hid (Ext w wr)) (fun _ i _ => q - (intOf i).toNat)
  case atStart => exact ⟨0, by omega, rfl, Lib.hid rfl, Lib.hid (fun j h => absurd h (Nat.not_lt_zero _)), X1⟩
  case round =>
    obtain ⟨k, hk, rfl, Hs, Hok, Hx⟩ := hrel
    obtain ⟨al, hal⟩ : ∃ al, al = (40 : UInt8) :: (L.take k).flatMap textT := ⟨_, rfl⟩
    have hs := Hs.out
    rw [← hal] at hs
    subst hs
    have Hal := Lib.hid hal
    clear hal Hs
    by_cases hlt : k < q
    · obtain ⟨bk, ok, rfl, hbk, hx1⟩ := hg (by omega)
      have HCell := Lib.hid hx1
      obtain ⟨y0, y1⟩ := (hx1 k hlt).ext Hx.out hbk
      clear hx1
      have hsl := (hf.out _ (gt_mem (l := L) (j := k) (by have := HLq.out; omega))).2
      have hW := fun W => WriteType_any (gt L k) W hsl
      cases ho : okT (gt L k)
      · rw [show writeT (gt L k) = ([], 2) by rw [writeT, ho]; rfl] at hW
        unfold Ty.vals at hW
        have HW := Lib.hid hW
        clear hW ho
        go_wp2_with fail
        refine (HW.out _).mono ?_
        rintro e w5 ⟨rfl, x5⟩
        go_wp2
        go_ret
        exact ⟨rfl, Hx.out.trans x5⟩
      · have HO := Lib.hid ho
        rw [show writeT (gt L k) = (textT (gt L k), 0) by rw [writeT, ho]; rfl] at hW
        have hd := name64 ho
        have ha64 : al.length ≤ 1 + 16 * 67 := by
          rw [Hal.out]
          have h2 := flat_len64 (L.take k) (fun t ht => by
            obtain ⟨j, hj, rfl⟩ := List.mem_iff_getElem.1 ht
            have hjk : j < k := by simp at hj; omega
            have := Hok.out j hjk
            rw [gt, List.getD_eq_getElem?_getD, List.getElem?_eq_getElem (by simp at hj; omega)] at this
            rw [List.getElem_take]
            exact this)
          have h3 : (L.take k).length * 67 ≤ 16 * 67 := Nat.mul_le_mul_right _ (by simp; omega)
          simp only [List.length_cons]
          omega
        have e1 : (40 : UInt8) :: (L.take (k + 1)).flatMap textT = al ++ textT (gt L k) := by
          rw [Hal.out, takeT_one (by have := HLq.out; omega), List.flatMap_append]
          simp
        have E1 := Lib.hid e1
        obtain ⟨d, hD⟩ : ∃ d, d = textT (gt L k) := ⟨_, rfl⟩
        rw [← hD] at hW E1 hd
        have hadd : ∀ W, (Op.stringOp .add (bs al) (bs d)).run Try.prog W = .ok (.string (bs (al ++ d))) W := fun W => add_bs (bs al) (bs d) al d rfl rfl (by omega) W
        unfold Ty.vals at hW
        have HW := Lib.hid hW
        have HD := Lib.hid hD
        clear hW ho hD hd ha64 e1
        go_wp2_with fail
        refine (HW.out _).mono ?_
        rintro e w5 ⟨rfl, x5⟩
        have X5 := Lib.hid (Hx.out.trans x5)
        clear x5 y0 y1
        go_wp2
        go_loopw [7] (fun i wr2 => ∃ m : Nat, m ≤ k ∧ i = .int .i64 m ∧ Hid (Ext w wr2)) (fun i _ => k - (intOf i).toNat)
        case atStart => exact ⟨0, by omega, rfl, X5⟩
        case round =>
          obtain ⟨m, hmk, rfl, Hx2⟩ := hrel
          by_cases hltm : m < k
          · obtain ⟨u0, u1⟩ := (HCell.out m (by omega)).ext Hx2.out hbk
            have hslm := (hf.out _ (gt_mem (l := L) (j := m) (by have := HLq.out; omega))).2
            have hom := Hok.out m hltm
            have hWm := fun W => WriteType_any (gt L m) W hslm
            rw [show writeT (gt L m) = (textT (gt L m), 0) by rw [writeT, hom]; rfl] at hWm
            have hpre := fun W => Try.strings_HasPrefix (bs (textT (gt L k))) (bs (textT (gt L m))) W
            simp only [apart_eq HO.out hom] at hpre
            have hne := fun W => run_eqT (gt L k) (gt L m) W
            obtain ⟨eb, heb⟩ : ∃ eb, eb = eqT (gt L k) (gt L m) := ⟨_, rfl⟩
            rw [← heb] at hpre hne
            rw [← HD.out] at hpre
            obtain ⟨dm, hDm⟩ : ∃ dm, dm = textT (gt L m) := ⟨_, rfl⟩
            rw [← hDm] at hWm hpre
            unfold Ty.vals at hWm hne
            have HWm := Lib.hid hWm
            have HPre := Lib.hid hpre
            clear hWm hpre hom heb hDm
            go_wp2_with fail
            refine (HWm.out _).mono ?_
            rintro e w6 ⟨rfl, x6⟩
            have X6 := Lib.hid (Hx2.out.trans x6)
            clear u0 u1 x6
            obtain ⟨u0, u1⟩ := (HCell.out m (by omega)).ext X6.out hbk
            obtain ⟨y0, y1⟩ := (HCell.out k hlt).ext X6.out hbk
            go_wp2_with fail
            go_quiet ((go_at_call 40; exact quiet_left (HPre.out _)))
            go_wp2
            exact ⟨⟨m + 1, by omega, by go_num, Lib.hid (X6.out.drewN _)⟩, by simp [intOf]; omega⟩
          · obtain rfl : m = k := by omega
            go_wp2
            refine ⟨⟨m + 1, by omega, by go_num, Lib.hid (by rw [E1.out]), Lib.hid (fun j hj => ?_), Hx2⟩, by simp [intOf]; omega⟩
            by_cases hjk : j < m
            · exact Hok.out j hjk
            · obtain rfl : j = m := by omega
              exact HO.out
    · obtain rfl : k = q := by omega
      have htk : L.take k = L := by rw [← HLq.out, List.take_length]
      have hal := Hal.out
      rw [htk] at hal
      have hcp : checkP ⟨⟨2, []⟩, L⟩ = 0 := checkP_yes (p := ⟨⟨2, []⟩, L⟩) (by have := HLq.out; simp only; omega) (.inr rfl) (fun j hj => Hok.out j (by have := HLq.out; simp only at hj; omega))
      have htp : textP ⟨⟨2, []⟩, L⟩ = al ++ [41, 74] := by
        rw [hal, textP, show textT ⟨2, []⟩ = [74] from rfl]
        simp
      have hal64 : al.length ≤ 1 + 16 * 67 := by
        have h2 := flat_len64 L (ok64 hcp)
        have h3 : L.length * 67 ≤ 16 * 67 := Nat.mul_le_mul_right _ (by have := HLq.out; omega)
        rw [hal]
        simp only [List.length_cons]
        omega
      have hP := fun W => Proto_any (al ++ [41, 74]) (by simp; omega) W
      unfold ProtoAns at hP
      rw [← htp, proto_text hcp, htp] at hP
      have hadd : ∀ W, (Op.stringOp .add (bs al) ⟨#[41, 74]⟩).run Try.prog W = .ok (.string (bs (al ++ [41, 74]))) W := fun W => add_bs (bs al) ⟨#[41, 74]⟩ al [41, 74] rfl rfl (by simp only [List.length_cons, List.length_nil]; omega) W
      have hq2 : ∀ W, (binOp .neq 23 (.agg #[.int .i64 2, .string (bs [])]) (.agg #[.int .i64 2, .string ⟨#[]⟩])).run Try.prog W = .ok (.bool false) W := fun W => run_neqT ⟨2, []⟩ ⟨2, []⟩ W
      unfold Pr.vals at hP
      simp only at hP
      have HP := Lib.hid hP
      clear hP hal hcp htp hal64 htk
      go_wp2_with fail
      refine (HP.out _).mono ?_
      rintro e w6 ⟨v6, rfl, r6, x6⟩
      obtain ⟨A6, k6, hv6, hk6, hm6⟩ := r6.cut
      rw [HLq.out] at hv6 hk6
      subst hv6
      unfold maxLen at hm6
      obtain ⟨w7, hw7⟩ : ∃ w7, w7 = w6.alloc (.cells #[.int .i64 2, .string (bs []), .slice A6 k k6] 29) := ⟨_, rfl⟩
      have hp7 : AtP w7 w6.heap.size ⟨⟨2, []⟩, L⟩ (.slice A6 k k6) := by rw [hw7]; exact AtP.of (p := ⟨⟨2, []⟩, L⟩) (heap_alloc_new w6 _)
      have e67 : Ext w6 w7 := by rw [hw7]; exact (Ext.refl _).alloc _
      have hl7 : w6.heap.size < w7.heap.size := by rw [hw7]; simp
      have X7 := Lib.hid ((Hx.out.trans x6).trans e67)
      have r7 := r6.ext e67
      obtain ⟨z0, z1, z2⟩ := id hp7
      simp only at z0 z1
      clear x6 e67 r6
      go_wp2_with fail
      first | rw [← hw7] | skip
      clear hw7 z0 z1
      go_loopw [12] (fun i wr3 => ∃ j m : Nat, j ≤ k ∧ i = .int .i64 j ∧ wr3 = w7.drewN m) (fun i _ => k - (intOf i).toNat)
      case atStart => exact ⟨0, 0, by omega, rfl, rfl⟩
      case round =>
        obtain ⟨j, m, hj, rfl, rfl⟩ := hrel
        by_cases hltj : j < k
        · obtain ⟨b1, o1, rfl, hb1, hx1⟩ := hg (by omega)
          obtain ⟨y0, y1⟩ := (hx1 j hltj).ext X7.out hb1
          obtain ⟨A', c', hv', _, _, _, _, hg7⟩ := id r7
          obtain ⟨b2, o2, hA2, hb2, hx2⟩ := hg7 (by have := HLq.out; omega)
          have hA6 : A6 = some ⟨b2, o2, none⟩ := by
            injection hv' with h1
            exact h1.trans hA2
          subst hA6
          obtain ⟨u0, u1⟩ := hx2 j (by have := HLq.out; omega)
          have hne := fun W => run_neqT (gt L j) (gt L j) W
          rw [show eqT (gt L j) (gt L j) = true by simp [eqT]] at hne
          unfold Ty.vals at hne
          clear hx1 hx2 hg7 hv' hA2
          go_wp2
          go_quiet (fail)
          go_wp2
          exact ⟨⟨j + 1, m + nq, by omega, by go_num, rfl⟩, by simp [intOf]; omega⟩
        · obtain rfl : j = k := by omega
          go_wp2
          go_ret
          exact ⟨rfl, X7.out.drewN _⟩

set_option maxRecDepth 100000 in
theorem descrApart_lifted (os : Os) (started : os.Started) (H : Type) (enc : TypeId × Value → H) :
    ReturnsInHanded {} Try.checked os 8 .any (Rows.descrApartSpec.pre6 enc Try.prog Try.f8 Rows.descrApartRow.domain false) (Rows.descrApartSpec.post enc Try.prog Try.f8 false true false false) := by
  refine returnsInHanded_of_change_sized (C := Try.checked) own started (by kernel_rfl) Try.func8
    (ChangeSpec.witness6 (enc := enc) (C := Try.checked) false ⟨#[], #[.slice none 0 0], []⟩ 8 (by kernel_rfl) (by kernel_rfl) (by kernel_rfl) (by kernel_rfl)) ?_
  intro W base args ds gs before hval0 hW hcnd hsz0 _
  have hval : ∀ (j : Nat) t v, Try.f8.params[j]? = some t → args[j]? = some v → Value.okWide Try.prog W .any base t v := hval0
  have hsz : (DataW.weightsEach Try.prog (Try.f8.params.toList ++ Rows.descrApartSpec.plain.varTypes Try.prog) (ds ++ gs)).all (· ≤ reachBytes) = true := hsz0
  have hW' := hW
  obtain ⟨p, q, hA0, hV, rfl, hfz, hnd⟩ := hW
  have hA : DataW.TrodAll enc Try.prog W 0 (fun _ => true) true Try.f8.params.toList args.toList ds p := hA0
  rw [Try.params8] at hA hval hsz
  obtain ⟨v0, vs0, d0, ds0, p0, q0, hargs, rfl, rfl, h0, r0⟩ := trodAll_cons hA
  obtain ⟨rfl, rfl, rfl⟩ := trodAll_nil r0
  obtain rfl : args = #[v0] := by cases args; simp_all
  obtain ⟨rfl, rfl⟩ := trodVars_none hV
  obtain ⟨a0, len0, cap0, rfl⟩ := okWide_slice Try.underlying27 (hval 0 27 v0 rfl rfl)
  have k0 := h0
  have lt0 : ∀ x ∈ p0, x.block < W.heap.size := by obtain ⟨m, hm⟩ := k0; exact DataW.trod_lt m _ _ _ hm
  obtain ⟨l0, w0, z0⟩ : ∃ l, RowT W (.slice a0 len0 cap0) l ∧ l.length * 24 ≤ 140737488351232 := by
    obtain ⟨fuel, hf⟩ := h0
    obtain ⟨A, n, c, l, sp, hcs, hln, hrow, hd⟩ := open_types hf
    simp [Value.cells] at hcs
    obtain ⟨rfl, rfl, rfl⟩ := hcs
    rcases hd with ⟨rfl, hd⟩ | hd
    · exact ⟨[], hrow (fun y hy => by cases hy), by simp⟩
    · have hd : d0 = _ := hd
      obtain ⟨b1, b2⟩ := types_weights (l := l) (sp := sp) (by rw [← hd]; exact weights_at hsz (j := 0) rfl rfl)
      exact ⟨l, hrow b2, b1⟩
  clear hA0 hval0 hsz0
  refine (descrApart_walk W (.slice a0 len0 cap0) l0 w0 z0).mono fun e W' ⟨he, bel⟩ => ?_
  subst he
  exact ⟨_, rfl, _, _, _, [], _, [], hW', trodAll_mk1 (shut_bool Try.underlying4 _), (trodAll_cons_mk (Below.trod laidOut (by kernel_rfl) (of_decide_eq_true (by kernel_rfl)) k0 bel lt0) trodAll_mk0), rfl, bel.frame _, fun h => by cases h⟩

theorem descrApart_over : Rows.descrApartRow.holds Try.pinned (OpenSpec.ofChange Rows.descrApartSpec) :=
  OpenClaim.holds_of_wide 8 Try.f8 rfl rfl rfl rfl rfl rfl rfl ⟨rfl, rfl, rfl, rfl, rfl⟩ rfl rfl rfl rfl rfl (by kernel_rfl) Try.func8 (by kernel_rfl)
    (of_decide_eq_true (by kernel_rfl)) (by unfold Func.isWrapper; first | (rw [if_pos (by decide +kernel)]; kernel_rfl) | (rw [if_neg (by decide +kernel)]; exact ⟨rfl, rfl⟩))
    (fun os started H enc _ => descrApart_lifted os started H enc)

/-- The statement. -/
theorem descrApart_proved : Rows.DescrApartSaid := descrApart_over
#print axioms descrApart_proved
end Go.Proofs.Ytibcaienaejgpaa
