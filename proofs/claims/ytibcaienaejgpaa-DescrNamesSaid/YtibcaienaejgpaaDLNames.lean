/- DescrNames: a name stays one without its last byte, and with a letter behind it; a type with a name may be just if that is one. Of every text. -/
import Derived.Test.YtibcaienaejgpaaDOpen
import Derived.Test.YtibcaienaejgpaaDescY
namespace Go.Proofs.Ytibcaienaejgpaa
open Go.ChangeShapes Go.WideShapes Go.ChangeAt Go.RowKit
open Go.ChangeMaps (open_string shut_string)
set_option linter.unusedVariables false
theorem name_cut {l : List UInt8} (h : nameB l = true) (h2 : 2 ≤ l.length) : nameB (l.take (l.length - 1)) = true := by
  rw [nameB_at] at h ⊢
  obtain ⟨h0, h1, h3⟩ := h
  refine ⟨by simp; omega, by simp; omega, fun j hj => ?_⟩
  rw [List.getElem_take]
  exact h3 j (by simp at hj; omega)
theorem name_more {l : List UInt8} (h : nameB l = true) : nameB (l ++ [97]) = decide (l.length < 64) := by
  match l with
  | [] => cases h
  | c :: r =>
    simp only [nameB, Bool.and_eq_true] at h
    rw [List.cons_append, nameB, h.1.1, List.all_append, h.1.2]
    simp [letter]
theorem name_ahead {l : List UInt8} (h : nameB l = true) : nameB (36 :: l) = decide (l.length < 64) := by
  match l with
  | [] => cases h
  | c :: r =>
    simp only [nameB, Bool.and_eq_true] at h
    have h36 : letter 36 = true := by decide
    rw [nameB, h36, List.all_cons, h.1.1, h.1.2]
    simp
theorem name_digit (l : List UInt8) : nameB (48 :: l) = false := by
  have : letter 48 = false := by decide
  rw [nameB, this]
  rfl
theorem name_dash (l : List UInt8) (h : 0 < l.length) : nameB (l ++ [45]) = false := by
  match l, h with
  | c :: r, _ =>
    rw [List.cons_append, nameB, List.all_append]
    have : ([45] : List UInt8).all (fun c => letter c || digit c) = false := by decide
    rw [this]
    simp
set_option maxRecDepth 100000 in
set_option maxHeartbeats 8000000 in
theorem descrNames_walk (w : World) (l : List UInt8) (hl : l.length ≤ 140737488351232) : Calls Try.prog 10 #[.string (bs l)] w (fun e w' => e = .returned (.bool true) ∧ Ext w w') := by
  have hsz : (bs l).size = l.length := rfl
  have hI := fun W => IsName_any l W hl
  have hC := fun W => CheckType_any ⟨3, l⟩ W hl
  unfold Ty.vals at hC
  cases hn : nameB l
  · rw [checkT_no (t := ⟨3, l⟩) hn] at hC
    rw [hn] at hI
    have HI := Lib.hid hI
    have HC := Lib.hid hC
    clear hI hC hn
    go_enter Try.func10, Try.ntmps10
    go_wp2_with fail
    refine (works_any _).mono ?_
    rintro e w1 ⟨rfl, x1⟩
    go_wp2_with fail
    refine (HI.out _).mono ?_
    rintro e w2 ⟨rfl, x2⟩
    go_wp2_with fail
    refine (HC.out _).mono ?_
    rintro e w3 ⟨rfl, x3⟩
    go_wp2
    go_ret
    exact ⟨rfl, (x1.trans x2).trans x3⟩
  · rw [checkT_yes (t := ⟨3, l⟩) hn] at hC
    rw [hn] at hI
    have HI := Lib.hid hI
    have HC := Lib.hid hC
    obtain ⟨h0, h64⟩ := name_len hn
    have s1 : ∀ W, (Op.stringOp .add (bs l) ⟨#[97]⟩).run Try.prog W = .ok (.string (bs (l ++ [97]))) W := fun W => add_bs (bs l) ⟨#[97]⟩ l [97] rfl rfl (by simp only [List.length_cons, List.length_nil]; omega) W
    have s2 : ∀ W, (Op.stringOp .add ⟨#[36]⟩ (bs l)).run Try.prog W = .ok (.string (bs (36 :: l))) W := fun W => add_bs ⟨#[36]⟩ (bs l) [36] l rfl rfl (by simp only [List.length_cons, List.length_nil]; omega) W
    have s3 : ∀ W, (Op.stringOp .add ⟨#[48]⟩ (bs l)).run Try.prog W = .ok (.string (bs (48 :: l))) W := fun W => add_bs ⟨#[48]⟩ (bs l) [48] l rfl rfl (by simp only [List.length_cons, List.length_nil]; omega) W
    have s4 : ∀ W, (Op.stringOp .add (bs l) ⟨#[45]⟩).run Try.prog W = .ok (.string (bs (l ++ [45]))) W := fun W => add_bs (bs l) ⟨#[45]⟩ l [45] rfl rfl (by simp only [List.length_cons, List.length_nil]; omega) W
    have s5 : ∀ W, (Instr.slice 9 (.string (bs l)) none (some (.int .i64 ((l.length : Int) - 1))) none).run Try.prog W = .ok (.string (bs (l.take (l.length - 1)))) W := fun W => run_head (x := l.take (l.length - 1)) (n := l.drop (l.length - 1)) (by simp) (by simp; omega) W
    have I1 := Lib.hid (fun W => name_any (l ++ [97]) _ (name_more hn) (by simp; omega) W)
    have I2 := Lib.hid (fun W => name_any (36 :: l) _ (name_ahead hn) (by simp; omega) W)
    have I3 := Lib.hid (fun W => name_any (48 :: l) _ (name_digit l) (by simp; omega) W)
    have I4 := Lib.hid (fun W => name_any (l ++ [45]) _ (name_dash l h0) (by simp; omega) W)
    have I5 := Lib.hid (fun (h : 2 ≤ l.length) W => name_any (l.take (l.length - 1)) _ (name_cut hn h) (by simp; omega) W)
    clear hI hC hn
    by_cases h63 : l.length < 64
    · by_cases h2 : l.length < 2
      · have D := decide_eq_true h63
        rw [D] at I1 I2
        clear D
        go_enter Try.func10, Try.ntmps10
        go_wp2_with fail
        refine (works_any _).mono ?_
        rintro e w1 ⟨rfl, x1⟩
        go_wp2_with fail
        refine (HI.out _).mono ?_
        rintro e w2 ⟨rfl, x2⟩
        go_wp2_with fail
        refine (HC.out _).mono ?_
        rintro e w3 ⟨rfl, x3⟩
        go_wp2_with fail
        refine (I1.out _).mono ?_
        rintro e w5 ⟨rfl, x5⟩
        go_wp2_with fail
        refine (I2.out _).mono ?_
        rintro e w6 ⟨rfl, x6⟩
        go_wp2_with fail
        refine (I3.out _).mono ?_
        rintro e w7 ⟨rfl, x7⟩
        go_wp2_with fail
        refine (I4.out _).mono ?_
        rintro e w8 ⟨rfl, x8⟩
        go_wp2
        go_ret
        exact ⟨rfl, ((((((x1.trans x2).trans x3).trans x5).trans x6).trans x7).trans x8)⟩
      · have D := decide_eq_true h63
        rw [D] at I1 I2
        clear D
        go_enter Try.func10, Try.ntmps10
        go_wp2_with fail
        refine (works_any _).mono ?_
        rintro e w1 ⟨rfl, x1⟩
        go_wp2_with fail
        refine (HI.out _).mono ?_
        rintro e w2 ⟨rfl, x2⟩
        go_wp2_with fail
        refine (HC.out _).mono ?_
        rintro e w3 ⟨rfl, x3⟩
        go_wp2_with fail
        refine (I5.out (by omega) _).mono ?_
        rintro e w4 ⟨rfl, x4⟩
        go_wp2_with fail
        refine (I1.out _).mono ?_
        rintro e w5 ⟨rfl, x5⟩
        go_wp2_with fail
        refine (I2.out _).mono ?_
        rintro e w6 ⟨rfl, x6⟩
        go_wp2_with fail
        refine (I3.out _).mono ?_
        rintro e w7 ⟨rfl, x7⟩
        go_wp2_with fail
        refine (I4.out _).mono ?_
        rintro e w8 ⟨rfl, x8⟩
        go_wp2
        go_ret
        exact ⟨rfl, (((((((x1.trans x2).trans x3).trans x4).trans x5).trans x6).trans x7).trans x8)⟩
    · have h2 : ¬ l.length < 2 := by omega
      have h9 : decide ((l.length : Int) < 64) = false := decide_eq_false (by omega)
      have D := decide_eq_false h63
      rw [D] at I1 I2
      clear D
      go_enter Try.func10, Try.ntmps10
      go_wp2_with fail
      refine (works_any _).mono ?_
      rintro e w1 ⟨rfl, x1⟩
      go_wp2_with fail
      refine (HI.out _).mono ?_
      rintro e w2 ⟨rfl, x2⟩
      go_wp2_with fail
      refine (HC.out _).mono ?_
      rintro e w3 ⟨rfl, x3⟩
      go_wp2_with fail
      refine (I5.out (by omega) _).mono ?_
      rintro e w4 ⟨rfl, x4⟩
      go_wp2_with fail
      refine (I1.out _).mono ?_
      rintro e w5 ⟨rfl, x5⟩
      go_wp2_with fail
      refine (I2.out _).mono ?_
      rintro e w6 ⟨rfl, x6⟩
      go_wp2_with fail
      refine (I3.out _).mono ?_
      rintro e w7 ⟨rfl, x7⟩
      go_wp2_with fail
      refine (I4.out _).mono ?_
      rintro e w8 ⟨rfl, x8⟩
      go_wp2
      go_ret
      exact ⟨rfl, (((((((x1.trans x2).trans x3).trans x4).trans x5).trans x6).trans x7).trans x8)⟩

set_option maxRecDepth 100000 in
theorem descrNames_lifted (os : Os) (started : os.Started) (H : Type) (enc : TypeId × Value → H) :
    ReturnsInHanded {} Try.checked os 10 .any (Rows.descrNamesSpec.pre6 enc Try.prog Try.f10 Rows.descrNamesRow.domain false) (Rows.descrNamesSpec.post enc Try.prog Try.f10 false true false false) := by
  refine returnsInHanded_of_change_sized (C := Try.checked) own started (by kernel_rfl) Try.func10
    (ChangeSpec.witness6 (enc := enc) (C := Try.checked) false ⟨#[], #[.string ⟨#[]⟩], []⟩ 8 (by kernel_rfl) (by kernel_rfl) (by kernel_rfl) (by kernel_rfl)) ?_
  intro W base args ds gs before hval0 hW hcnd hsz0 _
  have hval : ∀ (j : Nat) t v, Try.f10.params[j]? = some t → args[j]? = some v → Value.okWide Try.prog W .any base t v := hval0
  have hsz : (DataW.weightsEach Try.prog (Try.f10.params.toList ++ Rows.descrNamesSpec.plain.varTypes Try.prog) (ds ++ gs)).all (· ≤ reachBytes) = true := hsz0
  have hW' := hW
  obtain ⟨p, q, hA0, hV, rfl, hfz, hnd⟩ := hW
  have hA : DataW.TrodAll enc Try.prog W 0 (fun _ => true) true Try.f10.params.toList args.toList ds p := hA0
  rw [Try.params10] at hA hval hsz
  obtain ⟨v0, vs0, d0, ds0, p0, q0, hargs, rfl, rfl, h0, r0⟩ := trodAll_cons hA
  obtain ⟨rfl, rfl, rfl⟩ := trodAll_nil r0
  obtain rfl : args = #[v0] := by cases args; simp_all
  obtain ⟨rfl, rfl⟩ := trodVars_none hV
  obtain ⟨a0, rfl, rfl, rfl, w0⟩ := open_string Try.underlying9 (hval 0 9 v0 rfl rfl) h0
  have z0 : a0.data.toList.length ≤ 140737488351232 := sized_string hsz (j := 0) rfl rfl
  clear hA0 hval0 hsz0
  refine (descrNames_walk W a0.data.toList z0).mono fun e W' ⟨he, bel⟩ => ?_
  subst he
  exact ⟨_, rfl, _, _, _, [], _, [], hW', trodAll_mk1 (shut_bool Try.underlying4 _), (trodAll_cons_mk (shut_string Try.underlying9 w0) trodAll_mk0), rfl, bel.frame _, fun h => by cases h⟩

theorem descrNames_over : Rows.descrNamesRow.holds Try.pinned (OpenSpec.ofChange Rows.descrNamesSpec) :=
  OpenClaim.holds_of_wide 10 Try.f10 rfl rfl rfl rfl rfl rfl rfl ⟨rfl, rfl, rfl, rfl, rfl⟩ rfl rfl rfl rfl rfl (by kernel_rfl) Try.func10 (by kernel_rfl)
    (of_decide_eq_true (by kernel_rfl)) (by unfold Func.isWrapper; first | (rw [if_pos (by decide +kernel)]; kernel_rfl) | (rw [if_neg (by decide +kernel)]; exact ⟨rfl, rfl⟩))
    (fun os started H enc _ => descrNames_lifted os started H enc)

/-- The statement. -/
theorem descrNames_proved : Rows.DescrNamesSaid := descrNames_over
#print axioms descrNames_proved
end Go.Proofs.Ytibcaienaejgpaa
