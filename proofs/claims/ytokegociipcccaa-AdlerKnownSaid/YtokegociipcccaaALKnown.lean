/- AdlerKnown: long rows of the greatest byte, and sums that are none yet, come out; a closed statement. -/
import Derived.Test.YtokegociipcccaaRows
import Derived.ProofKit
import Derived.OpenShut
import Derived.ShutString
import Derived.ChangeOld
import Derived.SizedLaws
import Derived.Test.YtokegociipcccaaFrame
import Derived.Test.YtokegociipcccaaAdX
import Derived.Test.YtokegociipcccaaAdMath
import Derived.Test.YtokegociipcccaaOwn
namespace Go.Proofs.Ytokegociipcccaa
open Go.ChangeShapes Go.WideShapes Go.ChangeAt Go.RowKit
open Go.ChangeMaps (open_string shut_string)
set_option linter.unusedVariables false

theorem made_u8 (n : Nat) : madeCells (Value.int .u8 0).cells (n * 1) = ((List.replicate n 0).map (Value.int .u8)).toArray := by
  apply Array.ext
  · simp [madeCells]
  · intro j h1 h2
    simp [madeCells, Value.cells, Nat.mod_one]
/-- So many bytes FF, and so many 0 behind them. -/
def ff (k n : Nat) : List Int := List.replicate k 255 ++ List.replicate n 0
theorem ff_len (k n : Nat) : (ff k n).length = k + n := by simp [ff]
theorem ff_set (k n : Nat) : (ff k (n + 1)).set k 255 = ff (k + 1) n := by
  unfold ff
  rw [List.set_append, if_neg (by simp), List.length_replicate, Nat.sub_self, show (List.replicate (n + 1) (0 : Int)).set 0 255 = 255 :: List.replicate n 0 from rfl, show List.replicate (k + 1) (255 : Int) = List.replicate k 255 ++ [255] from List.replicate_succ', List.append_assoc]
  rfl
theorem ff_take (k : Nat) : ff k 0 = List.replicate k 255 := by simp [ff]
/-- What is added up beside the program's own sum. -/
def loR : Nat → Int
  | 0 => 1
  | n + 1 => (loR n + 255) % 65521
def hiR : Nat → Int
  | 0 => 0
  | n + 1 => (hiR n + loR (n + 1)) % 65521
theorem loR_bd (n : Nat) : 0 ≤ loR n ∧ loR n ≤ 65520 := by
  cases n with
  | zero => simp [loR]
  | succ n => simp only [loR]; omega
theorem hiR_bd (n : Nat) : 0 ≤ hiR n ∧ hiR n ≤ 65520 := by
  cases n with
  | zero => simp [hiR]
  | succ n => simp only [hiR]; omega
theorem rep_succ (n : Nat) : List.replicate (n + 1) (255 : Int) = List.replicate n 255 ++ [255] := List.replicate_succ'
theorem adR (n : Nat) : adL 1 (List.replicate n 255) = loR n ∧ adH 1 (List.replicate n 255) = hiR n := by
  induction n with
  | zero => exact ⟨rfl, rfl⟩
  | succ n ih =>
    have h1 : adL 1 (List.replicate (n + 1) 255) = loR (n + 1) := by
      have := ih.1
      unfold adL at this ⊢
      rw [rep_succ, ← lo_step, this, sm_one]
      rfl
    refine ⟨h1, ?_⟩
    have h2 := ih.2
    have h3 := ih.1
    unfold adH at h2 ⊢
    unfold adL at h3
    rw [rep_succ, ← hi_step, h2, h3, up_one]
    simp only [hiR, loR]
    omega

theorem mk9 (W : World) : (Instr.makeSlice 23 (.int .i64 9) (.int .i64 9)).run Try.prog W = .ok (.slice (some ⟨W.heap.size, 0, none⟩) 9 9) (W.alloc (.cells ([0, 0, 0, 0, 0, 0, 0, 0, 0].map (Value.int .u8)).toArray 5)) := by
  obtain ⟨i, hi1, hi2, hi3, hi4⟩ := info_parts info8
  refine (run_make (P := Try.prog) (w := W) 23 5 i _ Try.underlying23 hi1 hi2 .i64 .i64 9 9 (by omega) (by omega) (by rw [hi4]; omega) (by omega)).trans ?_
  rw [hi3]
  exact congrArg (fun c => Result.ok (Value.slice (some ⟨W.heap.size, 0, none⟩) 9 9) (W.alloc (.cells c 5))) (made_u8 9)
theorem mk3 (W : World) : (Instr.makeSlice 23 (.int .i64 3) (.int .i64 3)).run Try.prog W = .ok (.slice (some ⟨W.heap.size, 0, none⟩) 3 3) (W.alloc (.cells ([0, 0, 0].map (Value.int .u8)).toArray 5)) := by
  obtain ⟨i, hi1, hi2, hi3, hi4⟩ := info_parts info8
  refine (run_make (P := Try.prog) (w := W) 23 5 i _ Try.underlying23 hi1 hi2 .i64 .i64 3 3 (by omega) (by omega) (by rw [hi4]; omega) (by omega)).trans ?_
  rw [hi3]
  exact congrArg (fun c => Result.ok (Value.slice (some ⟨W.heap.size, 0, none⟩) 3 3) (W.alloc (.cells c 5))) (made_u8 3)

set_option maxRecDepth 100000 in
set_option maxHeartbeats 4000000 in
theorem adlerKnown_walk (W : World) :
    Calls Try.prog 8 #[] W (RetB W true) := by
  obtain ⟨q, hq⟩ : ∃ q : Nat, q = 6000 := ⟨_, rfl⟩
  have HQ := Lib.hid hq
  have hq1 : q ≤ 6000 := by omega
  have hq2 : 6000 ≤ q := by omega
  clear hq
  go_enter Try.func8, Try.ntmps8
  go_wp2_with (with_reducible refine wpList_mk _ rfl _ _ W.heap.size 23 5 1 .u8 rfl Try.underlying23 info8 (by decide) .i64 .i64 6000 6000 q rfl rfl (by omega) (by omega) (by omega) (by omega) (Nat.le_refl _) ?_)
  intro w1 ho1 hg1
  have ho1' : Own W.heap.size w1 5 .u8 (.slice (some ⟨W.heap.size, 0, none⟩) q q) (ff 0 q) := by rw [show ff 0 q = List.replicate q 0 from by simp [ff]]; exact ho1
  have x1 : Ext W w1 := (Ext.refl W).grown hg1 (fun g hg => by cases hg)
  clear ho1 hg1
  go_wp2
  go_loopw [2] (fun i wr => ∃ (k n : Nat), k ≤ q ∧ Hid (k + n = q) ∧ i = .int .i64 k ∧ Own W.heap.size wr 5 .u8 (.slice (some ⟨W.heap.size, 0, none⟩) q q) (ff k n) ∧ Ext W wr) (fun i _ => q - (intOf i).toNat)
  case atStart => exact ⟨0, q, by omega, by rw [Hid, Nat.zero_add], rfl, ho1', x1⟩
  case round =>
    clear ho1' x1
    obtain ⟨k, n, hk, HKN, rfl, hok, hxk⟩ := hrel
    by_cases hlt : k < q
    · obtain ⟨n', rfl⟩ : ∃ n', n = n' + 1 := ⟨n - 1, by have := HKN.out; omega⟩
      have hll : (ff k (n' + 1)).length = q := by rw [ff_len]; exact HKN.out
      obtain ⟨g', c', hv, _, _, _, _, hcell, hfr⟩ := hok.parts (by omega)
      have hg1 : g' = W.heap.size := by
        injection hv with a _ _
        injection a with a
        injection a with a
        exact a.symm
      clear hv
      subst hg1
      have hy := hcell k (by omega)
      have hz := hfr k
      have HO := Lib.hid hok
      have HX := Lib.hid hxk
      have HLL := Lib.hid hll
      clear hcell hfr hok hxk hll
      go_wp2
      go_roundw
      case rel =>
        refine ⟨k + 1, n', by omega, by rw [Hid]; have := HKN.out; omega, by go_num, ?_, HX.out.set_ (p := ⟨W.heap.size, k, none⟩) (Nat.le_refl _) _⟩
        have := HO.out.put (j := k) (x := 255) (by rw [HLL.out]; exact hlt) (by decide)
        rw [ff_set] at this
        exact this
      case measure => simp [intOf]; omega
    · have hn0 : n = 0 := by have := HKN.out; omega
      subst hn0
      have hkq : k = q := by have := HKN.out; omega
      have hrow := hok.row
      rw [ff_take, hkq] at hrow
      have HX := Lib.hid hxk
      clear hok hxk hkq HKN
      go_wp2
      go_loop [3, 4, 5] (fun x y i => ∃ j : Nat, j ≤ q ∧ i = .int .i64 j ∧ x = .int .i64 (loR j) ∧ y = .int .i64 (hiR j)) (fun _ _ i => q - (intOf i).toNat)
      case atStart => exact ⟨0, by omega, rfl, rfl, rfl⟩
      case round =>
        obtain ⟨j, hj, rfl, rfl, rfl⟩ := hrel
        have d1 := loR_bd j
        have d2 := hiR_bd j
        by_cases hlt : j < q
        · have E1 := Lib.hid (show loR (j + 1) = (loR j + 255) % 65521 from rfl)
          have E2 := Lib.hid (show hiR (j + 1) = (hiR j + loR (j + 1)) % 65521 from rfl)
          go_wp2
          go_round
          case rel => exact ⟨j + 1, by omega, by go_num, by rw [E1.out], by rw [E2.out, E1.out]⟩
          case measure => simp [intOf]; omega
        · have hjq : j = q := by omega
          subst hjq
          have E : Hid (adl 1 (List.replicate j 255) = hiR j * 65536 + loR j) := by
            obtain ⟨e1, e2⟩ := adR j
            rw [Hid, adl, e1, e2]
          have k9 := mk9
          have k3 := mk3
          go_wp2_with fail
          refine (works_any _).mono ?_
          rintro e w2 ⟨rfl, x2⟩
          have hr2 := hrow.ext x2
          have X2 := Lib.hid (HX.out.trans x2)
          clear x2 hrow
          go_wp2_with fail
          refine (Of_any _ (List.replicate j 255) _ (by exact hr2) (by rw [List.length_replicate]; omega)).mono ?_
          rw [E.out]
          rintro e w3 ⟨rfl, rfl⟩
          go_wp2_with fail
          refine (On_any 4294967295 _ [] _ (by exact (Own.nil 0 _ 0 _).row) (by omega) (by omega) (by decide)).mono ?_
          rw [show adl 4294967295 [] = 917518 from by decide +kernel]
          rintro e w3 ⟨rfl, rfl⟩
          go_wp2_with fail
          refine (On_any 65521 _ [] _ (by exact (Own.nil 0 _ 0 _).row) (by omega) (by omega) (by decide)).mono ?_
          rw [show adl 65521 [] = 0 from by decide +kernel]
          rintro e w3 ⟨rfl, rfl⟩
          go_wp2_with fail
          refine (On_any 65520 _ [1] _ (by exact Row.lit _ _ [1] (by decide) (by decide) (by simp)) (by omega) (by omega) (by decide)).mono ?_
          rw [show adl 65520 [1] = 0 from by decide +kernel]
          rintro e w3 ⟨rfl, hw3⟩
          have X3 : Hid (Ext W w3) := by rw [Hid, ← hw3]; exact X2.out.alloc _
          clear hw3
          go_wp2_with fail
          refine (On_any 0 _ [0, 0, 0, 0, 0, 0, 0, 0, 0] _ (by exact Row.lit _ _ [0, 0, 0, 0, 0, 0, 0, 0, 0] (by decide) (by decide) (by simp)) (by omega) (by omega) (by decide)).mono ?_
          rw [show adl 0 [0, 0, 0, 0, 0, 0, 0, 0, 0] = 0 from by decide +kernel]
          rintro e w4 ⟨rfl, hw4⟩
          have X4 : Hid (Ext W w4) := by rw [Hid, ← hw4]; exact X3.out.alloc _
          clear hw4
          go_wp2_with fail
          refine (Of_any _ [0, 0, 0] _ (by exact Row.lit _ _ [0, 0, 0] (by decide) (by decide) (by simp)) (by decide)).mono ?_
          rw [show adl 1 [0, 0, 0] = 196609 from by decide +kernel]
          rintro e w5 ⟨rfl, hw5⟩
          have X5 : Hid (Ext W w5) := by rw [Hid, ← hw5]; exact X4.out.alloc _
          clear hw5
          go_wp2_with fail
          go_ret
          exact ⟨rfl, X5.out⟩

set_option maxRecDepth 100000 in
theorem adlerKnown_lifted (os : Os) (started : os.Started) (H : Type) (enc : TypeId × Value → H) :
    ReturnsInHanded {} Try.checked os 8 .any (Rows.adlerKnownSpec.pre6 enc Try.prog Try.f8 Rows.adlerKnownRow.domain false) (Rows.adlerKnownSpec.post enc Try.prog Try.f8 false true false false) := by
  refine returnsInHanded_of_change_sized (C := Try.checked) own started (by kernel_rfl) Try.func8
    (ChangeSpec.witness6 (enc := enc) (C := Try.checked) false ⟨#[], #[], []⟩ 8 (by kernel_rfl) (by kernel_rfl) (by kernel_rfl) (by kernel_rfl)) ?_
  intro W base args ds gs before hval0 hW hcnd hsz0 _
  have hval : ∀ (j : Nat) t v, Try.f8.params[j]? = some t → args[j]? = some v → Value.okWide Try.prog W .any base t v := hval0
  have hsz : (DataW.weightsEach Try.prog (Try.f8.params.toList ++ Rows.adlerKnownSpec.plain.varTypes Try.prog) (ds ++ gs)).all (· ≤ reachBytes) = true := hsz0
  have hW' := hW
  obtain ⟨p, q, hA0, hV, rfl, hfz, hnd⟩ := hW
  have hA : DataW.TrodAll enc Try.prog W 0 (fun _ => true) true Try.f8.params.toList args.toList ds p := hA0
  rw [Try.params8] at hA hval hsz
  obtain ⟨rfl, rfl, rfl⟩ := trodAll_none hA
  obtain ⟨rfl, rfl⟩ := trodVars_none hV
  clear hA0 hval0 hsz0
  refine (adlerKnown_walk W ).mono fun e W' ⟨he, bel⟩ => ?_
  subst he
  exact ⟨_, rfl, _, _, _, [], _, [], hW', trodAll_mk1 (shut_bool Try.underlying4 _), trodAll_mk0, rfl, bel.frame _, fun h => by cases h⟩

theorem adlerKnown_over : Rows.adlerKnownRow.holds Try.pinned (OpenSpec.ofChange Rows.adlerKnownSpec) :=
  OpenClaim.holds_of_wide 8 Try.f8 rfl rfl rfl rfl rfl rfl rfl ⟨rfl, rfl, rfl, rfl, rfl⟩ rfl rfl rfl rfl rfl (by kernel_rfl) Try.func8 (by kernel_rfl)
    (of_decide_eq_true (by kernel_rfl)) (by unfold Func.isWrapper; first | (rw [if_pos (by decide +kernel)]; kernel_rfl) | (rw [if_neg (by decide +kernel)]; exact ⟨rfl, rfl⟩))
    (fun os started H enc _ => adlerKnown_lifted os started H enc)

/-- The statement. -/
theorem adlerKnown_proved : Rows.AdlerKnownSaid := adlerKnown_over
#print axioms adlerKnown_proved
end Go.Proofs.Ytokegociipcccaa
