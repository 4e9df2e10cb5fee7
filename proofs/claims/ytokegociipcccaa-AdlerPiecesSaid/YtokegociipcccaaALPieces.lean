/- AdlerPieces: bytes that come in two pieces have the sum of all, and both halves are below 65521, of any sum and any bytes (the statement looks at the first 20000 of each); no conditions. -/
import Derived.Test.YtokegociipcccaaRows
import Derived.ProofKit
import Derived.OpenShut
import Derived.ShutString
import Derived.ChangeOld
import Derived.SizedLaws
import Derived.RegionTactic
import Derived.Test.YtokegociipcccaaFrame
import Derived.Test.YtokegociipcccaaAdX
import Derived.Test.YtokegociipcccaaAdMath
namespace Go.Proofs.Ytokegociipcccaa
open Go.ChangeShapes Go.WideShapes Go.ChangeAt Go.RowKit
open Go.ChangeMaps (open_string shut_string)
set_option linter.unusedVariables false

set_option maxHeartbeats 4000000 in
theorem adlerPieces_walk (W : World) (va : Value) (la : List Int) (ha : Row W .u8 va la) (hla : la.length ≤ 140737488351232) (vb : Value) (lb : List Int) (hb : Row W .u8 vb lb) (hlb : lb.length ≤ 140737488351232) (s : Int) (hs : 0 ≤ s ∧ s ≤ 4294967295) :
    Calls Try.prog 4 #[va, vb, .int .u32 s] W (RetB W true) := by
  have ha' := ha
  have hb' := hb
  obtain ⟨A, c, rfl, hlc, hcm, _, _, _⟩ := ha'
  obtain ⟨B, d, rfl, hld, hdm, _, _, _⟩ := hb'
  unfold maxLen at hcm hdm
  obtain ⟨na, hna⟩ : ∃ n, n = la.length := ⟨_, rfl⟩
  obtain ⟨nb, hnb⟩ : ∃ n, n = lb.length := ⟨_, rfl⟩
  rw [← hna] at ha hlc hla ⊢
  rw [← hnb] at hb hld hlb ⊢
  have HNa := Lib.hid hna
  have HNb := Lib.hid hnb
  clear hna hnb
  by_cases ca : na ≤ 20000
  · by_cases cb : nb ≤ 20000
    · obtain ⟨va3, ra3, ra3', ha3⟩ := head_slice ha na (by rw [← HNa.out]; exact Nat.le_refl _)
      obtain ⟨ma, hma⟩ : ∃ m, m = la.take na := ⟨_, rfl⟩
      have hqa : ma.length ≤ 20000 := by rw [hma, List.length_take]; omega
      rw [← hma] at ha3
      clear hma
      obtain ⟨vb3, rb3, rb3', hb3⟩ := head_slice hb nb (by rw [← HNb.out]; exact Nat.le_refl _)
      obtain ⟨mb, hmb⟩ : ∃ m, m = lb.take nb := ⟨_, rfl⟩
      have hqb : mb.length ≤ 20000 := by rw [hmb, List.length_take]; omega
      rw [← hmb] at hb3
      clear hmb
      clear ha hb
      go_enter Try.func4, Try.ntmps4
      go_wp2_with fail
      refine (works_any _).mono ?_
      rintro e w0 ⟨rfl, x0⟩
      go_wp2_with fail
      go_region
      have hx0 := x0.drew
      obtain ⟨w5, hw5⟩ : ∃ w5, w5 = w0.drew := ⟨_, rfl⟩
      rw [← hw5] at hx0 ⊢
      clear hw5
      have ra := ha3.ext hx0
      have rb := hb3.ext hx0
      clear ha3 hb3 ra3 ra3' rb3 rb3' x0
      go_wp2_with fail
      refine (copyBytes_any _ ma _ (by exact ra) (by omega)).mono ?_
      rintro e w1 ⟨v1, rfl, ho1, x1⟩
      go_wp2_with (at_builtin; refine wpList_app _ rfl _ _ _ 23 5 _ 1 .u8 rfl Try.underlying23 info8 rfl (by omega) v1 ma rfl (ho1) _ mb rfl (rb.ext x1) (by omega) (x1.size) ?_; intro v2 w2 ho2 hg2 _; have x2 : Ext w5 w2 := x1.grown hg2 ho1.low)
      have rc := ho2.row
      have ra2 := ra.ext x2
      have rb2 := rb.ext x2
      have hc : (ma ++ mb).length ≤ 140737488355328 := by rw [List.length_append]; omega
      have X2 := Lib.hid (hx0.trans x2)
      clear ho1 ho2 hg2 x1 x2 hx0 ra rb
      have b1 := adl_bd s ma
      have b2 := adl_bd 1 ma
      have EA1 := Lib.hid (adl_app s ma mb)
      have EA2 := Lib.hid (adl_app 1 ma mb)
      have b3 : adl s (ma ++ mb) % 65536 < 65521 := by rw [adl_lo]; exact (adL_bd _ _).2
      have b4 : adl s (ma ++ mb) / 65536 < 65521 := by rw [adl_hi]; exact (adH_bd _ _).2
      have b5 := adl_bd s (ma ++ mb)
      go_wp2_with fail
      refine (On_any s _ (ma ++ mb) _ (by exact rc) hs.1 hs.2 hc).mono ?_
      rintro e w6 ⟨rfl, rfl⟩
      go_wp2_with fail
      refine (Of_any _ ma _ (by exact ra2) (by omega)).mono ?_
      rintro e w6 ⟨rfl, rfl⟩
      go_wp2_with fail
      refine (On_any _ _ mb _ (by exact rb2) b2.1 b2.2 (by omega)).mono ?_
      rw [EA2.out]
      rintro e w6 ⟨rfl, rfl⟩
      go_wp2_with fail
      refine (Of_any _ (ma ++ mb) _ (by exact rc) hc).mono ?_
      rintro e w6 ⟨rfl, rfl⟩
      go_wp2_with fail
      refine (On_any s _ ma _ (by exact ra2) hs.1 hs.2 (by omega)).mono ?_
      rintro e w6 ⟨rfl, rfl⟩
      go_wp2_with fail
      refine (On_any _ _ mb _ (by exact rb2) b1.1 b1.2 (by omega)).mono ?_
      rw [EA1.out]
      rintro e w6 ⟨rfl, rfl⟩
      go_wp2_with fail
      go_ret
      exact ⟨rfl, X2.out⟩
    · obtain ⟨va3, ra3, ra3', ha3⟩ := head_slice ha na (by rw [← HNa.out]; exact Nat.le_refl _)
      obtain ⟨ma, hma⟩ : ∃ m, m = la.take na := ⟨_, rfl⟩
      have hqa : ma.length ≤ 20000 := by rw [hma, List.length_take]; omega
      rw [← hma] at ha3
      clear hma
      have hnb' : (20000 : Int) < nb := by omega
      obtain ⟨vb3, rb3, rb3', hb3⟩ := head_slice hb 20000 (by rw [← HNb.out]; omega)
      simp only [show ((20000 : Nat) : Int) = 20000 from rfl] at rb3 rb3'
      obtain ⟨mb, hmb⟩ : ∃ m, m = lb.take 20000 := ⟨_, rfl⟩
      have hqb : mb.length ≤ 20000 := by rw [hmb, List.length_take]; omega
      rw [← hmb] at hb3
      clear hmb
      clear ha hb
      go_enter Try.func4, Try.ntmps4
      go_wp2_with fail
      refine (works_any _).mono ?_
      rintro e w0 ⟨rfl, x0⟩
      go_wp2_with fail
      go_region
      have hx0 := x0.drew
      obtain ⟨w5, hw5⟩ : ∃ w5, w5 = w0.drew := ⟨_, rfl⟩
      rw [← hw5] at hx0 ⊢
      clear hw5
      have ra := ha3.ext hx0
      have rb := hb3.ext hx0
      clear ha3 hb3 ra3 ra3' rb3 rb3' x0
      go_wp2_with fail
      refine (copyBytes_any _ ma _ (by exact ra) (by omega)).mono ?_
      rintro e w1 ⟨v1, rfl, ho1, x1⟩
      go_wp2_with (at_builtin; refine wpList_app _ rfl _ _ _ 23 5 _ 1 .u8 rfl Try.underlying23 info8 rfl (by omega) v1 ma rfl (ho1) _ mb rfl (rb.ext x1) (by omega) (x1.size) ?_; intro v2 w2 ho2 hg2 _; have x2 : Ext w5 w2 := x1.grown hg2 ho1.low)
      have rc := ho2.row
      have ra2 := ra.ext x2
      have rb2 := rb.ext x2
      have hc : (ma ++ mb).length ≤ 140737488355328 := by rw [List.length_append]; omega
      have X2 := Lib.hid (hx0.trans x2)
      clear ho1 ho2 hg2 x1 x2 hx0 ra rb
      have b1 := adl_bd s ma
      have b2 := adl_bd 1 ma
      have EA1 := Lib.hid (adl_app s ma mb)
      have EA2 := Lib.hid (adl_app 1 ma mb)
      have b3 : adl s (ma ++ mb) % 65536 < 65521 := by rw [adl_lo]; exact (adL_bd _ _).2
      have b4 : adl s (ma ++ mb) / 65536 < 65521 := by rw [adl_hi]; exact (adH_bd _ _).2
      have b5 := adl_bd s (ma ++ mb)
      go_wp2_with fail
      refine (On_any s _ (ma ++ mb) _ (by exact rc) hs.1 hs.2 hc).mono ?_
      rintro e w6 ⟨rfl, rfl⟩
      go_wp2_with fail
      refine (Of_any _ ma _ (by exact ra2) (by omega)).mono ?_
      rintro e w6 ⟨rfl, rfl⟩
      go_wp2_with fail
      refine (On_any _ _ mb _ (by exact rb2) b2.1 b2.2 (by omega)).mono ?_
      rw [EA2.out]
      rintro e w6 ⟨rfl, rfl⟩
      go_wp2_with fail
      refine (Of_any _ (ma ++ mb) _ (by exact rc) hc).mono ?_
      rintro e w6 ⟨rfl, rfl⟩
      go_wp2_with fail
      refine (On_any s _ ma _ (by exact ra2) hs.1 hs.2 (by omega)).mono ?_
      rintro e w6 ⟨rfl, rfl⟩
      go_wp2_with fail
      refine (On_any _ _ mb _ (by exact rb2) b1.1 b1.2 (by omega)).mono ?_
      rw [EA1.out]
      rintro e w6 ⟨rfl, rfl⟩
      go_wp2_with fail
      go_ret
      exact ⟨rfl, X2.out⟩
  · by_cases cb : nb ≤ 20000
    · have hna' : (20000 : Int) < na := by omega
      obtain ⟨va3, ra3, ra3', ha3⟩ := head_slice ha 20000 (by rw [← HNa.out]; omega)
      simp only [show ((20000 : Nat) : Int) = 20000 from rfl] at ra3 ra3'
      obtain ⟨ma, hma⟩ : ∃ m, m = la.take 20000 := ⟨_, rfl⟩
      have hqa : ma.length ≤ 20000 := by rw [hma, List.length_take]; omega
      rw [← hma] at ha3
      clear hma
      obtain ⟨vb3, rb3, rb3', hb3⟩ := head_slice hb nb (by rw [← HNb.out]; exact Nat.le_refl _)
      obtain ⟨mb, hmb⟩ : ∃ m, m = lb.take nb := ⟨_, rfl⟩
      have hqb : mb.length ≤ 20000 := by rw [hmb, List.length_take]; omega
      rw [← hmb] at hb3
      clear hmb
      clear ha hb
      go_enter Try.func4, Try.ntmps4
      go_wp2_with fail
      refine (works_any _).mono ?_
      rintro e w0 ⟨rfl, x0⟩
      go_wp2_with fail
      go_region
      have hx0 := x0.drew
      obtain ⟨w5, hw5⟩ : ∃ w5, w5 = w0.drew := ⟨_, rfl⟩
      rw [← hw5] at hx0 ⊢
      clear hw5
      have ra := ha3.ext hx0
      have rb := hb3.ext hx0
      clear ha3 hb3 ra3 ra3' rb3 rb3' x0
      go_wp2_with fail
      refine (copyBytes_any _ ma _ (by exact ra) (by omega)).mono ?_
      rintro e w1 ⟨v1, rfl, ho1, x1⟩
      go_wp2_with (at_builtin; refine wpList_app _ rfl _ _ _ 23 5 _ 1 .u8 rfl Try.underlying23 info8 rfl (by omega) v1 ma rfl (ho1) _ mb rfl (rb.ext x1) (by omega) (x1.size) ?_; intro v2 w2 ho2 hg2 _; have x2 : Ext w5 w2 := x1.grown hg2 ho1.low)
      have rc := ho2.row
      have ra2 := ra.ext x2
      have rb2 := rb.ext x2
      have hc : (ma ++ mb).length ≤ 140737488355328 := by rw [List.length_append]; omega
      have X2 := Lib.hid (hx0.trans x2)
      clear ho1 ho2 hg2 x1 x2 hx0 ra rb
      have b1 := adl_bd s ma
      have b2 := adl_bd 1 ma
      have EA1 := Lib.hid (adl_app s ma mb)
      have EA2 := Lib.hid (adl_app 1 ma mb)
      have b3 : adl s (ma ++ mb) % 65536 < 65521 := by rw [adl_lo]; exact (adL_bd _ _).2
      have b4 : adl s (ma ++ mb) / 65536 < 65521 := by rw [adl_hi]; exact (adH_bd _ _).2
      have b5 := adl_bd s (ma ++ mb)
      go_wp2_with fail
      refine (On_any s _ (ma ++ mb) _ (by exact rc) hs.1 hs.2 hc).mono ?_
      rintro e w6 ⟨rfl, rfl⟩
      go_wp2_with fail
      refine (Of_any _ ma _ (by exact ra2) (by omega)).mono ?_
      rintro e w6 ⟨rfl, rfl⟩
      go_wp2_with fail
      refine (On_any _ _ mb _ (by exact rb2) b2.1 b2.2 (by omega)).mono ?_
      rw [EA2.out]
      rintro e w6 ⟨rfl, rfl⟩
      go_wp2_with fail
      refine (Of_any _ (ma ++ mb) _ (by exact rc) hc).mono ?_
      rintro e w6 ⟨rfl, rfl⟩
      go_wp2_with fail
      refine (On_any s _ ma _ (by exact ra2) hs.1 hs.2 (by omega)).mono ?_
      rintro e w6 ⟨rfl, rfl⟩
      go_wp2_with fail
      refine (On_any _ _ mb _ (by exact rb2) b1.1 b1.2 (by omega)).mono ?_
      rw [EA1.out]
      rintro e w6 ⟨rfl, rfl⟩
      go_wp2_with fail
      go_ret
      exact ⟨rfl, X2.out⟩
    · have hna' : (20000 : Int) < na := by omega
      obtain ⟨va3, ra3, ra3', ha3⟩ := head_slice ha 20000 (by rw [← HNa.out]; omega)
      simp only [show ((20000 : Nat) : Int) = 20000 from rfl] at ra3 ra3'
      obtain ⟨ma, hma⟩ : ∃ m, m = la.take 20000 := ⟨_, rfl⟩
      have hqa : ma.length ≤ 20000 := by rw [hma, List.length_take]; omega
      rw [← hma] at ha3
      clear hma
      have hnb' : (20000 : Int) < nb := by omega
      obtain ⟨vb3, rb3, rb3', hb3⟩ := head_slice hb 20000 (by rw [← HNb.out]; omega)
      simp only [show ((20000 : Nat) : Int) = 20000 from rfl] at rb3 rb3'
      obtain ⟨mb, hmb⟩ : ∃ m, m = lb.take 20000 := ⟨_, rfl⟩
      have hqb : mb.length ≤ 20000 := by rw [hmb, List.length_take]; omega
      rw [← hmb] at hb3
      clear hmb
      clear ha hb
      go_enter Try.func4, Try.ntmps4
      go_wp2_with fail
      refine (works_any _).mono ?_
      rintro e w0 ⟨rfl, x0⟩
      go_wp2_with fail
      go_region
      have hx0 := x0.drew
      obtain ⟨w5, hw5⟩ : ∃ w5, w5 = w0.drew := ⟨_, rfl⟩
      rw [← hw5] at hx0 ⊢
      clear hw5
      have ra := ha3.ext hx0
      have rb := hb3.ext hx0
      clear ha3 hb3 ra3 ra3' rb3 rb3' x0
      go_wp2_with fail
      refine (copyBytes_any _ ma _ (by exact ra) (by omega)).mono ?_
      rintro e w1 ⟨v1, rfl, ho1, x1⟩
      go_wp2_with (at_builtin; refine wpList_app _ rfl _ _ _ 23 5 _ 1 .u8 rfl Try.underlying23 info8 rfl (by omega) v1 ma rfl (ho1) _ mb rfl (rb.ext x1) (by omega) (x1.size) ?_; intro v2 w2 ho2 hg2 _; have x2 : Ext w5 w2 := x1.grown hg2 ho1.low)
      have rc := ho2.row
      have ra2 := ra.ext x2
      have rb2 := rb.ext x2
      have hc : (ma ++ mb).length ≤ 140737488355328 := by rw [List.length_append]; omega
      have X2 := Lib.hid (hx0.trans x2)
      clear ho1 ho2 hg2 x1 x2 hx0 ra rb
      have b1 := adl_bd s ma
      have b2 := adl_bd 1 ma
      have EA1 := Lib.hid (adl_app s ma mb)
      have EA2 := Lib.hid (adl_app 1 ma mb)
      have b3 : adl s (ma ++ mb) % 65536 < 65521 := by rw [adl_lo]; exact (adL_bd _ _).2
      have b4 : adl s (ma ++ mb) / 65536 < 65521 := by rw [adl_hi]; exact (adH_bd _ _).2
      have b5 := adl_bd s (ma ++ mb)
      go_wp2_with fail
      refine (On_any s _ (ma ++ mb) _ (by exact rc) hs.1 hs.2 hc).mono ?_
      rintro e w6 ⟨rfl, rfl⟩
      go_wp2_with fail
      refine (Of_any _ ma _ (by exact ra2) (by omega)).mono ?_
      rintro e w6 ⟨rfl, rfl⟩
      go_wp2_with fail
      refine (On_any _ _ mb _ (by exact rb2) b2.1 b2.2 (by omega)).mono ?_
      rw [EA2.out]
      rintro e w6 ⟨rfl, rfl⟩
      go_wp2_with fail
      refine (Of_any _ (ma ++ mb) _ (by exact rc) hc).mono ?_
      rintro e w6 ⟨rfl, rfl⟩
      go_wp2_with fail
      refine (On_any s _ ma _ (by exact ra2) hs.1 hs.2 (by omega)).mono ?_
      rintro e w6 ⟨rfl, rfl⟩
      go_wp2_with fail
      refine (On_any _ _ mb _ (by exact rb2) b1.1 b1.2 (by omega)).mono ?_
      rw [EA1.out]
      rintro e w6 ⟨rfl, rfl⟩
      go_wp2_with fail
      go_ret
      exact ⟨rfl, X2.out⟩

set_option maxRecDepth 100000 in
theorem adlerPieces_lifted (os : Os) (started : os.Started) (H : Type) (enc : TypeId × Value → H) :
    ReturnsInHanded {} Try.checked os 4 .any (Rows.adlerPiecesSpec.pre6 enc Try.prog Try.f4 Rows.adlerPiecesRow.domain false) (Rows.adlerPiecesSpec.post enc Try.prog Try.f4 false true false false) := by
  refine returnsInHanded_of_change_sized (C := Try.checked) own started (by kernel_rfl) Try.func4
    (ChangeSpec.witness6 (enc := enc) (C := Try.checked) false ⟨#[], #[.slice none 0 0, .slice none 0 0, .int .u32 0], []⟩ 8 (by kernel_rfl) (by kernel_rfl) (by kernel_rfl) (by kernel_rfl)) ?_
  intro W base args ds gs before hval0 hW hcnd hsz0 _
  have hval : ∀ (j : Nat) t v, Try.f4.params[j]? = some t → args[j]? = some v → Value.okWide Try.prog W .any base t v := hval0
  have hsz : (DataW.weightsEach Try.prog (Try.f4.params.toList ++ Rows.adlerPiecesSpec.plain.varTypes Try.prog) (ds ++ gs)).all (· ≤ reachBytes) = true := hsz0
  have hW' := hW
  obtain ⟨p, q, hA0, hV, rfl, hfz, hnd⟩ := hW
  have hA : DataW.TrodAll enc Try.prog W 0 (fun _ => true) true Try.f4.params.toList args.toList ds p := hA0
  rw [Try.params4] at hA hval hsz
  obtain ⟨v0, vs0, d0, ds0, p0, q0, hargs, rfl, rfl, h0, r0⟩ := trodAll_cons hA
  obtain ⟨v1, vs1, d1, ds1, p1, q1, rfl, rfl, rfl, h1, r1⟩ := trodAll_cons r0
  obtain ⟨v2, vs2, d2, ds2, p2, q2, rfl, rfl, rfl, h2, r2⟩ := trodAll_cons r1
  obtain ⟨rfl, rfl, rfl⟩ := trodAll_nil r2
  obtain rfl : args = #[v0, v1, v2] := by cases args; simp_all
  obtain ⟨rfl, rfl⟩ := trodVars_none hV
  obtain ⟨a0, len0, cap0, rfl⟩ := okWide_slice Try.underlying23 (hval 0 23 v0 rfl rfl)
  have k0 := h0
  have lt0 : ∀ x ∈ p0, x.block < W.heap.size := by obtain ⟨m, hm⟩ := k0; exact DataW.trod_lt m _ _ _ hm
  obtain ⟨l0, w0, z0⟩ : ∃ l, Row W .u8 (.slice a0 len0 cap0) l ∧ l.length ≤ 140737488351232 := by
    obtain ⟨fuel, hf⟩ := h0
    rcases open_ints Try.underlying23 Try.underlying5 (by kernel_rfl) hf with ⟨hcs, _⟩ | ⟨x, l, c, zs, hcs, _, hl, hm, hz, hx, hcell, hwz⟩
    · simp [Value.cells] at hcs
      obtain ⟨rfl, rfl, rfl⟩ := hcs
      exact ⟨[], (Own.nil 0 _ 0 _).row, by simp⟩
    · simp [Value.cells] at hcs
      obtain ⟨rfl, rfl, rfl⟩ := hcs
      simp only [if_true] at hz
      refine ⟨_, row_of_open hl hm hz hcell hwz, ?_⟩
      have hd : d0 = _ := congrArg Prod.fst hx
      have hs := sized_slice hsz (j := 0) rfl (by rw [hd]; rfl) Try.underlying23
      rw [bytes8] at hs
      simp only [lits, List.length_map, List.length_take, List.length_drop, reachBytes] at hs
      simp only [List.length_take]
      omega
  obtain ⟨a1, len1, cap1, rfl⟩ := okWide_slice Try.underlying23 (hval 1 23 v1 rfl rfl)
  have k1 := h1
  have lt1 : ∀ x ∈ p1, x.block < W.heap.size := by obtain ⟨m, hm⟩ := k1; exact DataW.trod_lt m _ _ _ hm
  obtain ⟨l1, w1, z1⟩ : ∃ l, Row W .u8 (.slice a1 len1 cap1) l ∧ l.length ≤ 140737488351232 := by
    obtain ⟨fuel, hf⟩ := h1
    rcases open_ints Try.underlying23 Try.underlying5 (by kernel_rfl) hf with ⟨hcs, _⟩ | ⟨x, l, c, zs, hcs, _, hl, hm, hz, hx, hcell, hwz⟩
    · simp [Value.cells] at hcs
      obtain ⟨rfl, rfl, rfl⟩ := hcs
      exact ⟨[], (Own.nil 0 _ 0 _).row, by simp⟩
    · simp [Value.cells] at hcs
      obtain ⟨rfl, rfl, rfl⟩ := hcs
      simp only [if_true] at hz
      refine ⟨_, row_of_open hl hm hz hcell hwz, ?_⟩
      have hd : d1 = _ := congrArg Prod.fst hx
      have hs := sized_slice hsz (j := 1) rfl (by rw [hd]; rfl) Try.underlying23
      rw [bytes8] at hs
      simp only [lits, List.length_map, List.length_take, List.length_drop, reachBytes] at hs
      simp only [List.length_take]
      omega
  obtain ⟨a2, rfl, rfl, rfl, w2⟩ := open_int Try.underlying22 (hval 2 22 v2 rfl rfl) h2
  have z2 := bounds_u32 w2
  clear hA0 hval0 hsz0
  refine (adlerPieces_walk W (.slice a0 len0 cap0) l0 w0 z0 (.slice a1 len1 cap1) l1 w1 z1 a2 z2).mono fun e W' ⟨he, bel⟩ => ?_
  subst he
  exact ⟨_, rfl, _, _, _, [], _, [], hW', trodAll_mk1 (shut_bool Try.underlying4 _), (trodAll_cons_mk (Below.trod laidOut (by kernel_rfl) (of_decide_eq_true (by kernel_rfl)) k0 bel lt0) (trodAll_cons_mk (Below.trod laidOut (by kernel_rfl) (of_decide_eq_true (by kernel_rfl)) k1 bel lt1) (trodAll_cons_mk (shut_int Try.underlying22 w2) trodAll_mk0))), rfl, bel.frame _, fun h => by cases h⟩

theorem adlerPieces_over : Rows.adlerPiecesRow.holds Try.pinned (OpenSpec.ofChange Rows.adlerPiecesSpec) :=
  OpenClaim.holds_of_wide 4 Try.f4 rfl rfl rfl rfl rfl rfl rfl ⟨rfl, rfl, rfl, rfl, rfl⟩ rfl rfl rfl rfl rfl (by kernel_rfl) Try.func4 (by kernel_rfl)
    (of_decide_eq_true (by kernel_rfl)) (by unfold Func.isWrapper; first | (rw [if_pos (by decide +kernel)]; kernel_rfl) | (rw [if_neg (by decide +kernel)]; exact ⟨rfl, rfl⟩))
    (fun os started H enc _ => adlerPieces_lifted os started H enc)

/-- The statement. -/
theorem adlerPieces_proved : Rows.AdlerPiecesSaid := adlerPieces_over
#print axioms adlerPieces_proved
end Go.Proofs.Ytokegociipcccaa
