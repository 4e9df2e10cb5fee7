/- DescrReads: Type, Proto and IsName answer as the chapter says. Of every text. -/
import Derived.Test.YtibcaienaejgpaaDOpen
import Derived.Test.YtibcaienaejgpaaDescY
import Derived.Test.YtibcaienaejgpaaDescW
namespace Go.Proofs.Ytibcaienaejgpaa
open Go.ChangeShapes Go.WideShapes Go.ChangeAt Go.RowKit
open Go.ChangeMaps (open_string shut_string)
set_option linter.unusedVariables false
theorem AtT.more {w w' : World} {g : Nat} {t : Ty} {o : Obj} (h : AtT w g t) (hg : g < w.heap.size) (x : Ext (w.alloc o) w') : AtT w' g t ∧ g < w'.heap.size :=
  ⟨h.ext (((Ext.refl w).alloc o).trans x) hg, by have := x.size; simp at this; omega⟩
theorem AtT.made (w : World) (t : Ty) {w' : World} (x : Ext (w.alloc (.cells t.vals 23)) w') : AtT w' w.heap.size t ∧ w.heap.size < w'.heap.size :=
  ⟨(AtT.of (t := t) (heap_alloc_new w _)).ext x (by simp), by have := x.size; simp at this; omega⟩
set_option maxRecDepth 100000 in
set_option maxHeartbeats 8000000 in
theorem descrReads_walk (w : World) (l : List UInt8) (hl : l.length ≤ 140737488351232) : Calls Try.prog 3 #[.string (bs l)] w (fun e w' => e = .returned (.bool true) ∧ Ext w w') := by
  have hbs := bs_nil l
  have hT := fun W => Type_any l hl W
  have hT2 := fun W => refType_any l hl W
  have hP := fun W => Proto_any l hl W
  have hP2 := fun W => refProto_any l hl W
  have hI := fun W => IsName_any l W hl
  have hI2 := fun W => refIsName_any l W hl
  unfold ProtoAns at hP hP2
  unfold Quiet at hI2
  obtain ⟨Z, hZ⟩ : ∃ Z, Z = typeZ l := ⟨_, rfl⟩
  obtain ⟨Y, hY⟩ : ∃ Y, Y = protoZ l := ⟨_, rfl⟩
  obtain ⟨b, hb⟩ : ∃ b, b = nameB l := ⟨_, rfl⟩
  rw [← hZ] at hT hT2
  rw [← hY] at hP hP2
  rw [← hb] at hI hI2
  have hS := fun W v1 v2 (r1 : RowT W v1 Y.1.args) (r2 : RowT W v2 Y.1.args) => refSameProto_any v1 v2 Y.1 Y.1 W r1 r2
  rw [show eqP Y.1 Y.1 = true by simp [eqP]] at hS
  have hq := fun W => run_eqT Z.1 Z.1 W
  rw [show eqT Z.1 Z.1 = true by simp [eqT]] at hq
  unfold Ty.vals at hT hT2 hq
  unfold Pr.vals at hP hP2 hS
  have HT := Lib.hid hT
  have HT2 := Lib.hid hT2
  have HP := Lib.hid hP
  have HP2 := Lib.hid hP2
  have HS := Lib.hid hS
  have HI := Lib.hid hI
  have HI2 := Lib.hid hI2
  have hz1 : (Z.2 == Z.2) = true := by simp
  have hy1 : (Y.2 == Y.2) = true := by simp
  obtain ⟨n, hn⟩ : ∃ n, n = Y.1.args.length := ⟨_, rfl⟩
  have Hn := Lib.hid hn
  clear hT hT2 hP hP2 hS hI hI2 hZ hY hb hn
  go_enter Try.func3, Try.ntmps3
  go_wp2_with fail
  refine (HT.out _).mono ?_
  rintro e w1 ⟨rfl, x1⟩
  go_wp2_with fail
  refine (HT2.out _).mono ?_
  rintro e w2 ⟨rfl, x2⟩
  obtain ⟨a2, hl2⟩ := AtT.made w1 Z.1 x2
  have X2 := Lib.hid ((x1.alloc (.cells Z.1.vals 23)).trans x2)
  clear x1 x2
  go_wp2_with fail
  refine (HP.out _).mono ?_
  rintro e w3 ⟨v3, rfl, r3, x3⟩
  obtain ⟨a3, hl3⟩ := a2.more hl2 x3
  obtain ⟨b3, hm3⟩ := AtT.made w2 Z.1 x3
  obtain ⟨A3, k3, hv3, hk3, hm3'⟩ := r3.cut
  rw [← Hn.out] at hv3
  subst hv3
  have X3 := Lib.hid ((X2.out.alloc (.cells Z.1.vals 23)).trans x3)
  have R3 := Lib.hid (r3.ext ((Ext.refl _).alloc (.cells (Y.1.vals (.slice A3 n k3)) 29)))
  have P3 := Lib.hid (AtP.of (heap_alloc_new w3 (.cells (Y.1.vals (.slice A3 n k3)) 29)))
  clear x3 a2 r3
  go_wp2_with fail
  refine (HP2.out _).mono ?_
  rintro e w4 ⟨v4, rfl, r4, x4⟩
  obtain ⟨a4, hl4⟩ := a3.more hl3 x4
  obtain ⟨b4, hm4⟩ := b3.more hm3 x4
  have P4 := Lib.hid (P3.out.ext x4 (by simp))
  have R4 := Lib.hid (R3.out.ext x4)
  have hp4 : w3.heap.size < w4.heap.size := by have := x4.size; simp at this; omega
  obtain ⟨A4, k4, hv4, hk4, hm4'⟩ := r4.cut
  rw [← Hn.out] at hv4
  subst hv4
  have X4 := Lib.hid ((X3.out.alloc (.cells (Y.1.vals (.slice A3 n k3)) 29)).trans x4)
  have Q4 := Lib.hid (r4.ext ((Ext.refl _).alloc (.cells (Y.1.vals (.slice A4 n k4)) 29)))
  have S4 := Lib.hid (R4.out.ext ((Ext.refl _).alloc (.cells (Y.1.vals (.slice A4 n k4)) 29)))
  have X4' := Lib.hid (X4.out.alloc (.cells (Y.1.vals (.slice A4 n k4)) 29))
  clear x4 a3 b3 r4
  obtain ⟨y0, y1⟩ := id a4
  obtain ⟨z0, z1⟩ := id b4
  obtain ⟨p0, p1, p2⟩ := P4.out
  go_wp2_with fail
  refine (HS.out _ _ _ S4.out Q4.out).mono ?_
  rintro e w5 ⟨rfl, x5⟩
  have X5 := Lib.hid (X4'.out.trans x5)
  clear x5 y0 y1 z0 z1 p0 p1 p2 a4 b4
  go_wp2_with fail
  refine (HI.out _).mono ?_
  rintro e w6 ⟨rfl, x6⟩
  go_wp2_with fail
  refine (HI2.out _).mono ?_
  rintro e w7 ⟨rfl, m, rfl⟩
  have X7 := Lib.hid ((X5.out.trans x6).drewN m)
  clear x6
  cases b
  · go_wp2_with fail
    refine (works_any _).mono ?_
    rintro e w8 ⟨rfl, x8⟩
    go_wp2
    go_ret
    exact ⟨rfl, X7.out.trans x8⟩
  · go_wp2_with fail
    refine (works_any _).mono ?_
    rintro e w8 ⟨rfl, x8⟩
    go_wp2
    go_ret
    exact ⟨rfl, X7.out.trans x8⟩

set_option maxRecDepth 100000 in
theorem descrReads_lifted (os : Os) (started : os.Started) (H : Type) (enc : TypeId × Value → H) :
    ReturnsInHanded {} Try.checked os 3 .any (Rows.descrReadsSpec.pre6 enc Try.prog Try.f3 Rows.descrReadsRow.domain false) (Rows.descrReadsSpec.post enc Try.prog Try.f3 false true false false) := by
  refine returnsInHanded_of_change_sized (C := Try.checked) own started (by kernel_rfl) Try.func3
    (ChangeSpec.witness6 (enc := enc) (C := Try.checked) false ⟨#[], #[.string ⟨#[]⟩], []⟩ 8 (by kernel_rfl) (by kernel_rfl) (by kernel_rfl) (by kernel_rfl)) ?_
  intro W base args ds gs before hval0 hW hcnd hsz0 _
  have hval : ∀ (j : Nat) t v, Try.f3.params[j]? = some t → args[j]? = some v → Value.okWide Try.prog W .any base t v := hval0
  have hsz : (DataW.weightsEach Try.prog (Try.f3.params.toList ++ Rows.descrReadsSpec.plain.varTypes Try.prog) (ds ++ gs)).all (· ≤ reachBytes) = true := hsz0
  have hW' := hW
  obtain ⟨p, q, hA0, hV, rfl, hfz, hnd⟩ := hW
  have hA : DataW.TrodAll enc Try.prog W 0 (fun _ => true) true Try.f3.params.toList args.toList ds p := hA0
  rw [Try.params3] at hA hval hsz
  obtain ⟨v0, vs0, d0, ds0, p0, q0, hargs, rfl, rfl, h0, r0⟩ := trodAll_cons hA
  obtain ⟨rfl, rfl, rfl⟩ := trodAll_nil r0
  obtain rfl : args = #[v0] := by cases args; simp_all
  obtain ⟨rfl, rfl⟩ := trodVars_none hV
  obtain ⟨a0, rfl, rfl, rfl, w0⟩ := open_string Try.underlying9 (hval 0 9 v0 rfl rfl) h0
  have z0 : a0.data.toList.length ≤ 140737488351232 := sized_string hsz (j := 0) rfl rfl
  clear hA0 hval0 hsz0
  refine (descrReads_walk W a0.data.toList z0).mono fun e W' ⟨he, bel⟩ => ?_
  subst he
  exact ⟨_, rfl, _, _, _, [], _, [], hW', trodAll_mk1 (shut_bool Try.underlying4 _), (trodAll_cons_mk (shut_string Try.underlying9 w0) trodAll_mk0), rfl, bel.frame _, fun h => by cases h⟩

theorem descrReads_over : Rows.descrReadsRow.holds Try.pinned (OpenSpec.ofChange Rows.descrReadsSpec) :=
  OpenClaim.holds_of_wide 3 Try.f3 rfl rfl rfl rfl rfl rfl rfl ⟨rfl, rfl, rfl, rfl, rfl⟩ rfl rfl rfl rfl rfl (by kernel_rfl) Try.func3 (by kernel_rfl)
    (of_decide_eq_true (by kernel_rfl)) (by unfold Func.isWrapper; first | (rw [if_pos (by decide +kernel)]; kernel_rfl) | (rw [if_neg (by decide +kernel)]; exact ⟨rfl, rfl⟩))
    (fun os started H enc _ => descrReads_lifted os started H enc)

/-- The statement. -/
theorem descrReads_proved : Rows.DescrReadsSaid := descrReads_over
#print axioms descrReads_proved
end Go.Proofs.Ytibcaienaejgpaa
