/- ClassSame, walked. -/
import Derived.Test.YtokmeomjdpfknaaGreatDoorZaAQ
import Derived.Test.YtokmeomjdpfknaaGreatDoorZaAE
namespace Go.Proofs.YtokmeomjdpfknaaGreatDoor
open Go.RowKit
set_option linter.unusedVariables false

theorem bytesK_zero {c : Cl} (h : (bytesK c).2 = 0) : okCl c = true ∧ (bytesK c).1 = clZ c := by
  unfold bytesK at h ⊢
  split at h <;> rename_i h1
  · rw [if_pos h1]
    split at h <;> rename_i h2
    · cases h
    · rw [if_neg h2]
      exact ⟨h1, rfl⟩
  · cases h
theorem same_bytes {a b : Cl} (ga : Good a) (gb : Good b) (ha : (bytesK a).2 = 0) (hb : (bytesK b).2 = 0) : decide (a = b) = decide ((bytesK a).1 = (bytesK b).1) := by
  obtain ⟨a1, a2⟩ := bytesK_zero ha
  obtain ⟨b1, b2⟩ := bytesK_zero hb
  rw [a2, b2]
  by_cases e : a = b
  · rw [decide_eq_true e, decide_eq_true (by rw [e])]
  · rw [decide_eq_false e, decide_eq_false fun h => e (clZ_inj a1 ga b1 gb h)]
set_option maxRecDepth 100000 in
set_option maxHeartbeats 16000000 in
theorem classSame_walk (w : World) (hT : Tabs w) (hM : Most w) (a : Cl) (vp vi vf vm : Value) (h : ClAt w a vp vi vf vm) (hr : ClRoom a) (hs : ClSize a) (hy : tot a.pool ≤ 1048576) (b : Cl) (vp' vi' vf' vm' : Value) (h' : ClAt w b vp' vi' vf' vm') (hr' : ClRoom b) (hs' : ClSize b) (hy' : tot b.pool ≤ 1048576) :
    Calls Tryz.prog 8 #[.agg (a.vals vp vi vf vm), .agg (b.vals vp' vi' vf' vm')] w fun e w' => e = .returned (.bool true) ∧ Ext w w' := by
  have HW := Lib.hid (fun W (e : Ext w W) => worksCl_any W (hT.ext e) (hM.ext e))
  have hg := good_of h hr
  have hg' := good_of h' hr'
  have l1 := bytesZ_len a.pool
  have l2 := bytesZ_len b.pool
  have hB := fun W (e : Ext w W) => classBytes_any a vp vi vf vm W (h.ext e) hr hg (hT.ext e) (hM.ext e) (fun _ => by omega)
  have hB2 := fun W (e : Ext w W) => classBytes_any b vp' vi' vf' vm' W (h'.ext e) hr' hg' (hT.ext e) (hM.ext e) (fun _ => by omega)
  have hS := fun W (e : Ext w W) => classSame_any a b vp vi vf vm vp' vi' vf' vm' W (h.ext e) (h'.ext e) hr hr'
  have hS2 := fun W (e : Ext w W) => classSame_any b a vp' vi' vf' vm' vp vi vf vm W (h'.ext e) (h.ext e) hr' hr
  have hS3 := fun W (e : Ext w W) => classSame_any a a vp vi vf vm vp vi vf vm W (h.ext e) (h.ext e) hr hr
  have hfin := same_bytes hg hg'
  simp only [decide_true] at hS3
  have hsym : decide (b = a) = decide (a = b) := by
    by_cases e : a = b
    · rw [decide_eq_true e, decide_eq_true e.symm]
    · rw [decide_eq_false e, decide_eq_false fun h => e h.symm]
  simp only [hsym] at hS2
  obtain ⟨s, hs0⟩ : ∃ s, decide (a = b) = s := ⟨_, rfl⟩
  simp only [hs0] at hS hS2
  rw [hs0] at hfin
  obtain ⟨⟨la, ea⟩, hea⟩ : ∃ r, bytesK a = r := ⟨_, rfl⟩
  obtain ⟨⟨lb, eb⟩, heb⟩ : ∃ r, bytesK b = r := ⟨_, rfl⟩
  simp only [hea] at hB
  simp only [heb] at hB2
  rw [hea, heb] at hfin
  simp only at hfin
  obtain ⟨Ap, Akp, rfl, -⟩ := h.1.cut
  obtain ⟨Ai, Aki, rfl, -⟩ := h.2.1.cut
  obtain ⟨Af, Akf, rfl, -⟩ := h.2.2.1.cut
  obtain ⟨Am, Akm, rfl, -⟩ := h.2.2.2.cut
  obtain ⟨Dp, Dkp, rfl, -⟩ := h'.1.cut
  obtain ⟨Di, Dki, rfl, -⟩ := h'.2.1.cut
  obtain ⟨Df, Dkf, rfl, -⟩ := h'.2.2.1.cut
  obtain ⟨Dm, Dkm, rfl, -⟩ := h'.2.2.2.cut
  have HB := Lib.hid hB
  have HB2 := Lib.hid hB2
  have HS := Lib.hid hS
  have HS2 := Lib.hid hS2
  have HS3 := Lib.hid hS3
  have X0 := Lib.hid (((Ext.refl w).alloc (.cells #[.slice Ap a.pool.length Akp, .string a.nm, .string a.sup, .bool a.inf, .slice Ai a.ifs.length Aki, .slice Af a.fds.length Akf, .slice Am a.mts.length Akm] 27)).alloc (.cells #[.slice Dp b.pool.length Dkp, .string b.nm, .string b.sup, .bool b.inf, .slice Di b.ifs.length Dki, .slice Df b.fds.length Dkf, .slice Dm b.mts.length Dkm] 27))
  have BX := Lib.hid (fun W (e : Ext ((w.alloc (.cells #[.slice Ap a.pool.length Akp, .string a.nm, .string a.sup, .bool a.inf, .slice Ai a.ifs.length Aki, .slice Af a.fds.length Akf, .slice Am a.mts.length Akm] 27)).alloc (.cells #[.slice Dp b.pool.length Dkp, .string b.nm, .string b.sup, .bool b.inf, .slice Di b.ifs.length Dki, .slice Df b.fds.length Dkf, .slice Dm b.mts.length Dkm] 27)) W) => ((BK.new w #[.slice Ap a.pool.length Akp, .string a.nm, .string a.sup, .bool a.inf, .slice Ai a.ifs.length Aki, .slice Af a.fds.length Akf, .slice Am a.mts.length Akm] 27).ext ((Ext.refl _).alloc (.cells #[.slice Dp b.pool.length Dkp, .string b.nm, .string b.sup, .bool b.inf, .slice Di b.ifs.length Dki, .slice Df b.fds.length Dkf, .slice Dm b.mts.length Dkm] 27))).ext e)
  have BY := Lib.hid (fun W (e : Ext ((w.alloc (.cells #[.slice Ap a.pool.length Akp, .string a.nm, .string a.sup, .bool a.inf, .slice Ai a.ifs.length Aki, .slice Af a.fds.length Akf, .slice Am a.mts.length Akm] 27)).alloc (.cells #[.slice Dp b.pool.length Dkp, .string b.nm, .string b.sup, .bool b.inf, .slice Di b.ifs.length Dki, .slice Df b.fds.length Dkf, .slice Dm b.mts.length Dkm] 27)) W) => (show BK _ (w.heap.size + 1) #[.slice Dp b.pool.length Dkp, .string b.nm, .string b.sup, .bool b.inf, .slice Di b.ifs.length Dki, .slice Df b.fds.length Dkf, .slice Dm b.mts.length Dkm] 27 from by have := BK.new (w.alloc (.cells #[.slice Ap a.pool.length Akp, .string a.nm, .string a.sup, .bool a.inf, .slice Ai a.ifs.length Aki, .slice Af a.fds.length Akf, .slice Am a.mts.length Akm] 27)) #[.slice Dp b.pool.length Dkp, .string b.nm, .string b.sup, .bool b.inf, .slice Di b.ifs.length Dki, .slice Df b.fds.length Dkf, .slice Dm b.mts.length Dkm] 27; simpa [BK] using this).ext e)
  have hss : (s != s) = false := by cases s <;> rfl
  clear hB hB2 hS hS2 hS3 h h' hg hg' hr hr' l1 l2 hy hy' hs hs' hsym hs0 hT hM hea heb
  unfold Cl.vals at HB HB2 HS HS2 HS3 ⊢
  have HF := Lib.hid hfin
  clear hfin
  go_enter Tryz.func8, Tryz.ntmps8
  go_wp2_with fail
  refine (HW.out _ X0.out).mono ?_
  rintro e w1 ⟨rfl, x1⟩
  have E1 := Lib.hid x1
  have X1 := Lib.hid (X0.out.trans x1)
  have q0 : w1.cell? ⟨w.heap.size, 0, none⟩ = some (.slice Ap a.pool.length Akp) := (BX.out w1 x1).cell 0
  have q1 : w1.cell? ⟨w.heap.size, 1, none⟩ = some (.string a.nm) := (BX.out w1 x1).cell 1
  have q2 : w1.cell? ⟨w.heap.size, 2, none⟩ = some (.string a.sup) := (BX.out w1 x1).cell 2
  have q3 : w1.cell? ⟨w.heap.size, 3, none⟩ = some (.bool a.inf) := (BX.out w1 x1).cell 3
  have q4 : w1.cell? ⟨w.heap.size, 4, none⟩ = some (.slice Ai a.ifs.length Aki) := (BX.out w1 x1).cell 4
  have q5 : w1.cell? ⟨w.heap.size, 5, none⟩ = some (.slice Af a.fds.length Akf) := (BX.out w1 x1).cell 5
  have q6 : w1.cell? ⟨w.heap.size, 6, none⟩ = some (.slice Am a.mts.length Akm) := (BX.out w1 x1).cell 6
  have r0 : w1.cell? ⟨w.heap.size + 1, 0, none⟩ = some (.slice Dp b.pool.length Dkp) := (BY.out w1 x1).cell 0
  have r1 : w1.cell? ⟨w.heap.size + 1, 1, none⟩ = some (.string b.nm) := (BY.out w1 x1).cell 1
  have r2 : w1.cell? ⟨w.heap.size + 1, 2, none⟩ = some (.string b.sup) := (BY.out w1 x1).cell 2
  have r3 : w1.cell? ⟨w.heap.size + 1, 3, none⟩ = some (.bool b.inf) := (BY.out w1 x1).cell 3
  have r4 : w1.cell? ⟨w.heap.size + 1, 4, none⟩ = some (.slice Di b.ifs.length Dki) := (BY.out w1 x1).cell 4
  have r5 : w1.cell? ⟨w.heap.size + 1, 5, none⟩ = some (.slice Df b.fds.length Dkf) := (BY.out w1 x1).cell 5
  have r6 : w1.cell? ⟨w.heap.size + 1, 6, none⟩ = some (.slice Dm b.mts.length Dkm) := (BY.out w1 x1).cell 6
  clear x1
  go_wp2_with fail
  refine (HB.out _ X1.out).mono ?_
  rintro e w2 ⟨u, rfl, ⟨v2, rfl, ho2⟩, x2⟩
  have E2 := Lib.hid (E1.out.trans x2)
  have X2 := Lib.hid (X1.out.trans x2)
  have R2 := Lib.hid ho2.row
  obtain ⟨A2, k2, rfl, -⟩ := id ho2.row
  clear q0 q1 q2 q3 q4 q5 q6 r0 r1 r2 r3 r4 r5 r6 x2 ho2
  have q0 : w2.cell? ⟨w.heap.size, 0, none⟩ = some (.slice Ap a.pool.length Akp) := (BX.out w2 E2.out).cell 0
  have q1 : w2.cell? ⟨w.heap.size, 1, none⟩ = some (.string a.nm) := (BX.out w2 E2.out).cell 1
  have q2 : w2.cell? ⟨w.heap.size, 2, none⟩ = some (.string a.sup) := (BX.out w2 E2.out).cell 2
  have q3 : w2.cell? ⟨w.heap.size, 3, none⟩ = some (.bool a.inf) := (BX.out w2 E2.out).cell 3
  have q4 : w2.cell? ⟨w.heap.size, 4, none⟩ = some (.slice Ai a.ifs.length Aki) := (BX.out w2 E2.out).cell 4
  have q5 : w2.cell? ⟨w.heap.size, 5, none⟩ = some (.slice Af a.fds.length Akf) := (BX.out w2 E2.out).cell 5
  have q6 : w2.cell? ⟨w.heap.size, 6, none⟩ = some (.slice Am a.mts.length Akm) := (BX.out w2 E2.out).cell 6
  have r0 : w2.cell? ⟨w.heap.size + 1, 0, none⟩ = some (.slice Dp b.pool.length Dkp) := (BY.out w2 E2.out).cell 0
  have r1 : w2.cell? ⟨w.heap.size + 1, 1, none⟩ = some (.string b.nm) := (BY.out w2 E2.out).cell 1
  have r2 : w2.cell? ⟨w.heap.size + 1, 2, none⟩ = some (.string b.sup) := (BY.out w2 E2.out).cell 2
  have r3 : w2.cell? ⟨w.heap.size + 1, 3, none⟩ = some (.bool b.inf) := (BY.out w2 E2.out).cell 3
  have r4 : w2.cell? ⟨w.heap.size + 1, 4, none⟩ = some (.slice Di b.ifs.length Dki) := (BY.out w2 E2.out).cell 4
  have r5 : w2.cell? ⟨w.heap.size + 1, 5, none⟩ = some (.slice Df b.fds.length Dkf) := (BY.out w2 E2.out).cell 5
  have r6 : w2.cell? ⟨w.heap.size + 1, 6, none⟩ = some (.slice Dm b.mts.length Dkm) := (BY.out w2 E2.out).cell 6
  go_wp2_with fail
  refine (HB2.out _ X2.out).mono ?_
  rintro e w3 ⟨u, rfl, ⟨v3, rfl, ho3⟩, x3⟩
  have E3 := Lib.hid (E2.out.trans x3)
  have X3 := Lib.hid (X2.out.trans x3)
  have R2' := Lib.hid (R2.out.ext x3)
  have R3 := Lib.hid ho3.row
  obtain ⟨A3, k3, rfl, -⟩ := id ho3.row
  clear q0 q1 q2 q3 q4 q5 q6 r0 r1 r2 r3 r4 r5 r6 x3 ho3
  have q0 : w3.cell? ⟨w.heap.size, 0, none⟩ = some (.slice Ap a.pool.length Akp) := (BX.out w3 E3.out).cell 0
  have q1 : w3.cell? ⟨w.heap.size, 1, none⟩ = some (.string a.nm) := (BX.out w3 E3.out).cell 1
  have q2 : w3.cell? ⟨w.heap.size, 2, none⟩ = some (.string a.sup) := (BX.out w3 E3.out).cell 2
  have q3 : w3.cell? ⟨w.heap.size, 3, none⟩ = some (.bool a.inf) := (BX.out w3 E3.out).cell 3
  have q4 : w3.cell? ⟨w.heap.size, 4, none⟩ = some (.slice Ai a.ifs.length Aki) := (BX.out w3 E3.out).cell 4
  have q5 : w3.cell? ⟨w.heap.size, 5, none⟩ = some (.slice Af a.fds.length Akf) := (BX.out w3 E3.out).cell 5
  have q6 : w3.cell? ⟨w.heap.size, 6, none⟩ = some (.slice Am a.mts.length Akm) := (BX.out w3 E3.out).cell 6
  have r0 : w3.cell? ⟨w.heap.size + 1, 0, none⟩ = some (.slice Dp b.pool.length Dkp) := (BY.out w3 E3.out).cell 0
  have r1 : w3.cell? ⟨w.heap.size + 1, 1, none⟩ = some (.string b.nm) := (BY.out w3 E3.out).cell 1
  have r2 : w3.cell? ⟨w.heap.size + 1, 2, none⟩ = some (.string b.sup) := (BY.out w3 E3.out).cell 2
  have r3 : w3.cell? ⟨w.heap.size + 1, 3, none⟩ = some (.bool b.inf) := (BY.out w3 E3.out).cell 3
  have r4 : w3.cell? ⟨w.heap.size + 1, 4, none⟩ = some (.slice Di b.ifs.length Dki) := (BY.out w3 E3.out).cell 4
  have r5 : w3.cell? ⟨w.heap.size + 1, 5, none⟩ = some (.slice Df b.fds.length Dkf) := (BY.out w3 E3.out).cell 5
  have r6 : w3.cell? ⟨w.heap.size + 1, 6, none⟩ = some (.slice Dm b.mts.length Dkm) := (BY.out w3 E3.out).cell 6
  go_wp2_with fail
  refine (HS.out _ X3.out).mono ?_
  rintro e w4 ⟨rfl, x4⟩
  have E4 := Lib.hid (E3.out.trans x4)
  have X4 := Lib.hid (X3.out.trans x4)
  have Z4 := Lib.hid x4
  clear q0 q1 q2 q3 q4 q5 q6 r0 r1 r2 r3 r4 r5 r6 x4
  have q0 : w4.cell? ⟨w.heap.size, 0, none⟩ = some (.slice Ap a.pool.length Akp) := (BX.out w4 E4.out).cell 0
  have q1 : w4.cell? ⟨w.heap.size, 1, none⟩ = some (.string a.nm) := (BX.out w4 E4.out).cell 1
  have q2 : w4.cell? ⟨w.heap.size, 2, none⟩ = some (.string a.sup) := (BX.out w4 E4.out).cell 2
  have q3 : w4.cell? ⟨w.heap.size, 3, none⟩ = some (.bool a.inf) := (BX.out w4 E4.out).cell 3
  have q4 : w4.cell? ⟨w.heap.size, 4, none⟩ = some (.slice Ai a.ifs.length Aki) := (BX.out w4 E4.out).cell 4
  have q5 : w4.cell? ⟨w.heap.size, 5, none⟩ = some (.slice Af a.fds.length Akf) := (BX.out w4 E4.out).cell 5
  have q6 : w4.cell? ⟨w.heap.size, 6, none⟩ = some (.slice Am a.mts.length Akm) := (BX.out w4 E4.out).cell 6
  have r0 : w4.cell? ⟨w.heap.size + 1, 0, none⟩ = some (.slice Dp b.pool.length Dkp) := (BY.out w4 E4.out).cell 0
  have r1 : w4.cell? ⟨w.heap.size + 1, 1, none⟩ = some (.string b.nm) := (BY.out w4 E4.out).cell 1
  have r2 : w4.cell? ⟨w.heap.size + 1, 2, none⟩ = some (.string b.sup) := (BY.out w4 E4.out).cell 2
  have r3 : w4.cell? ⟨w.heap.size + 1, 3, none⟩ = some (.bool b.inf) := (BY.out w4 E4.out).cell 3
  have r4 : w4.cell? ⟨w.heap.size + 1, 4, none⟩ = some (.slice Di b.ifs.length Dki) := (BY.out w4 E4.out).cell 4
  have r5 : w4.cell? ⟨w.heap.size + 1, 5, none⟩ = some (.slice Df b.fds.length Dkf) := (BY.out w4 E4.out).cell 5
  have r6 : w4.cell? ⟨w.heap.size + 1, 6, none⟩ = some (.slice Dm b.mts.length Dkm) := (BY.out w4 E4.out).cell 6
  go_wp2_with fail
  refine (HS3.out _ X4.out).mono ?_
  rintro e w5 ⟨rfl, x5⟩
  have E5 := Lib.hid (E4.out.trans x5)
  have X5 := Lib.hid (X4.out.trans x5)
  have Z5 := Lib.hid (Z4.out.trans x5)
  clear q0 q1 q2 q3 q4 q5 q6 r0 r1 r2 r3 r4 r5 r6 x5
  have q0 : w5.cell? ⟨w.heap.size, 0, none⟩ = some (.slice Ap a.pool.length Akp) := (BX.out w5 E5.out).cell 0
  have q1 : w5.cell? ⟨w.heap.size, 1, none⟩ = some (.string a.nm) := (BX.out w5 E5.out).cell 1
  have q2 : w5.cell? ⟨w.heap.size, 2, none⟩ = some (.string a.sup) := (BX.out w5 E5.out).cell 2
  have q3 : w5.cell? ⟨w.heap.size, 3, none⟩ = some (.bool a.inf) := (BX.out w5 E5.out).cell 3
  have q4 : w5.cell? ⟨w.heap.size, 4, none⟩ = some (.slice Ai a.ifs.length Aki) := (BX.out w5 E5.out).cell 4
  have q5 : w5.cell? ⟨w.heap.size, 5, none⟩ = some (.slice Af a.fds.length Akf) := (BX.out w5 E5.out).cell 5
  have q6 : w5.cell? ⟨w.heap.size, 6, none⟩ = some (.slice Am a.mts.length Akm) := (BX.out w5 E5.out).cell 6
  have r0 : w5.cell? ⟨w.heap.size + 1, 0, none⟩ = some (.slice Dp b.pool.length Dkp) := (BY.out w5 E5.out).cell 0
  have r1 : w5.cell? ⟨w.heap.size + 1, 1, none⟩ = some (.string b.nm) := (BY.out w5 E5.out).cell 1
  have r2 : w5.cell? ⟨w.heap.size + 1, 2, none⟩ = some (.string b.sup) := (BY.out w5 E5.out).cell 2
  have r3 : w5.cell? ⟨w.heap.size + 1, 3, none⟩ = some (.bool b.inf) := (BY.out w5 E5.out).cell 3
  have r4 : w5.cell? ⟨w.heap.size + 1, 4, none⟩ = some (.slice Di b.ifs.length Dki) := (BY.out w5 E5.out).cell 4
  have r5 : w5.cell? ⟨w.heap.size + 1, 5, none⟩ = some (.slice Df b.fds.length Dkf) := (BY.out w5 E5.out).cell 5
  have r6 : w5.cell? ⟨w.heap.size + 1, 6, none⟩ = some (.slice Dm b.mts.length Dkm) := (BY.out w5 E5.out).cell 6
  go_wp2_with fail
  refine (HS2.out _ X5.out).mono ?_
  rintro e w6 ⟨rfl, x6⟩
  have X6 := Lib.hid (X5.out.trans x6)
  have Z6 := Lib.hid (Z5.out.trans x6)
  clear q0 q1 q2 q3 q4 q5 q6 r0 r1 r2 r3 r4 r5 r6 x6
  by_cases z1 : ea = 0
  · by_cases z2 : eb = 0
    · have hf := HF.out z1 z2
      have n1 : (ea != 0) = false := by simp [z1]
      have n2 : (eb != 0) = false := by simp [z2]
      have hd : (s == decide (la = lb)) = true := by rw [hf]; simp
      have HD := Lib.hid hd
      obtain ⟨t, ht⟩ : ∃ t, decide (la = lb) = t := ⟨_, rfl⟩
      clear z1 z2 hf hd
      go_wp2_with fail
      refine (eqBytes_ext _ _ la lb _ (R2'.out.ext Z6.out) (R3.out.ext Z6.out)).mono ?_
      rintro e w7 ⟨rfl, x7⟩
      have hD := HD.out
      rw [ht] at hD ⊢
      clear ht
      go_wp2
      go_ret
      exact ⟨rfl, X6.out.trans x7⟩
    · have n1 : (ea != 0) = false := by simp [z1]
      have n2 : (eb != 0) = true := by simp [z2]
      clear z1 z2
      go_wp2
      go_ret
      exact ⟨rfl, X6.out⟩
  · have n1 : (ea != 0) = true := by simp [z1]
    clear z1
    go_wp2
    go_ret
    exact ⟨rfl, X6.out⟩
end Go.Proofs.YtokmeomjdpfknaaGreatDoor
