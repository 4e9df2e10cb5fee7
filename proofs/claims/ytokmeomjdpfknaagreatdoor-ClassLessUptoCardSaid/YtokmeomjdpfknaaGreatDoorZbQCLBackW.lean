/- ClassBack, walked. -/
import Derived.Test.YtokmeomjdpfknaaGreatDoorZbAP
import Derived.Test.YtokmeomjdpfknaaGreatDoorZbAQ
namespace Go.Proofs.YtokmeomjdpfknaaGreatDoor
open Go.RowKit
set_option linter.unusedVariables false

set_option maxRecDepth 100000 in
set_option maxHeartbeats 16000000 in
theorem classBack_any (w : World) (hT : Tabs w) (hM : Most w) (c : Cl) (vp vi vf vm : Value) (h : ClAt w c vp vi vf vm) (hr : ClRoom c) (hp : (bytesZ c.pool).length ≤ 50000000) :
    Calls Tryz.prog 5 #[.agg (c.vals vp vi vf vm)] w fun e w' => e = .returned (.bool true) ∧ Ext w w' := by
  have HW := Lib.hid (fun W (e : Ext w W) => worksCl_any W (hT.ext e) (hM.ext e))
  have hg := good_of h hr
  have hB := fun W (e : Ext w W) => classBytes_any c vp vi vf vm W (h.ext e) hr hg (hT.ext e) (hM.ext e) (fun _ => by omega)
  have hC := fun W (e : Ext w W) => classCheck_any c vp vi vf vm W (h.ext e) hr (hT.ext e) (hM.ext e)
  have HT := Lib.hid hT
  have HM := Lib.hid hM
  have hS := fun W vp' vi' vf' vm' (e : Ext w W) (h' : ClAt W c vp' vi' vf' vm') => classSame_any c c vp vi vf vm vp' vi' vf' vm' W (h.ext e) h' hr hr
  have hS2 := fun W vp' vi' vf' vm' (e : Ext w W) (h' : ClAt W c vp' vi' vf' vm') => refClassSame_any c c vp vi vf vm vp' vi' vf' vm' W (h.ext e) h' hr hr
  simp only [decide_true] at hS hS2
  have HS := Lib.hid hS
  have HS2 := Lib.hid hS2
  clear hS hS2
  obtain ⟨Ap, Akp, rfl, -⟩ := h.1.cut
  obtain ⟨Ai, Aki, rfl, -⟩ := h.2.1.cut
  obtain ⟨Af, Akf, rfl, -⟩ := h.2.2.1.cut
  obtain ⟨Am, Akm, rfl, -⟩ := h.2.2.2.cut
  have BX := Lib.hid (fun W (e : Ext (w.alloc (.cells (c.vals (.slice Ap c.pool.length Akp) (.slice Ai c.ifs.length Aki) (.slice Af c.fds.length Akf) (.slice Am c.mts.length Akm)) 27)) W) => (BK.new w (c.vals (.slice Ap c.pool.length Akp) (.slice Ai c.ifs.length Aki) (.slice Af c.fds.length Akf) (.slice Am c.mts.length Akm)) 27).ext e)
  have X0 := Lib.hid ((Ext.refl w).alloc (.cells (c.vals (.slice Ap c.pool.length Akp) (.slice Ai c.ifs.length Aki) (.slice Af c.fds.length Akf) (.slice Am c.mts.length Akm)) 27))
  by_cases ho : okCl c = true
  · simp only [chkK_ok ho] at hC
    have HC := Lib.hid hC
    by_cases hl : (clZ c).length ≤ 65535
    · simp only [bytesK_ok ho hl] at hB
      have hpk := parseK_fwd ho hg hl
      obtain ⟨b, hb⟩ : ∃ b, clZ c = b := ⟨_, rfl⟩
      rw [hb] at hpk hl
      simp only [hb] at hB
      have HB := Lib.hid hB
      have HPK := Lib.hid hpk
      have hl2 : (b.length : Int) ≤ 65535 := by omega
      clear hB hC hg hr h ho hp hpk hb hT hM hl
      unfold Cl.vals at BX HB HC HS HS2 X0 ⊢
      go_enter Tryz.func5, Tryz.ntmps5
      go_wp2_with fail
      refine (HW.out _ X0.out).mono ?_
      rintro e w1 ⟨rfl, x1⟩
      have X1 := Lib.hid (X0.out.trans x1)
      have E1 := Lib.hid x1
      obtain ⟨q0, q1, q2, q3, q4, q5, q6⟩ := cells7 (BX.out w1 x1)
      clear x1
      go_wp2_with fail
      refine (HB.out _ X1.out).mono ?_
      rintro e w2 ⟨u, rfl, ⟨v2, rfl, ho2⟩, x2⟩
      have X2 := Lib.hid (X1.out.trans x2)
      have E2 := Lib.hid (E1.out.trans x2)
      have hr2 := ho2.row
      obtain ⟨A2, k2, rfl, -⟩ := id hr2
      have HP := classParse_any (.slice A2 b.length k2) b w2 hr2 (HT.out.ext X2.out) (HM.out.ext X2.out)
      rw [HPK.out] at HP
      have HPP := Lib.hid HP
      clear HP hr2 ho2 x2 q0 q1 q2 q3 q4 q5 q6
      unfold Cl.vals at HPP
      go_wp2_with fail
      refine HPP.out.mono ?_
      rintro e w3 ⟨u, rfl, ⟨vp', vi', vf', vm', rfl, ho3⟩, x3⟩
      have X3 := Lib.hid (X2.out.trans x3)
      have E3 := Lib.hid (E2.out.trans x3)
      have h3 := ho3.at
      have H3 := Lib.hid h3
      obtain ⟨Dp', Dkp', rfl, -⟩ := h3.1.cut
      obtain ⟨Di', Dki', rfl, -⟩ := h3.2.1.cut
      obtain ⟨Df', Dkf', rfl, -⟩ := h3.2.2.1.cut
      obtain ⟨Dm', Dkm', rfl, -⟩ := h3.2.2.2.cut
      have BY := Lib.hid (fun W (e : Ext (w3.alloc (.cells #[.slice Dp' c.pool.length Dkp', .string c.nm, .string c.sup, .bool c.inf, .slice Di' c.ifs.length Dki', .slice Df' c.fds.length Dkf', .slice Dm' c.mts.length Dkm'] 27)) W) => (BK.new w3 #[.slice Dp' c.pool.length Dkp', .string c.nm, .string c.sup, .bool c.inf, .slice Di' c.ifs.length Dki', .slice Df' c.fds.length Dkf', .slice Dm' c.mts.length Dkm'] 27).ext e)
      have Y3 := Lib.hid ((Ext.refl w3).alloc (.cells #[.slice Dp' c.pool.length Dkp', .string c.nm, .string c.sup, .bool c.inf, .slice Di' c.ifs.length Dki', .slice Df' c.fds.length Dkf', .slice Dm' c.mts.length Dkm'] 27))
      unfold Cl.vals
      obtain ⟨q0, q1, q2, q3, q4, q5, q6⟩ := cells7 (BX.out (w3.alloc (.cells #[.slice Dp' c.pool.length Dkp', .string c.nm, .string c.sup, .bool c.inf, .slice Di' c.ifs.length Dki', .slice Df' c.fds.length Dkf', .slice Dm' c.mts.length Dkm'] 27)) (E3.out.trans Y3.out))
      clear h3 ho3 x3
      go_wp2_with fail
      refine (HC.out _ (X3.out.trans Y3.out)).mono ?_
      rintro e w4 ⟨rfl, x4⟩
      clear q0 q1 q2 q3 q4 q5 q6
      have X4 := Lib.hid ((X3.out.trans Y3.out).trans x4)
      have H4 := Lib.hid (H3.out.ext (Y3.out.trans x4))
      have F4 := Lib.hid x4
      obtain ⟨q0, q1, q2, q3, q4, q5, q6⟩ := cells7 (BX.out w4 ((E3.out.trans Y3.out).trans x4))
      obtain ⟨r0, r1, r2, r3, r4, r5, r6⟩ := cells7 (BY.out w4 x4)
      clear x4
      go_wp2_with fail
      refine (HS.out _ _ _ _ _ X4.out H4.out).mono ?_
      rintro e w5 ⟨rfl, x5⟩
      clear q0 q1 q2 q3 q4 q5 q6 r0 r1 r2 r3 r4 r5 r6
      obtain ⟨q0, q1, q2, q3, q4, q5, q6⟩ := cells7 (BX.out w5 ((E3.out.trans Y3.out).trans (F4.out.trans x5)))
      obtain ⟨r0, r1, r2, r3, r4, r5, r6⟩ := cells7 (BY.out w5 (F4.out.trans x5))
      have X5 := Lib.hid (X4.out.trans x5)
      have H5 := Lib.hid (H4.out.ext x5)
      clear x5
      go_wp2_with fail
      refine (HS2.out _ _ _ _ _ X5.out H5.out).mono ?_
      rintro e w6 ⟨rfl, x6⟩
      go_wp2
      go_ret
      exact ⟨rfl, X5.out.trans x6⟩
    · have hbk : bytesK c = ([], 5) := by unfold bytesK; rw [if_pos ho, if_pos (by omega)]
      simp only [hbk] at hB
      have HB := Lib.hid hB
      clear hB hC hg hr h ho hp hbk hT hM hl HS HS2
      unfold Cl.vals at BX HB HC X0 ⊢
      go_enter Tryz.func5, Tryz.ntmps5
      go_wp2_with fail
      refine (HW.out _ X0.out).mono ?_
      rintro e w1 ⟨rfl, x1⟩
      have X1 := Lib.hid (X0.out.trans x1)
      have E1 := Lib.hid x1
      obtain ⟨q0, q1, q2, q3, q4, q5, q6⟩ := cells7 (BX.out w1 x1)
      clear x1
      go_wp2_with fail
      refine (HB.out _ X1.out).mono ?_
      rintro e w2 ⟨u, rfl, ⟨v2, rfl, ho2⟩, x2⟩
      have X2 := Lib.hid (X1.out.trans x2)
      have hr2 := ho2.row
      obtain ⟨A2, k2, rfl, -⟩ := id hr2
      obtain ⟨r0, r1, r2, r3, r4, r5, r6⟩ := cells7 (BX.out w2 (E1.out.trans x2))
      clear hr2 ho2 x2 q0 q1 q2 q3 q4 q5 q6
      go_wp2_with fail
      refine (HC.out _ X2.out).mono ?_
      rintro e w3 ⟨rfl, x3⟩
      clear r0 r1 r2 r3 r4 r5 r6
      go_wp2
      go_ret
      exact ⟨rfl, X2.out.trans x3⟩
  · simp only [chkK_no ho] at hC
    have HC := Lib.hid hC
    · have hbk : bytesK c = ([], 80) := by unfold bytesK; rw [if_neg ho]
      simp only [hbk] at hB
      have HB := Lib.hid hB
      clear hB hC hg hr h ho hp hbk hT hM HS HS2
      unfold Cl.vals at BX HB HC X0 ⊢
      go_enter Tryz.func5, Tryz.ntmps5
      go_wp2_with fail
      refine (HW.out _ X0.out).mono ?_
      rintro e w1 ⟨rfl, x1⟩
      have X1 := Lib.hid (X0.out.trans x1)
      have E1 := Lib.hid x1
      obtain ⟨q0, q1, q2, q3, q4, q5, q6⟩ := cells7 (BX.out w1 x1)
      clear x1
      go_wp2_with fail
      refine (HB.out _ X1.out).mono ?_
      rintro e w2 ⟨u, rfl, ⟨v2, rfl, ho2⟩, x2⟩
      have X2 := Lib.hid (X1.out.trans x2)
      have hr2 := ho2.row
      obtain ⟨A2, k2, rfl, -⟩ := id hr2
      obtain ⟨r0, r1, r2, r3, r4, r5, r6⟩ := cells7 (BX.out w2 (E1.out.trans x2))
      clear hr2 ho2 x2 q0 q1 q2 q3 q4 q5 q6
      go_wp2_with fail
      refine (HC.out _ X2.out).mono ?_
      rintro e w3 ⟨rfl, x3⟩
      clear r0 r1 r2 r3 r4 r5 r6
      go_wp2
      go_ret
      exact ⟨rfl, X2.out.trans x3⟩
end Go.Proofs.YtokmeomjdpfknaaGreatDoor
