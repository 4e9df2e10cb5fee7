/- ClassCut, walked. -/
import Derived.Test.YtokmeomjdpfknaaGreatDoorZaAQ
import Derived.Test.YtokmeomjdpfknaaGreatDoorZaAE
import Derived.Test.YtokmeomjdpfknaaGreatDoorZaC
namespace Go.Proofs.YtokmeomjdpfknaaGreatDoor
open Go.RowKit
set_option linter.unusedVariables false

set_option maxRecDepth 100000 in
set_option maxHeartbeats 16000000 in
theorem classCut_walk (w : World) (hT : Tabs w) (hM : Most w) (c : Cl) (vp vi vf vm : Value) (h : ClAt w c vp vi vf vm) (hr : ClRoom c) (hs : ClSize c) (hy : tot c.pool ≤ 1048576) (i : Int) (hi : B64 i) (z : Int) (hz : 0 ≤ z ∧ z < 256) :
    Calls Tryz.prog 7 #[.agg (c.vals vp vi vf vm), .int .i64 i, .int .u8 z] w fun e w' => e = .returned (.bool true) ∧ Ext w w' := by
  have HW := Lib.hid (fun W (e : Ext w W) => worksCl_any W (hT.ext e) (hM.ext e))
  have hg := good_of h hr
  have hlp := bytesZ_len c.pool
  have hB := fun W (e : Ext w W) => classBytes_any c vp vi vf vm W (h.ext e) hr hg (hT.ext e) (hM.ext e) (fun _ => by omega)
  have HT := Lib.hid hT
  have HM := Lib.hid hM
  obtain ⟨Ap, Akp, rfl, -⟩ := h.1.cut
  obtain ⟨Ai, Aki, rfl, -⟩ := h.2.1.cut
  obtain ⟨Af, Akf, rfl, -⟩ := h.2.2.1.cut
  obtain ⟨Am, Akm, rfl, -⟩ := h.2.2.2.cut
  have X0 := Lib.hid ((Ext.refl w).alloc (.cells #[.slice Ap c.pool.length Akp, .string c.nm, .string c.sup, .bool c.inf, .slice Ai c.ifs.length Aki, .slice Af c.fds.length Akf, .slice Am c.mts.length Akm] 27))
  have BX := Lib.hid (fun W (e : Ext (w.alloc (.cells #[.slice Ap c.pool.length Akp, .string c.nm, .string c.sup, .bool c.inf, .slice Ai c.ifs.length Aki, .slice Af c.fds.length Akf, .slice Am c.mts.length Akm] 27)) W) => (BK.new w #[.slice Ap c.pool.length Akp, .string c.nm, .string c.sup, .bool c.inf, .slice Ai c.ifs.length Aki, .slice Af c.fds.length Akf, .slice Am c.mts.length Akm] 27).ext e)
  by_cases hgood : okCl c = true ∧ (clZ c).length ≤ 65535
  · obtain ⟨ho, hl⟩ := hgood
    simp only [bytesK_ok ho hl] at hB
    have hpos : 0 < (clZ c).length := by unfold clZ; simp
    obtain ⟨k, hk, hkn⟩ := bring_nat i hpos
    have hless := fun hfit => parseK_less (c := c) hfit ho hg hkn hl
    have hmore : parseK (clZ c ++ [z]) = (cl0, 80) ∨ parseK (clZ c ++ [z]) = (cl0, 5) ∧ (clZ c).length = 65535 := by
      by_cases h65 : (clZ c).length = 65535
      · right
        refine ⟨?_, h65⟩
        unfold parseK
        rw [if_pos (by rw [List.length_append, h65, List.length_singleton]; omega)]
      · left
        exact parseK_more ho hg (by simp) (by rw [List.length_append, List.length_singleton]; omega)
    obtain ⟨d, hd⟩ : ∃ d, d = cl0 := ⟨_, rfl⟩
    rw [← hd] at hless hmore
    clear hd
    obtain ⟨b, hb⟩ : ∃ b, clZ c = b := ⟨_, rfl⟩
    rw [hb] at hl hpos hk hkn hless hmore
    simp only [hb] at hB
    have HB := Lib.hid hB
    have HL := Lib.hid hless
    have HMo := Lib.hid hmore
    obtain ⟨n, hn⟩ : ∃ n, b.length = n := ⟨_, rfl⟩
    have HN := Lib.hid hn
    rw [hn] at hl hpos hkn hk
    have HK := Lib.hid hk
    have hn0 : ((n : Int) == 0) = false := by simp; omega
    clear hB hg hr hs hy h ho hb hT hM hlp hless hmore hk
    unfold Cl.vals at HB ⊢
    go_enter Tryz.func7, Tryz.ntmps7
    go_wp2_with fail
    refine (HW.out _ X0.out).mono ?_
    rintro e w1 ⟨rfl, x1⟩
    have X1 := Lib.hid (X0.out.trans x1)
    have q0 : w1.cell? ⟨w.heap.size, 0, none⟩ = some (.slice Ap c.pool.length Akp) := (BX.out w1 x1).cell 0
    have q1 : w1.cell? ⟨w.heap.size, 1, none⟩ = some (.string c.nm) := (BX.out w1 x1).cell 1
    have q2 : w1.cell? ⟨w.heap.size, 2, none⟩ = some (.string c.sup) := (BX.out w1 x1).cell 2
    have q3 : w1.cell? ⟨w.heap.size, 3, none⟩ = some (.bool c.inf) := (BX.out w1 x1).cell 3
    have q4 : w1.cell? ⟨w.heap.size, 4, none⟩ = some (.slice Ai c.ifs.length Aki) := (BX.out w1 x1).cell 4
    have q5 : w1.cell? ⟨w.heap.size, 5, none⟩ = some (.slice Af c.fds.length Akf) := (BX.out w1 x1).cell 5
    have q6 : w1.cell? ⟨w.heap.size, 6, none⟩ = some (.slice Am c.mts.length Akm) := (BX.out w1 x1).cell 6
    clear x1
    go_wp2_with fail
    refine (HB.out _ X1.out).mono ?_
    rintro e w2 ⟨u, rfl, ⟨v2, rfl, ho2⟩, x2⟩
    have X2 := Lib.hid (X1.out.trans x2)
    have HO2 := Lib.hid ho2
    obtain ⟨v3, s3, s3', hh⟩ := head_slice ho2.row k (by rw [HN.out]; omega)
    have HPL := HL.out ho2.row.fit
    have hP3 := fun W (e : Ext w2 W) => classParse_any v3 (b.take k) W (hh.ext e) (HT.out.ext (X2.out.trans e)) (HM.out.ext (X2.out.trans e))
    simp only [HPL] at hP3
    have HP3 := Lib.hid hP3
    have R2 := Lib.hid ho2.row
    obtain ⟨A2, k2, rfl, hk2, hm2, -⟩ := id ho2.row
    rw [HN.out] at hk2 HO2 R2 s3 s3' ⊢
    clear hh ho2 x2 HPL hP3 q0 q1 q2 q3 q4 q5 q6
    go_wp2_with fail
    refine (bring_any i n _ hi.1 hi.2 (by omega) (by omega)).mono ?_
    rw [HK.out]
    rintro e w3 ⟨rfl, rfl⟩
    go_wp2_with fail
    refine (HP3.out _ (Ext.refl _)).mono ?_
    rintro e w4 ⟨u, rfl, ⟨vp4, vi4, vf4, vm4, rfl, ho4⟩, x4⟩
    have X4 := Lib.hid (X2.out.trans x4)
    have Y4 := Lib.hid (x4.alloc (.cells (d.vals vp4 vi4 vf4 vm4) 27))
    have h4 := ho4.at
    obtain ⟨Ep, Ekp, rfl, -⟩ := h4.1.cut
    obtain ⟨Ei, Eki, rfl, -⟩ := h4.2.1.cut
    obtain ⟨Ef, Ekf, rfl, -⟩ := h4.2.2.1.cut
    obtain ⟨Em, Ekm, rfl, -⟩ := h4.2.2.2.cut
    clear ho4 x4 s3 s3' h4
    unfold Cl.vals at Y4 ⊢
    go_wp2_with fail
    refine (copyBytes_any (.slice A2 n k2) b _ (R2.out.ext Y4.out) (by rw [HN.out]; omega)).mono ?_
    rintro e w5 ⟨v5, rfl, ho5, x5⟩
    have O5 := Lib.hid (ho5.base (show w2.heap.size ≤ _ from Y4.out.size))
    have Y5 := Lib.hid (Y4.out.trans x5)
    have RZ := Lib.hid (row_bytes (w := w5) w5.heap.size [z] rfl (fun x hx => by rw [List.mem_singleton.1 hx]; exact wf_u8 hz.1 (by omega)) (by simp))
    clear ho5 x5
    go_wp2_with (at_builtin; go_loud (refine wpList_app _ rfl _ _ w2.heap.size 29 5 _ 1 .u8 rfl Tryz.underlying29 info8 rfl (by omega) v5 b rfl (O5.out.ext ((Ext.refl _).alloc _)) _ [z] rfl RZ.out (by rw [HN.out, List.length_singleton]; omega) (by have := Y5.out.size; simp; omega) ?_); intro v6 w6 ho6 hg6 hb6)
    have Y6 := Lib.hid ((Y5.out.alloc _).grown hg6 O5.out.low)
    have X6 := Lib.hid (X2.out.trans Y6.out)
    obtain ⟨ee, hpm, hee⟩ : ∃ ee, parseK (b ++ [z]) = (d, ee) ∧ (ee = 80 ∨ ee = 5 ∧ n = 65535) := by
      rcases HMo.out with h | ⟨h, h'⟩
      · exact ⟨80, h, .inl rfl⟩
      · exact ⟨5, h, .inr ⟨rfl, by rw [← HN.out]; exact h'⟩⟩
    have hP7 := fun W (e : Ext w6 W) => classParse_any v6 (b ++ [z]) W (ho6.row.ext e) (HT.out.ext (X6.out.trans e)) (HM.out.ext (X6.out.trans e))
    simp only [hpm] at hP7
    have HP7 := Lib.hid hP7
    clear hP7 hpm ho6 hg6 hb6
    go_wp2_with fail
    refine (HP7.out _ (Ext.refl _)).mono ?_
    rintro e w7 ⟨u, rfl, ⟨vp7, vi7, vf7, vm7, rfl, ho7⟩, x7⟩
    have X7 := Lib.hid ((X6.out.trans x7).alloc (.cells (d.vals vp7 vi7 vf7 vm7) 27))
    have h7 := ho7.at
    obtain ⟨Gp, Gkp, rfl, -⟩ := h7.1.cut
    obtain ⟨Gi, Gki, rfl, -⟩ := h7.2.1.cut
    obtain ⟨Gf, Gkf, rfl, -⟩ := h7.2.2.1.cut
    obtain ⟨Gm, Gkm, rfl, -⟩ := h7.2.2.2.cut
    clear ho7 x7 h7
    unfold Cl.vals at X7 ⊢
    rcases hee with rfl | ⟨rfl, rfl⟩
    · go_wp2
      go_ret
      exact ⟨rfl, X7.out⟩
    · go_wp2
      go_ret
      exact ⟨rfl, X7.out⟩
  · have hbk : ¬ (bytesK c).2 = 0 := fun h => hgood (by
      unfold bytesK at h
      split at h <;> rename_i h1
      · split at h <;> rename_i h2
        · cases h
        · exact ⟨h1, by omega⟩
      · cases h)
    obtain ⟨⟨lb, eb⟩, heb⟩ : ∃ r, bytesK c = r := ⟨_, rfl⟩
    simp only [heb] at hB
    rw [heb] at hbk
    have hne : (eb != 0) = true := by simpa using hbk
    have HB := Lib.hid hB
    clear hB hg hr hs hy h hT hM hlp heb hbk hgood
    unfold Cl.vals at HB ⊢
    go_enter Tryz.func7, Tryz.ntmps7
    go_wp2_with fail
    refine (HW.out _ X0.out).mono ?_
    rintro e w1 ⟨rfl, x1⟩
    have X1 := Lib.hid (X0.out.trans x1)
    have q0 : w1.cell? ⟨w.heap.size, 0, none⟩ = some (.slice Ap c.pool.length Akp) := (BX.out w1 x1).cell 0
    have q1 : w1.cell? ⟨w.heap.size, 1, none⟩ = some (.string c.nm) := (BX.out w1 x1).cell 1
    have q2 : w1.cell? ⟨w.heap.size, 2, none⟩ = some (.string c.sup) := (BX.out w1 x1).cell 2
    have q3 : w1.cell? ⟨w.heap.size, 3, none⟩ = some (.bool c.inf) := (BX.out w1 x1).cell 3
    have q4 : w1.cell? ⟨w.heap.size, 4, none⟩ = some (.slice Ai c.ifs.length Aki) := (BX.out w1 x1).cell 4
    have q5 : w1.cell? ⟨w.heap.size, 5, none⟩ = some (.slice Af c.fds.length Akf) := (BX.out w1 x1).cell 5
    have q6 : w1.cell? ⟨w.heap.size, 6, none⟩ = some (.slice Am c.mts.length Akm) := (BX.out w1 x1).cell 6
    clear x1
    go_wp2_with fail
    refine (HB.out _ X1.out).mono ?_
    rintro e w2 ⟨u, rfl, ⟨v2, rfl, ho2⟩, x2⟩
    clear q0 q1 q2 q3 q4 q5 q6
    go_wp2
    go_ret
    exact ⟨rfl, X1.out.trans x2⟩
end Go.Proofs.YtokmeomjdpfknaaGreatDoor
