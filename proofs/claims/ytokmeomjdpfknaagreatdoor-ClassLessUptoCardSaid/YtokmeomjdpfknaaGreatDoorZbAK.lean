/- Several texts of this proof, one behind the other. -/
import Derived.Test.YtokmeomjdpfknaaGreatDoorZbAJ
import Derived.Lib.AppendZeros
namespace Go.Proofs.YtokmeomjdpfknaaGreatDoor
open Go.RowKit
set_option linter.unusedVariables false

theorem txA_code {l : List Int} (h : Fit .u8 l) : txA (strOfNums l) = nu l.length ++ l := by
  unfold txA
  rw [str_size, ub_str h]
theorem meZ_ab {m : Me} (h : m.ab = true) : meZ m = (nu 2 ++ txA m.nm) ++ txA (bs (textP m.pr)) := by
  unfold meZ kdZ
  rw [h]
  simp only [if_true, List.append_nil, List.append_assoc]
theorem meZ_co {m : Me} (h : m.ab = false) (hf : Fit .u8 m.code) : meZ m = ((((nu (flg m.st) ++ txA m.nm) ++ txA (bs (textP m.pr))) ++ [m.sk, m.lo].flatMap nu) ++ txA (strOfNums m.code)) ++ lsZ hdZ m.hs := by
  unfold meZ kdZ meT
  rw [h, txA_code hf]
  simp only [Bool.false_eq_true, if_false, List.flatMap_cons, List.flatMap_nil, List.append_nil, List.append_assoc]
set_option maxRecDepth 100000 in
set_option maxHeartbeats 4000000 in
theorem wmethA (w0 w : World) (g : Nat) (l : List Int) (m : Me) (va vc vh : Value) (h : WR w0 w g l) (ha : ShT.Row w0 va m.args) (hn : nmB m.nm = true) (hp : checkP m.pr = 0) (hr : MeRoom m) (hab : m.ab = true) (hz : l.length + 18000 ≤ 140737488355328) :
    Calls Tryz.prog 69 #[.pointer (some ⟨g, 0, none⟩), .agg (m.vals va vc vh)] w (WRet w0 w g (l ++ meZ m)) := by
  obtain ⟨n1, n2, n3⟩ := txA_name hn
  obtain ⟨t1, t2, t3⟩ := tx_proto hp
  have hfz : l ++ meZ m = ((l ++ nu 2) ++ txA m.nm) ++ txA (bs (textP m.pr)) := by rw [meZ_ab hab]; simp only [List.append_assoc]
  have q2 : NN 2 := ⟨by omega, by omega⟩
  have z1 := nu_len q2
  obtain ⟨wa, hwa⟩ : ∃ W, (w.alloc (.cells (m.vals va vc vh) 47)).alloc (.cells #[.int .i64 2] 3) = W := ⟨_, rfl⟩
  have E0 : Ext w wa := hwa ▸ ((Ext.refl w).alloc _).alloc _
  have C1 := Lib.hid (numbers_any w0 wa g l [2] (w.heap.size + 1) 1 rfl (h.ext E0) (fun n hn => by rw [List.mem_singleton.1 hn]; exact q2) (by rw [← hwa]; have := BK.new (w.alloc (.cells (m.vals va vc vh) 47)) #[.int .i64 2] 3; simpa [BK] using this) (by simp; omega))
  rw [one_flat] at C1
  have C2 := Lib.hid (fun W (hW : WR w0 W g (l ++ nu 2)) => wtext_any w0 W g _ m.nm hW n1 (by rw [List.length_append]; omega))
  have C3 := Lib.hid (fun W (hW : Ext w0 W) => WriteProto_k m va W (ha.ext hW) hr)
  rw [t1] at C3
  have C4 := Lib.hid (fun W (hW : WR w0 W g ((l ++ nu 2) ++ txA m.nm)) => wtext_any w0 W g _ (bs (textP m.pr)) hW t2 (by rw [List.length_append, List.length_append]; omega))
  have B0 : Hid (BK wa w.heap.size (m.vals va vc vh) 47) := Lib.hid (hwa ▸ (BK.new w _ _).ext ((Ext.refl _).alloc _))
  have K0 := Lib.hid (Kp.ext E0)
  have HWA := Lib.hid hwa.symm
  rw [← hfz] at C4
  obtain ⟨L3, hL3⟩ : ∃ L, l ++ meZ m = L := ⟨_, rfl⟩
  obtain ⟨L2, hL2⟩ : ∃ L, (l ++ nu 2) ++ txA m.nm = L := ⟨_, rfl⟩
  obtain ⟨L1, hL1⟩ : ∃ L, l ++ nu 2 = L := ⟨_, rfl⟩
  obtain ⟨tx, htx⟩ : ∃ x, bs (textP m.pr) = x := ⟨_, rfl⟩
  rw [hL3] at C4 ⊢
  rw [hL2] at C2 C4
  rw [hL1] at C1 C2
  rw [htx] at C4
  simp only [htx] at C3
  clear h ha hn hp hr hz q2 n1 n2 n3 t1 t2 t3 hfz z1 hL1 hL2 hL3 htx E0 hwa
  obtain ⟨st, ab, nm, ret, args, sk, lo, code, hs⟩ := m
  obtain ⟨k, s⟩ := ret
  simp only at hab
  subst hab
  unfold Me.vals at B0 HWA ⊢
  simp only at C1 C2 C3 B0 HWA ⊢
  go_enter Tryz.func69, Tryz.ntmps69
  go_wp2_with fail
  rw [← HWA.out]
  refine C1.out.mono ?_
  rintro x w1 ⟨rfl, h1, k1⟩
  have B1 := Lib.hid (k1.2 _ _ _ B0.out (by decide) (by decide))
  have K1 := Lib.hid (K0.out.trans k1)
  have D2 := Lib.hid (C2.out w1 h1)
  have y1 : w1.cell? ⟨w.heap.size, 2, none⟩ = some (.string nm) := B1.out.cell 2
  clear h1 k1
  go_wp2_with fail
  refine D2.out.mono ?_
  rintro x w2 ⟨rfl, h2, k2⟩
  have B2 := Lib.hid (k2.2 _ _ _ B1.out (by decide) (by decide))
  have K2 := Lib.hid (K1.out.trans k2)
  have H2 := Lib.hid h2
  have y2 : w2.cell? ⟨w.heap.size, 3, none⟩ = some (.int .i64 k) := B2.out.cell 3
  have y3 : w2.cell? ⟨w.heap.size, 4, none⟩ = some (.string s) := B2.out.cell 4
  have y4 : w2.cell? ⟨w.heap.size, 5, none⟩ = some va := B2.out.cell 5
  clear h2 k2 y1
  go_wp2_with fail
  refine (C3.out w2 H2.out.ext0).mono ?_
  rintro x w3 ⟨rfl, x3⟩
  have D4 := Lib.hid (C4.out w3 (H2.out.ext x3))
  have K3 := Lib.hid (K2.out.trans (Kp.ext x3))
  have B3 := Lib.hid (B2.out.ext x3)
  clear x3 y2 y3 y4
  go_wp2_with fail
  refine D4.out.mono ?_
  rintro x w4 ⟨rfl, h4, k4⟩
  have B4 := Lib.hid (k4.2 _ _ _ B3.out (by decide) (by decide))
  have y5 : w4.cell? ⟨w.heap.size, 1, none⟩ = some (.bool true) := B4.out.cell 1
  have K4 := Lib.hid (K3.out.trans k4)
  have H4 := Lib.hid h4
  clear k4 h4
  go_wp2
  refine bodyPost_ret (results_tmp0 rfl _ _ _) rfl ?_
  exact ⟨rfl, H4.out, K4.out⟩
set_option maxRecDepth 100000 in
set_option maxHeartbeats 8000000 in
theorem wmethC (w0 w : World) (g : Nat) (l : List Int) (m : Me) (va vc vh : Value) (h : WR w0 w g l) (ha : MeAt w0 m va vc vh) (hn : nmB m.nm = true) (hp : checkP m.pr = 0) (hr : MeRoom m) (hab : m.ab = false) (hf : Fit .u8 m.code)
    (hq : NN m.sk ∧ NN m.lo ∧ m.code.length ≤ 8192 ∧ m.hs.length ≤ 256 ∧ ∀ h ∈ m.hs, HdOk h) (hz : l.length + 18000 ≤ 140737488355328) :
    Calls Tryz.prog 69 #[.pointer (some ⟨g, 0, none⟩), .agg (m.vals va vc vh)] w (WRet w0 w g (l ++ meZ m)) := by
  obtain ⟨n1, n2, n3⟩ := txA_name hn
  obtain ⟨t1, t2, t3⟩ := tx_proto hp
  obtain ⟨q1, q2, q3, q4, q5⟩ := hq
  have hfz : l ++ meZ m = (((((l ++ nu (flg m.st)) ++ txA m.nm) ++ txA (bs (textP m.pr))) ++ [m.sk, m.lo].flatMap nu) ++ txA (strOfNums m.code)) ++ lsZ hdZ m.hs := by rw [meZ_co hab hf]; simp only [List.append_assoc]
  have z1 := nu_len (flg_nn m.st).1
  have z2 := txA_len _ t2
  have z3 : ([m.sk, m.lo].flatMap nu).length ≤ 16 := by
    have := nu_len q1
    have := nu_len q2
    simp only [List.flatMap_cons, List.flatMap_nil, List.append_nil, List.length_append]
    omega
  have z4 : (txA (strOfNums m.code)).length ≤ 8200 := by
    rw [txA_code hf, List.length_append]
    have := nu_len (n := (m.code.length : Int)) ⟨by omega, by omega⟩
    omega
  have tc : TX (strOfNums m.code) := by unfold TX; rw [str_size]; omega
  have C1 := Lib.hid (mark_any w0 _ g l m.st (h.ext ((Ext.refl w).alloc (.cells (m.vals va vc vh) 47))) (by omega))
  have C2 := Lib.hid (fun W (hW : WR w0 W g (l ++ nu (flg m.st))) => wtext_any w0 W g _ m.nm hW n1 (by rw [List.length_append]; omega))
  have C3 := Lib.hid (fun W (hW : Ext w0 W) => WriteProto_k m va W (ha.1.ext hW) hr)
  rw [t1] at C3
  have C4 := Lib.hid (fun W (hW : WR w0 W g ((l ++ nu (flg m.st)) ++ txA m.nm)) => wtext_any w0 W g _ (bs (textP m.pr)) hW t2 (by simp only [List.length_append]; omega))
  have C5 : Hid (∀ W gn, WR w0 W g (((l ++ nu (flg m.st)) ++ txA m.nm) ++ txA (bs (textP m.pr))) → BK W gn #[.int .i64 m.sk, .int .i64 m.lo] 3 → Calls Tryz.prog 117 #[.pointer (some ⟨g, 0, none⟩), .slice (some ⟨gn, 0, none⟩) 2 2] W (WRet w0 W g ((((l ++ nu (flg m.st)) ++ txA m.nm) ++ txA (bs (textP m.pr))) ++ [m.sk, m.lo].flatMap nu))) :=
    Lib.hid (fun W gn hW hb => numbers_any w0 W g _ [m.sk, m.lo] gn 2 rfl hW (fun n hn => by simp at hn; rcases hn with rfl | rfl <;> assumption) (by simpa using hb) (by simp only [List.length_append, List.length_cons, List.length_nil]; omega))
  have C6 := Lib.hid (fun W (hW : WR w0 W g ((((l ++ nu (flg m.st)) ++ txA m.nm) ++ txA (bs (textP m.pr))) ++ [m.sk, m.lo].flatMap nu)) => wtext_any w0 W g _ (strOfNums m.code) hW tc (by rw [str_size]; simp only [List.length_append]; omega))
  have C7 := Lib.hid (fun W (hW : WR w0 W g (((((l ++ nu (flg m.st)) ++ txA m.nm) ++ txA (bs (textP m.pr))) ++ [m.sk, m.lo].flatMap nu) ++ txA (strOfNums m.code))) => putH_any w0 W g _ 121 hdZ 32 vh m.hs hW ha.2.2 q4 (by simp only [List.length_append]; omega) (fun x hx => hdZ_len (q5 x hx)) (fun args W => rfl)
    (fun W l x hx hW hl => whandler_any w0 W g l x hW (q5 x hx) hl))
  have B0 := Lib.hid (BK.new w (m.vals va vc vh) 47)
  have K0 := Lib.hid (Kp.ext ((Ext.refl w).alloc (.cells (m.vals va vc vh) 47)))
  have HC := Lib.hid ha.2.1
  rw [← hfz] at C7
  obtain ⟨L6, hL6⟩ : ∃ L, l ++ meZ m = L := ⟨_, rfl⟩
  obtain ⟨L5, hL5⟩ : ∃ L, (((((l ++ nu (flg m.st)) ++ txA m.nm) ++ txA (bs (textP m.pr))) ++ [m.sk, m.lo].flatMap nu) ++ txA (strOfNums m.code)) = L := ⟨_, rfl⟩
  obtain ⟨L4, hL4⟩ : ∃ L, ((((l ++ nu (flg m.st)) ++ txA m.nm) ++ txA (bs (textP m.pr))) ++ [m.sk, m.lo].flatMap nu) = L := ⟨_, rfl⟩
  obtain ⟨L3, hL3⟩ : ∃ L, (((l ++ nu (flg m.st)) ++ txA m.nm) ++ txA (bs (textP m.pr))) = L := ⟨_, rfl⟩
  obtain ⟨L2, hL2⟩ : ∃ L, (l ++ nu (flg m.st)) ++ txA m.nm = L := ⟨_, rfl⟩
  obtain ⟨L1, hL1⟩ : ∃ L, l ++ nu (flg m.st) = L := ⟨_, rfl⟩
  obtain ⟨tx, htx⟩ : ∃ x, bs (textP m.pr) = x := ⟨_, rfl⟩
  rw [hL6] at C7 ⊢
  rw [hL5] at C6 C7
  rw [hL4] at C5 C6
  rw [hL3] at C4 C5
  rw [hL2] at C2 C4
  rw [hL1] at C1 C2
  rw [htx] at C4
  simp only [htx] at C3
  clear h ha hn hp hr hz n1 n2 n3 t1 t2 t3 hfz z1 z2 z3 z4 tc q1 q2 q3 q4 q5 hf hL1 hL2 hL3 hL4 hL5 hL6 htx
  obtain ⟨st, ab, nm, ret, args, sk, lo, code, hs⟩ := m
  obtain ⟨k, s⟩ := ret
  simp only at hab
  subst hab
  unfold Me.vals at C1 B0 K0 ⊢
  simp only at C1 C2 C3 C4 C5 C6 C7 B0 K0 HC ⊢
  go_enter Tryz.func69, Tryz.ntmps69
  go_wp2_with fail
  refine C1.out.mono ?_
  rintro x w1 ⟨rfl, h1, k1⟩
  have B1 := Lib.hid (k1.2 _ _ _ B0.out (by decide) (by decide))
  have K1 := Lib.hid (K0.out.trans k1)
  have D2 := Lib.hid (C2.out w1 h1)
  have y1 : w1.cell? ⟨w.heap.size, 2, none⟩ = some (.string nm) := B1.out.cell 2
  clear h1 k1
  go_wp2_with fail
  refine D2.out.mono ?_
  rintro x w2 ⟨rfl, h2, k2⟩
  have B2 := Lib.hid (k2.2 _ _ _ B1.out (by decide) (by decide))
  have K2 := Lib.hid (K1.out.trans k2)
  have H2 := Lib.hid h2
  have y2 : w2.cell? ⟨w.heap.size, 3, none⟩ = some (.int .i64 k) := B2.out.cell 3
  have y3 : w2.cell? ⟨w.heap.size, 4, none⟩ = some (.string s) := B2.out.cell 4
  have y4 : w2.cell? ⟨w.heap.size, 5, none⟩ = some va := B2.out.cell 5
  clear h2 k2 y1
  go_wp2_with fail
  refine (C3.out w2 H2.out.ext0).mono ?_
  rintro x w3 ⟨rfl, x3⟩
  have D4 := Lib.hid (C4.out w3 (H2.out.ext x3))
  have K3 := Lib.hid (K2.out.trans (Kp.ext x3))
  have B3 := Lib.hid (B2.out.ext x3)
  clear x3 y2 y3 y4
  go_wp2_with fail
  refine D4.out.mono ?_
  rintro x w4 ⟨rfl, h4, k4⟩
  have B4 := Lib.hid (k4.2 _ _ _ B3.out (by decide) (by decide))
  have y5 : w4.cell? ⟨w.heap.size, 1, none⟩ = some (.bool false) := B4.out.cell 1
  have y6 : w4.cell? ⟨w.heap.size, 6, none⟩ = some (.int .i64 sk) := B4.out.cell 6
  have y7 : w4.cell? ⟨w.heap.size, 7, none⟩ = some (.int .i64 lo) := B4.out.cell 7
  have D5 := Lib.hid (C5.out _ w4.heap.size (h4.ext ((Ext.refl w4).alloc (.cells #[.int .i64 sk, .int .i64 lo] 3))) (BK.new w4 _ _))
  have K4 := Lib.hid ((K3.out.trans k4).trans (Kp.ext ((Ext.refl w4).alloc (.cells #[.int .i64 sk, .int .i64 lo] 3))))
  have B5 := Lib.hid (B4.out.ext ((Ext.refl w4).alloc (.cells #[.int .i64 sk, .int .i64 lo] 3)))
  clear k4 h4
  go_wp2_with fail
  refine D5.out.mono ?_
  rintro x w5 ⟨rfl, h5, k5⟩
  have B6 := Lib.hid (k5.2 _ _ _ B5.out (by decide) (by decide))
  have K5 := Lib.hid (K4.out.trans k5)
  have y8 : w5.cell? ⟨w.heap.size, 8, none⟩ = some vc := B6.out.cell 8
  have hcv := (HC.out.ext h5.ext0).conv
  have D6 := Lib.hid (C6.out w5 h5)
  clear k5 h5 y5 y6 y7
  go_wp2_with fail
  refine D6.out.mono ?_
  rintro x w6 ⟨rfl, h6, k6⟩
  have B7 := Lib.hid (k6.2 _ _ _ B6.out (by decide) (by decide))
  have K6 := Lib.hid (K5.out.trans k6)
  have y9 : w6.cell? ⟨w.heap.size, 9, none⟩ = some vh := B7.out.cell 9
  have D7 := Lib.hid (C7.out w6 h6)
  clear k6 h6 y8 hcv
  go_wp2_with fail
  refine D7.out.mono ?_
  rintro x w7 ⟨rfl, h7, k7⟩
  have H7 := Lib.hid h7
  have K7 := Lib.hid (K6.out.trans k7)
  clear k7 h7 y9
  go_wp2
  refine bodyPost_ret (results_tmp0 rfl _ _ _) rfl ?_
  exact ⟨rfl, H7.out, K7.out⟩
theorem wmethod_any (pool : List Cst) (w0 w : World) (g : Nat) (l : List Int) (m : Me) (va vc vh : Value) (h : WR w0 w g l) (ha : MeAt w0 m va vc vh) (hp : pool.length ≤ 4096) (ho : okMe pool m = true) (hf : Fit .u8 m.code) (hr : MeRoom m) (hz : l.length + 18000 ≤ 140737488355328) :
    Calls Tryz.prog 69 #[.pointer (some ⟨g, 0, none⟩), .agg (m.vals va vc vh)] w (WRet w0 w g (l ++ meZ m)) := by
  obtain ⟨h1, h2, h3⟩ := me_parts hp ho hf
  cases hab : m.ab
  · exact wmethC w0 w g l m va vc vh h ha h1 h2 hr hab hf (h3 hab) hz
  · exact wmethA w0 w g l m va vc vh h ha.1 h1 h2 hr hab hz
end Go.Proofs.YtokmeomjdpfknaaGreatDoor
namespace Go.Proofs.YtokmeomjdpfknaaGreatDoor
open Go.RowKit
set_option linter.unusedVariables false

set_option maxRecDepth 100000 in
set_option maxHeartbeats 8000000 in
theorem wclass_any (w0 w : World) (g : Nat) (l : List Int) (c : Cl) (vp vi vf vm : Value) (h : WR w0 w g l) (ha : ClAt w0 c vp vi vf vm) (ho : okCl c = true) (hg : Good c) (hr : ClRoom c) (hz : l.length + 5000000 ≤ 140737488355328) :
    Calls Tryz.prog 30 #[.pointer (some ⟨g, 0, none⟩), .agg (c.vals vp vi vf vm)] w (WRet w0 w g (l ++ tlZ c)) := by
  obtain ⟨p1, p2, p3, p4, p5, p6, p7, p8, p9⟩ := okCl_parts ho
  have hpl := (check_all p1).1
  obtain ⟨n1, n2, n3⟩ := txA_name p2
  have hs : TX c.sup ∧ c.sup.size ≤ 64 ∧ (txA c.sup).length ≤ 72 := by
    rcases p3 with h3 | h3
    · rw [h3]
      have e : (ByteArray.empty).size = 0 := rfl
      have t : TX .empty := Nat.zero_le _
      have := txA_len _ t
      exact ⟨t, by omega, by omega⟩
    · exact txA_name h3
  obtain ⟨s1, s2, s3⟩ := hs
  have z1 := nu_len (flg_nn c.inf).1
  have z4 : (lsZ txA c.ifs).length ≤ 8 + c.ifs.length * 72 := lsZ_len (f := txA) (fun x hx => (txA_name (p5 x hx)).2.2) (by omega)
  have z5 : (lsZ fdZ c.fds).length ≤ 8 + c.fds.length * 160 := lsZ_len (f := fdZ) (fun x hx => fdZ_len (p7 x hx)) p6
  have hfz : l ++ tlZ c = (((((l ++ nu (flg c.inf)) ++ txA c.nm) ++ txA c.sup) ++ lsZ txA c.ifs) ++ lsZ fdZ c.fds) ++ lsZ meZ c.mts := by unfold tlZ; simp only [List.append_assoc]
  have C1 := Lib.hid (mark_any w0 _ g l c.inf (h.ext ((Ext.refl w).alloc (.cells (c.vals vp vi vf vm) 27))) (by omega))
  have C2 := Lib.hid (fun W (hW : WR w0 W g (l ++ nu (flg c.inf))) => wtext_any w0 W g _ c.nm hW n1 (by rw [List.length_append]; omega))
  have C3 := Lib.hid (fun W (hW : WR w0 W g ((l ++ nu (flg c.inf)) ++ txA c.nm)) => wtext_any w0 W g _ c.sup hW s1 (by simp only [List.length_append]; omega))
  have C4 := Lib.hid (fun W (hW : WR w0 W g (((l ++ nu (flg c.inf)) ++ txA c.nm) ++ txA c.sup)) => putS_any w0 W g _ 64 txA 72 vi c.ifs hW ha.2.1 (by omega) (by simp only [List.length_append]; omega) (fun x hx => (txA_name (p5 x hx)).2.2) (fun args W => rfl)
    (fun W l x hx hW hl => wtext_any w0 W g l x hW (txA_name (p5 x hx)).1 (by have := (txA_name (p5 x hx)).2.1; omega)))
  have C5 := Lib.hid (fun W (hW : WR w0 W g ((((l ++ nu (flg c.inf)) ++ txA c.nm) ++ txA c.sup) ++ lsZ txA c.ifs)) => putF_any w0 W g _ 67 fdZ 160 vf c.fds hW ha.2.2.1 p6 (by simp only [List.length_append]; omega) (fun x hx => fdZ_len (p7 x hx)) (fun args W => rfl)
    (fun W l x hx hW hl => wfield_any w0 W g l x hW (p7 x hx) (hr.fds x hx).2 hl))
  have C6 := Lib.hid (fun W (hW : WR w0 W g (((((l ++ nu (flg c.inf)) ++ txA c.nm) ++ txA c.sup) ++ lsZ txA c.ifs) ++ lsZ fdZ c.fds)) => putM_any w0 W g _ 69 meZ 18000 vm c.mts hW ha.2.2.2 p8 (by simp only [List.length_append]; omega) (fun x hx => meZ_len hpl (p9 x hx) (hg.2 x hx)) (fun args W => rfl)
    (fun W l x va vc vh hx hM hW hl => wmethod_any c.pool w0 W g l x va vc vh hW hM hpl (p9 x hx) (hg.2 x hx) (hr.mts x hx) hl))
  have B0 := Lib.hid (BK.new w (c.vals vp vi vf vm) 27)
  have K0 := Lib.hid (Kp.ext ((Ext.refl w).alloc (.cells (c.vals vp vi vf vm) 27)))
  rw [← hfz] at C6
  obtain ⟨L6, hL6⟩ : ∃ L, l ++ tlZ c = L := ⟨_, rfl⟩
  obtain ⟨L5, hL5⟩ : ∃ L, (((((l ++ nu (flg c.inf)) ++ txA c.nm) ++ txA c.sup) ++ lsZ txA c.ifs) ++ lsZ fdZ c.fds) = L := ⟨_, rfl⟩
  obtain ⟨L4, hL4⟩ : ∃ L, ((((l ++ nu (flg c.inf)) ++ txA c.nm) ++ txA c.sup) ++ lsZ txA c.ifs) = L := ⟨_, rfl⟩
  obtain ⟨L3, hL3⟩ : ∃ L, (((l ++ nu (flg c.inf)) ++ txA c.nm) ++ txA c.sup) = L := ⟨_, rfl⟩
  obtain ⟨L2, hL2⟩ : ∃ L, (l ++ nu (flg c.inf)) ++ txA c.nm = L := ⟨_, rfl⟩
  obtain ⟨L1, hL1⟩ : ∃ L, l ++ nu (flg c.inf) = L := ⟨_, rfl⟩
  rw [hL6] at C6 ⊢
  rw [hL5] at C5 C6
  rw [hL4] at C4 C5
  rw [hL3] at C3 C4
  rw [hL2] at C2 C3
  rw [hL1] at C1 C2
  clear h ha ho hg hr hz p1 p2 p3 p4 p5 p6 p7 p8 p9 hpl n1 n2 n3 s1 s2 s3 z1 z4 z5 hfz hL1 hL2 hL3 hL4 hL5 hL6
  obtain ⟨pool, inf, nm, sup, ifs, fds, mts⟩ := c
  unfold Cl.vals at C1 B0 K0 ⊢
  simp only at C1 C2 C3 C4 C5 C6 B0 K0 ⊢
  go_enter Tryz.func30, Tryz.ntmps30
  have y0 : (w.alloc (.cells #[vp, .string nm, .string sup, .bool inf, vi, vf, vm] 27)).cell? ⟨w.heap.size, 3, none⟩ = some (.bool inf) := B0.out.cell 3
  go_wp2_with fail
  refine C1.out.mono ?_
  rintro x w1 ⟨rfl, h1, k1⟩
  have B1 := Lib.hid (k1.2 _ _ _ B0.out (by decide) (by decide))
  have K1 := Lib.hid (K0.out.trans k1)
  have D2 := Lib.hid (C2.out w1 h1)
  have y1 : w1.cell? ⟨w.heap.size, 1, none⟩ = some (.string nm) := B1.out.cell 1
  clear h1 k1 y0
  go_wp2_with fail
  refine D2.out.mono ?_
  rintro x w2 ⟨rfl, h2, k2⟩
  have B2 := Lib.hid (k2.2 _ _ _ B1.out (by decide) (by decide))
  have K2 := Lib.hid (K1.out.trans k2)
  have D3 := Lib.hid (C3.out w2 h2)
  have y2 : w2.cell? ⟨w.heap.size, 2, none⟩ = some (.string sup) := B2.out.cell 2
  clear h2 k2 y1
  go_wp2_with fail
  refine D3.out.mono ?_
  rintro x w3 ⟨rfl, h3, k3⟩
  have B3 := Lib.hid (k3.2 _ _ _ B2.out (by decide) (by decide))
  have K3 := Lib.hid (K2.out.trans k3)
  have D4 := Lib.hid (C4.out w3 h3)
  have y3 : w3.cell? ⟨w.heap.size, 4, none⟩ = some vi := B3.out.cell 4
  clear h3 k3 y2
  go_wp2_with fail
  refine D4.out.mono ?_
  rintro x w4 ⟨rfl, h4, k4⟩
  have B4 := Lib.hid (k4.2 _ _ _ B3.out (by decide) (by decide))
  have K4 := Lib.hid (K3.out.trans k4)
  have D5 := Lib.hid (C5.out w4 h4)
  have y4 : w4.cell? ⟨w.heap.size, 5, none⟩ = some vf := B4.out.cell 5
  clear h4 k4 y3
  go_wp2_with fail
  refine D5.out.mono ?_
  rintro x w5 ⟨rfl, h5, k5⟩
  have B5 := Lib.hid (k5.2 _ _ _ B4.out (by decide) (by decide))
  have K5 := Lib.hid (K4.out.trans k5)
  have D6 := Lib.hid (C6.out w5 h5)
  have y5 : w5.cell? ⟨w.heap.size, 6, none⟩ = some vm := B5.out.cell 6
  clear h5 k5 y4
  go_wp2_with fail
  refine D6.out.mono ?_
  rintro x w6 ⟨rfl, h6, k6⟩
  have H6 := Lib.hid h6
  have K6 := Lib.hid (K5.out.trans k6)
  clear h6 k6 y5
  go_wp2
  refine bodyPost_ret (results_tmp0 rfl _ _ _) rfl ?_
  exact ⟨rfl, H6.out, K6.out⟩
end Go.Proofs.YtokmeomjdpfknaaGreatDoor
namespace Go.Proofs.YtokmeomjdpfknaaGreatDoor
open Go.RowKit Go.Lib
set_option linter.unusedVariables false

set_option maxHeartbeats 2000000 in
theorem grow_nil (w : World) (n : Nat) (h0 : 0 < n) (hn : n ≤ 140737488355328) :
    Calls Tryz.prog 62 #[.slice none 0 0, .int .i64 n] w fun x w' => ∃ v, x = .returned v ∧ Own w.heap.size w' 5 .u8 v [] ∧ Ext w w' := by
  obtain ⟨i0, hi, hz0, hz1, hz2⟩ := info_parts infoU8
  have hn1 : ¬ ((n : Int) < 0) := by omega
  have hn2 : (0 : Int) < n := by omega
  have hge := grownCap_ge w n 0 5
  have hle := grownCap_le_maxLen w n 0 5 (by unfold maxLen; omega)
  have hw : IntKind.i64.wrap (n : Int) = n := by rw [IntKind.wrap_i64]; omega
  have hA := Lib.hid (run_append_nil_zeros (P := Tryz.prog) w 29 3 29 5 i0 _ .i64 .i64 Tryz.underlying29 Tryz.underlying3 hi hz0 n h0 (by rw [hz1]; decide) (by omega) (by rw [hz2]; omega))
  obtain ⟨c, hc⟩ : ∃ c, grownCap w n 0 5 = c := ⟨_, rfl⟩
  rw [hc] at hA hge hle
  have hO : Own w.heap.size (w.drew.alloc (.cells (Builtin.zeroCells (Value.cells (.int .u8 0)) n ++ Builtin.zeroCells (Value.cells (.int .u8 0)) (c - n)) 5)) 5 .u8 (.slice (some ⟨w.heap.size, 0, none⟩) 0 c) [] := by
    refine ⟨⟨rfl, .inr ⟨w.heap.size, _, _, rfl, Nat.le_refl _, heap_alloc_new w.drew _, Nat.zero_le _, hle, ?_, by simp⟩⟩, fun x hx => by simp at hx⟩
    simp only [Array.size_append, size_zeroCells]
    simp [Value.cells]
    omega
  have hX : Ext w (w.drew.alloc (.cells (Builtin.zeroCells (Value.cells (.int .u8 0)) n ++ Builtin.zeroCells (Value.cells (.int .u8 0)) (c - n)) 5)) := ((Ext.refl w).drew).alloc _
  have HO := Lib.hid hO
  have HX := Lib.hid hX
  clear hO hX hi hz0 hz1 hz2
  go_enter Tryz.func62, Tryz.ntmps62
  go_wp2_with (at_builtin; refine Lib.wpList_append_run _ rfl _ _ _ _ rfl _ _ rfl rfl _ _ hA.out ?_)
  refine bodyPost_ret (results_tmp rfl _ _ _) rfl ?_
  exact ⟨_, rfl, HO.out, HX.out⟩
set_option maxHeartbeats 4000000 in
theorem concat2_any (w : World) (gn : Nat) (va vb : Value) (la lb : List Int) (h : BK w gn #[va, vb] 29) (ha : Row w .u8 va la) (hb : Row w .u8 vb lb) (h0 : 0 < la.length) (hl : la.length + lb.length ≤ 140737488355328) :
    Calls Tryz.prog 29 #[.slice (some ⟨gn, 0, none⟩) 2 2] w fun x w' => ∃ v, x = .returned v ∧ Own w.heap.size w' 5 .u8 v (la ++ lb) ∧ Ext w w' := by
  have HA := Lib.hid ha
  have HB := Lib.hid hb
  obtain ⟨A1, c1, rfl, -⟩ := ha
  obtain ⟨A2, c2, rfl, -⟩ := hb
  obtain ⟨na, hna⟩ : ∃ n, la.length = n := ⟨_, rfl⟩
  obtain ⟨nb, hnb⟩ : ∃ n, lb.length = n := ⟨_, rfl⟩
  have C1 := Lib.hid (grow_nil w (na + nb) (by omega) (by omega))
  rw [show ((na + nb : Nat) : Int) = (na : Int) + (nb : Int) by omega] at C1
  have HLA := Lib.hid hna
  have HLB := Lib.hid hnb
  rw [hna, hnb] at hl
  rw [hna] at HA h h0
  rw [hnb] at HB h
  have B0 := Lib.hid h
  have y0 : w.cell? ⟨gn, 0, none⟩ = some (.slice A1 na c1) := h.cell 0
  have y1 : w.cell? ⟨gn, 1, none⟩ = some (.slice A2 nb c2) := h.cell 1
  clear h hna hnb
  go_enter Tryz.func29, Tryz.ntmps29
  go_wp2_with fail
  refine wp_loop_rounds 3 ?_
  rw [rounds_succ]
  go_wp2_with fail
  rw [rounds_succ]
  go_wp2_with fail
  rw [rounds_succ]
  go_wp2_with fail
  refine C1.out.mono ?_
  rintro x w1 ⟨v1, rfl, o1, x1⟩
  obtain ⟨A3, n3, c3, rfl⟩ := o1.slice
  have O1 := Lib.hid o1
  have X1 := Lib.hid x1
  have z0 : w1.cell? ⟨gn, 0, none⟩ = some (.slice A1 na c1) := (B0.out.ext x1).cell 0
  clear o1 x1 y0 y1 C1
  go_wp2_with fail
  refine wp_loop_rounds 3 ?_
  rw [rounds_succ]
  go_wp2_with (at_builtin; go_loud (refine wpList_app _ rfl _ _ w.heap.size 29 5 _ 1 .u8 rfl Tryz.underlying29 info8 rfl (by omega) (.slice A3 n3 c3) [] rfl O1.out (.slice A1 na c1) la rfl (HA.out.ext X1.out) (by have := HLA.out; simp; omega) X1.out.size ?_); intro v2 w2 o2 g2 _; obtain ⟨A4, n4, c4, rfl⟩ := o2.slice)
  have X2 := Lib.hid (X1.out.grown g2 (fun g hg => O1.out.low g hg))
  have O2 := Lib.hid o2
  have z1 : w2.cell? ⟨gn, 1, none⟩ = some (.slice A2 nb c2) := (B0.out.ext X2.out).cell 1
  clear o2 g2 z0
  rw [rounds_succ]
  go_wp2_with (at_builtin; go_loud (refine wpList_app _ rfl _ _ w.heap.size 29 5 _ 1 .u8 rfl Tryz.underlying29 info8 rfl (by omega) (.slice A4 n4 c4) ([] ++ la) rfl O2.out (.slice A2 nb c2) lb rfl (HB.out.ext X2.out) (by have := HLA.out; have := HLB.out; simp; omega) X2.out.size ?_); intro v3 w3 o3 g3 _; obtain ⟨A5, n5, c5, rfl⟩ := o3.slice)
  have X3 := Lib.hid (X2.out.grown g3 (fun g hg => O2.out.low g hg))
  have O3 := Lib.hid o3
  clear o3 g3 z1
  rw [rounds_succ]
  go_wp2
  refine bodyPost_ret (results_tmp rfl _ _ _) rfl ?_
  exact ⟨_, rfl, O3.out, X3.out⟩
end Go.Proofs.YtokmeomjdpfknaaGreatDoor
