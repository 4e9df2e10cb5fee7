/- Several texts of this proof, one behind the other. -/
import Derived.Test.YtokmeomjdpfknaaGreatDoorZaAI
import Derived.Test.YtokmeomjdpfknaaGreatDoorZaAL
import Derived.Test.YtokmeomjdpfknaaGreatDoorZaAP
import Derived.Test.YtokmeomjdpfknaaGreatDoorZaY
/- The statements' own examples of classes: is, first, second, works. -/
namespace Go.Proofs.YtokmeomjdpfknaaGreatDoor
open Go.RowKit
set_option linter.unusedVariables false

theorem bytesZ_le_clZ (c : Cl) : (bytesZ c.pool).length ≤ (clZ c).length := by unfold clZ; simp only [List.length_append]; omega
theorem parseK_room {b : List Int} (hf : Fit .u8 b) (h : (parseK b).2 = 0) : ClRoom (parseK b).1 := by
  have hl := (parseK_back hf h).1
  have hr := gCl_room hf hl
  unfold parseK at h ⊢
  split at h <;> rename_i h1
  · cases h
  · rw [if_neg h1]
    split at h <;> rename_i h2
    · cases h
    · rw [if_neg h2]
      split at h <;> rename_i h3
      · rw [if_pos h3]; exact hr
      · cases h
theorem bytesK_ok {c : Cl} (h : okCl c = true) (hl : (clZ c).length ≤ 65535) : bytesK c = (clZ c, 0) := by
  unfold bytesK
  rw [if_pos h, if_neg (by omega)]
theorem chkK_ok {c : Cl} (h : okCl c = true) : chkK c = 0 := by
  unfold chkK
  rw [if_pos h]
theorem chkK_no {c : Cl} (h : ¬ okCl c = true) : chkK c = 80 := by
  unfold chkK
  rw [if_neg h]
def cst0 : Cst := ⟨0, .empty, 0, 0, 0, 0⟩
def M1 : Me := ⟨false, true, ⟨#[109]⟩, t0, [], 0, 0, [], []⟩
def F1 : Fd := ⟨true, ⟨#[120]⟩, ⟨1, .empty⟩⟩
def C1 : Cl := ⟨[cst0], false, ⟨#[97]⟩, .empty, [], [], []⟩
def C2 : Cl := ⟨[cst0], true, ⟨#[97]⟩, ⟨#[98]⟩, [], [F1], [M1]⟩
def B1 : List Int := [87, 66, 1, 1, 0, 1, 97, 0, 0, 0, 0]
def B2 : List Int := [87, 66, 1, 1, 1, 1, 97, 1, 98, 0, 1, 1, 1, 120, 1, 73, 1, 2, 1, 109, 3, 40, 41, 86]
theorem okC1 : okCl C1 = true := by
  unfold okCl
  rw [checkC_eq]
  decide +kernel
theorem okC2 : okCl C2 = true := by
  unfold okCl
  rw [checkC_eq]
  decide +kernel
theorem clB1 : clZ C1 = B1 := by decide +kernel
theorem clB2 : clZ C2 = B2 := by decide +kernel
theorem ok_zero : ∀ x ∈ [cst0], x.ok ∧ x.t.size ≤ 140737488351232 := fun x hx => by
  rw [List.mem_singleton.1 hx]
  exact ⟨⟨⟨by decide, by decide⟩, ⟨by decide, by decide⟩, ⟨by decide, by decide⟩, ⟨by decide, by decide⟩, ⟨by decide, by decide⟩⟩, by decide⟩
theorem roomC1 : ClRoom C1 := ⟨ok_zero, by decide, by decide, (fun _ h => by cases h), (fun _ h => by cases h), (fun _ h => by cases h)⟩
theorem roomC2 : ClRoom C2 := ⟨ok_zero, by decide, by decide, (fun _ h => by cases h), (fun f hf => by
  rw [List.mem_singleton.1 hf]
  exact ⟨by decide, ⟨by decide, by decide⟩, by decide⟩), fun m hm => by
  rw [List.mem_singleton.1 hm]
  exact ⟨by decide, ⟨⟨by decide, by decide⟩, by decide⟩, (fun _ h => by cases h), by decide⟩⟩
theorem roomC0 : ClRoom cl0 := ⟨(fun _ h => by cases h), by decide, by decide, (fun _ h => by cases h), (fun _ h => by cases h), (fun _ h => by cases h)⟩
theorem told_zero : Told [cst0] := (show Texts [cst0] from fun x hx => (ok_zero x hx).2).told fun x hx => (ok_zero x hx).1
theorem goodC1 : Good C1 := ⟨told_zero, fun _ h => by cases h⟩
theorem goodC2 : Good C2 := ⟨told_zero, fun m hm => by
  rw [List.mem_singleton.1 hm]
  exact Fit.nil _⟩
theorem eqBytes_ext (v1 v2 : Value) (l1 l2 : List Int) (w : World) (h1 : Row w .u8 v1 l1) (h2 : Row w .u8 v2 l2) :
    Calls Tryz.prog 16 #[v1, v2] w fun e w' => e = .returned (.bool (decide (l1 = l2))) ∧ Ext w w' :=
  (eqBytes_any v1 v2 l1 l2 w h1 h2).mono fun e w' ⟨h, m, hm⟩ => by
    subst hm
    exact ⟨h, (Ext.refl w).drewN m⟩
-- walks
set_option maxRecDepth 100000 in
set_option maxHeartbeats 16000000 in
theorem isCl_yes (c : Cl) (vp vi vf vm bv : Value) (b : List Int) (w : World) (hT : Tabs w) (hM : Most w) (h : ClAt w c vp vi vf vm) (hr : ClRoom c) (hg : Good c) (hb : Row w .u8 bv b) (ho : okCl c = true) (hz : clZ c = b) (hs : b.length ≤ 65535) :
    Calls Tryz.prog 44 #[.agg (c.vals vp vi vf vm), bv] w fun e w' => e = .returned (.bool true) ∧ Ext w w' := by
  have hzl := bytesZ_le_clZ c
  rw [hz] at hzl
  have hbk : bytesK c = (b, 0) := by rw [bytesK_ok ho (by rw [hz]; exact hs), hz]
  have hpk : parseK b = (c, 0) := by rw [← hz]; exact parseK_fwd ho hg (by rw [hz]; exact hs)
  have hB := fun W (e : Ext w W) => classBytes_any c vp vi vf vm W (h.ext e) hr hg (hT.ext e) (hM.ext e) (fun _ => by omega)
  have hP := fun W (e : Ext w W) => classParse_any bv b W (hb.ext e) (hT.ext e) (hM.ext e)
  simp only [hbk] at hB
  simp only [hpk] at hP
  have HS := Lib.hid (fun W vp' vi' vf' vm' (e : Ext w W) (h' : ClAt W c vp' vi' vf' vm') => refClassSame_any c c vp vi vf vm vp' vi' vf' vm' W (h.ext e) h' hr hr)
  have HB := Lib.hid hB
  have HP := Lib.hid hP
  have HR := Lib.hid hb
  simp only [decide_true] at HS
  clear hB hP hbk hpk hzl hz ho hg hr hs hT hM
  obtain ⟨Ap, Akp, rfl, -⟩ := h.1.cut
  obtain ⟨Ai, Aki, rfl, -⟩ := h.2.1.cut
  obtain ⟨Af, Akf, rfl, -⟩ := h.2.2.1.cut
  obtain ⟨Am, Akm, rfl, -⟩ := h.2.2.2.cut
  obtain ⟨Ab, kb, rfl, -⟩ := id hb
  have BX := Lib.hid (fun W (e : Ext (w.alloc (.cells (c.vals (.slice Ap c.pool.length Akp) (.slice Ai c.ifs.length Aki) (.slice Af c.fds.length Akf) (.slice Am c.mts.length Akm)) 27)) W) => (BK.new w (c.vals (.slice Ap c.pool.length Akp) (.slice Ai c.ifs.length Aki) (.slice Af c.fds.length Akf) (.slice Am c.mts.length Akm)) 27).ext e)
  have X0 := Lib.hid ((Ext.refl w).alloc (.cells (c.vals (.slice Ap c.pool.length Akp) (.slice Ai c.ifs.length Aki) (.slice Af c.fds.length Akf) (.slice Am c.mts.length Akm)) 27))
  clear h hb
  unfold Cl.vals at BX HS HB X0 ⊢
  go_enter Tryz.func44, Tryz.ntmps44
  go_wp2_with fail
  refine (HB.out _ X0.out).mono ?_
  rintro e w1 ⟨u, rfl, ⟨v1, rfl, ho1⟩, x1⟩
  have X1 := Lib.hid (X0.out.trans x1)
  have E1 := Lib.hid x1
  have HO1 := Lib.hid ho1
  obtain ⟨A1, k1, rfl, -⟩ := id ho1.row
  clear x1 ho1
  go_wp2_with fail
  refine (HP.out _ X1.out).mono ?_
  rintro e w2 ⟨u, rfl, ⟨vp', vi', vf', vm', rfl, ho2⟩, x2⟩
  have X2 := Lib.hid (X1.out.trans x2)
  have E2 := Lib.hid (E1.out.trans x2)
  have R1 := Lib.hid (HO1.out.row.ext x2)
  have h2 := ho2.at
  have H2 := Lib.hid h2
  obtain ⟨Dp', Dkp', rfl, -⟩ := h2.1.cut
  obtain ⟨Di', Dki', rfl, -⟩ := h2.2.1.cut
  obtain ⟨Df', Dkf', rfl, -⟩ := h2.2.2.1.cut
  obtain ⟨Dm', Dkm', rfl, -⟩ := h2.2.2.2.cut
  have BY := Lib.hid (fun W (e : Ext (w2.alloc (.cells (c.vals (.slice Dp' c.pool.length Dkp') (.slice Di' c.ifs.length Dki') (.slice Df' c.fds.length Dkf') (.slice Dm' c.mts.length Dkm')) 27)) W) => (BK.new w2 (c.vals (.slice Dp' c.pool.length Dkp') (.slice Di' c.ifs.length Dki') (.slice Df' c.fds.length Dkf') (.slice Dm' c.mts.length Dkm')) 27).ext e)
  have Y2 := Lib.hid ((Ext.refl w2).alloc (.cells (c.vals (.slice Dp' c.pool.length Dkp') (.slice Di' c.ifs.length Dki') (.slice Df' c.fds.length Dkf') (.slice Dm' c.mts.length Dkm')) 27))
  clear h2 ho2 x2
  unfold Cl.vals at BY Y2 ⊢
  go_wp2_with fail
  refine (eqBytes_ext _ _ b b _ (R1.out.ext Y2.out) (HR.out.ext (X2.out.trans Y2.out))).mono ?_
  rintro e w3 ⟨rfl, x3⟩
  have X3 := Lib.hid ((X2.out.trans Y2.out).trans x3)
  have q0 : w3.cell? ⟨w.heap.size, 0, none⟩ = some (.slice Ap c.pool.length Akp) := (BX.out w3 ((E2.out.trans Y2.out).trans x3)).cell 0
  have q1 : w3.cell? ⟨w.heap.size, 1, none⟩ = some (.string c.nm) := (BX.out w3 ((E2.out.trans Y2.out).trans x3)).cell 1
  have q2 : w3.cell? ⟨w.heap.size, 2, none⟩ = some (.string c.sup) := (BX.out w3 ((E2.out.trans Y2.out).trans x3)).cell 2
  have q3 : w3.cell? ⟨w.heap.size, 3, none⟩ = some (.bool c.inf) := (BX.out w3 ((E2.out.trans Y2.out).trans x3)).cell 3
  have q4 : w3.cell? ⟨w.heap.size, 4, none⟩ = some (.slice Ai c.ifs.length Aki) := (BX.out w3 ((E2.out.trans Y2.out).trans x3)).cell 4
  have q5 : w3.cell? ⟨w.heap.size, 5, none⟩ = some (.slice Af c.fds.length Akf) := (BX.out w3 ((E2.out.trans Y2.out).trans x3)).cell 5
  have q6 : w3.cell? ⟨w.heap.size, 6, none⟩ = some (.slice Am c.mts.length Akm) := (BX.out w3 ((E2.out.trans Y2.out).trans x3)).cell 6
  have r0 : w3.cell? ⟨w2.heap.size, 0, none⟩ = some (.slice Dp' c.pool.length Dkp') := (BY.out w3 x3).cell 0
  have r1 : w3.cell? ⟨w2.heap.size, 1, none⟩ = some (.string c.nm) := (BY.out w3 x3).cell 1
  have r2 : w3.cell? ⟨w2.heap.size, 2, none⟩ = some (.string c.sup) := (BY.out w3 x3).cell 2
  have r3 : w3.cell? ⟨w2.heap.size, 3, none⟩ = some (.bool c.inf) := (BY.out w3 x3).cell 3
  have r4 : w3.cell? ⟨w2.heap.size, 4, none⟩ = some (.slice Di' c.ifs.length Dki') := (BY.out w3 x3).cell 4
  have r5 : w3.cell? ⟨w2.heap.size, 5, none⟩ = some (.slice Df' c.fds.length Dkf') := (BY.out w3 x3).cell 5
  have r6 : w3.cell? ⟨w2.heap.size, 6, none⟩ = some (.slice Dm' c.mts.length Dkm') := (BY.out w3 x3).cell 6
  have H3 := Lib.hid (H2.out.ext (Y2.out.trans x3))
  clear x3
  rw [decide_eq_true (rfl : b = b)]
  go_wp2_with fail
  refine (HS.out _ _ _ _ _ X3.out H3.out).mono ?_
  rintro e w4 ⟨rfl, x4⟩
  go_wp2
  go_ret
  exact ⟨rfl, X3.out.trans x4⟩
theorem Shp.Own.single {α : Type} {S : Shp α} {B g : Nat} {w : World} {x : α} (h : BK w g (S.vals x) S.T) (hB : B ≤ g) (hx : S.nestO B w x) : S.Own B w (.slice (some ⟨g, 0, none⟩) 1 1) [x] := by
  have hs := S.size x
  refine ⟨⟨by simp [hs], .inr ⟨g, 1, S.vals x, rfl, hB, h, Nat.le_refl _, by decide, by rw [Nat.one_mul]; exact hs, ?_⟩⟩, fun y hy => by rw [List.mem_singleton.1 hy]; exact hx⟩
  simp only [List.flatMap_cons, List.flatMap_nil, List.append_nil, List.length_singleton, Nat.one_mul]
  exact List.take_of_length_le (by rw [Array.length_toList]; omega)
theorem firstCl_any (w : World) : Calls Tryz.prog 27 #[] w fun e w' => ∃ g, e = .returned (.agg #[.slice (some ⟨g, 0, none⟩) 1 1, .string ⟨#[97]⟩, .string ⟨#[]⟩, .bool false, .slice none 0 0, .slice none 0 0, .slice none 0 0]) ∧ ShC.Own (w.heap.size + 1) w' (.slice (some ⟨g, 0, none⟩) 1 1) [cst0] ∧ Ext w w' := by
  go_enter Tryz.func27, Tryz.ntmps27
  go_wp2
  refine bodyPost_ret (v := .agg #[.slice (some ⟨w.heap.size + 1, 0, none⟩) 1 1, .string ⟨#[97]⟩, .string ⟨#[]⟩, .bool false, .slice none 0 0, .slice none 0 0, .slice none 0 0]) (by simp [results, Tryz.results27, go_sem]; try first | rfl | exact ⟨rfl, rfl⟩) rfl ?_
  refine ⟨_, rfl, ?_, ((Ext.refl w).alloc _).alloc _⟩
  have h := BK.new (w.alloc (.cells #[.slice (some ⟨w.heap.size + 1, 0, none⟩) 1 1, .string ⟨#[97]⟩, .string ⟨#[]⟩, .bool false, .slice none 0 0, .slice none 0 0, .slice none 0 0] 27)) cst0.vals 49
  rw [show (w.alloc (.cells #[.slice (some ⟨w.heap.size + 1, 0, none⟩) 1 1, .string ⟨#[97]⟩, .string ⟨#[]⟩, .bool false, .slice none 0 0, .slice none 0 0, .slice none 0 0] 27)).heap.size = w.heap.size + 1 by simp] at h
  exact Shp.Own.single (S := ShC) (x := cst0) h (Nat.le_refl _) trivial
set_option maxHeartbeats 4000000 in
theorem secondCl_any (w : World) : Calls Tryz.prog 24 #[] w fun e w' => ∃ g h k, e = .returned (.agg #[.slice (some ⟨g, 0, none⟩) 1 1, .string ⟨#[97]⟩, .string ⟨#[98]⟩, .bool true, .slice none 0 0, .slice (some ⟨h, 0, none⟩) 1 1, .slice (some ⟨k, 0, none⟩) 1 1]) ∧ ShC.Own (w.heap.size + 1) w' (.slice (some ⟨g, 0, none⟩) 1 1) [cst0] ∧ ShF.Own (w.heap.size + 1) w' (.slice (some ⟨h, 0, none⟩) 1 1) [F1] ∧ OwnM (w.heap.size + 1) w' (.slice (some ⟨k, 0, none⟩) 1 1) [M1] ∧ Ext w w' := by
  go_enter Tryz.func24, Tryz.ntmps24
  go_wp2_with fail
  refine (firstCl_any _).mono ?_
  rintro e w1 ⟨g, rfl, h1, x1⟩
  have H1 := Lib.hid h1
  have X1 := Lib.hid (((Ext.refl w).alloc (.cells #[.slice none 0 0, .string ⟨#[]⟩, .string ⟨#[]⟩, .bool false, .slice none 0 0, .slice none 0 0, .slice none 0 0] 27)).trans x1)
  have KZ := Lib.hid ((BK.new w #[.slice none 0 0, .string ⟨#[]⟩, .string ⟨#[]⟩, .bool false, .slice none 0 0, .slice none 0 0, .slice none 0 0] 27).ext x1)
  have nb := KZ.out.lt
  have XA := (((Ext.refl w1).alloc (.cells #[.slice (some ⟨g, 0, none⟩) 1 1, .string ⟨#[97]⟩, .string ⟨#[98]⟩, .bool true, .slice none 0 0, .slice (some ⟨w1.heap.size + 1, 0, none⟩) 1 1, .slice (some ⟨w1.heap.size + 1 + 1, 0, none⟩) 1 1] 27)).alloc (.cells #[.bool true, .string ⟨#[120]⟩, .int .i64 1, .string ⟨#[]⟩] 63)).alloc (.cells #[.bool false, .bool true, .string ⟨#[109]⟩, .int .i64 0, .string ⟨#[]⟩, .slice none 0 0, .int .i64 0, .int .i64 0, .slice none 0 0, .slice none 0 0] 47)
  have K3 := Lib.hid (KZ.out.ext XA)
  have O3 := Lib.hid (h1.ext XA)
  have B3 : Hid (BK (((w1.alloc (.cells #[.slice (some ⟨g, 0, none⟩) 1 1, .string ⟨#[97]⟩, .string ⟨#[98]⟩, .bool true, .slice none 0 0, .slice (some ⟨w1.heap.size + 1, 0, none⟩) 1 1, .slice (some ⟨w1.heap.size + 1 + 1, 0, none⟩) 1 1] 27)).alloc (.cells #[.bool true, .string ⟨#[120]⟩, .int .i64 1, .string ⟨#[]⟩] 63)).alloc (.cells #[.bool false, .bool true, .string ⟨#[109]⟩, .int .i64 0, .string ⟨#[]⟩, .slice none 0 0, .int .i64 0, .int .i64 0, .slice none 0 0, .slice none 0 0] 47)) (w1.heap.size + 1) #[.bool true, .string ⟨#[120]⟩, .int .i64 1, .string ⟨#[]⟩] 63) := Lib.hid ((show BK _ (w1.heap.size + 1) _ _ by have := BK.new (w1.alloc (.cells #[.slice (some ⟨g, 0, none⟩) 1 1, .string ⟨#[97]⟩, .string ⟨#[98]⟩, .bool true, .slice none 0 0, .slice (some ⟨w1.heap.size + 1, 0, none⟩) 1 1, .slice (some ⟨w1.heap.size + 1 + 1, 0, none⟩) 1 1] 27)) #[.bool true, .string ⟨#[120]⟩, .int .i64 1, .string ⟨#[]⟩] 63; simpa [BK] using this).ext ((Ext.refl _).alloc _))
  have C3 : Hid (BK (((w1.alloc (.cells #[.slice (some ⟨g, 0, none⟩) 1 1, .string ⟨#[97]⟩, .string ⟨#[98]⟩, .bool true, .slice none 0 0, .slice (some ⟨w1.heap.size + 1, 0, none⟩) 1 1, .slice (some ⟨w1.heap.size + 1 + 1, 0, none⟩) 1 1] 27)).alloc (.cells #[.bool true, .string ⟨#[120]⟩, .int .i64 1, .string ⟨#[]⟩] 63)).alloc (.cells #[.bool false, .bool true, .string ⟨#[109]⟩, .int .i64 0, .string ⟨#[]⟩, .slice none 0 0, .int .i64 0, .int .i64 0, .slice none 0 0, .slice none 0 0] 47)) (w1.heap.size + 1 + 1) #[.bool false, .bool true, .string ⟨#[109]⟩, .int .i64 0, .string ⟨#[]⟩, .slice none 0 0, .int .i64 0, .int .i64 0, .slice none 0 0, .slice none 0 0] 47) := Lib.hid (by have := BK.new ((w1.alloc (.cells #[.slice (some ⟨g, 0, none⟩) 1 1, .string ⟨#[97]⟩, .string ⟨#[98]⟩, .bool true, .slice none 0 0, .slice (some ⟨w1.heap.size + 1, 0, none⟩) 1 1, .slice (some ⟨w1.heap.size + 1 + 1, 0, none⟩) 1 1] 27)).alloc (.cells #[.bool true, .string ⟨#[120]⟩, .int .i64 1, .string ⟨#[]⟩] 63)) #[.bool false, .bool true, .string ⟨#[109]⟩, .int .i64 0, .string ⟨#[]⟩, .slice none 0 0, .int .i64 0, .int .i64 0, .slice none 0 0, .slice none 0 0] 47; simpa [BK] using this)
  have X3 := Lib.hid (((X1.out.alloc (.cells #[.slice (some ⟨g, 0, none⟩) 1 1, .string ⟨#[97]⟩, .string ⟨#[98]⟩, .bool true, .slice none 0 0, .slice (some ⟨w1.heap.size + 1, 0, none⟩) 1 1, .slice (some ⟨w1.heap.size + 1 + 1, 0, none⟩) 1 1] 27)).alloc (.cells #[.bool true, .string ⟨#[120]⟩, .int .i64 1, .string ⟨#[]⟩] 63)).alloc (.cells #[.bool false, .bool true, .string ⟨#[109]⟩, .int .i64 0, .string ⟨#[]⟩, .slice none 0 0, .int .i64 0, .int .i64 0, .slice none 0 0, .slice none 0 0] 47))
  have z0 : (((w1.alloc (.cells #[.slice (some ⟨g, 0, none⟩) 1 1, .string ⟨#[97]⟩, .string ⟨#[98]⟩, .bool true, .slice none 0 0, .slice (some ⟨w1.heap.size + 1, 0, none⟩) 1 1, .slice (some ⟨w1.heap.size + 1 + 1, 0, none⟩) 1 1] 27)).alloc (.cells #[.bool true, .string ⟨#[120]⟩, .int .i64 1, .string ⟨#[]⟩] 63)).alloc (.cells #[.bool false, .bool true, .string ⟨#[109]⟩, .int .i64 0, .string ⟨#[]⟩, .slice none 0 0, .int .i64 0, .int .i64 0, .slice none 0 0, .slice none 0 0] 47)).cell? ⟨w.heap.size, 0, none⟩ = some (.slice none 0 0) := K3.out.cell 0
  have g0' := K3.out.free 0
  have z1 : (((w1.alloc (.cells #[.slice (some ⟨g, 0, none⟩) 1 1, .string ⟨#[97]⟩, .string ⟨#[98]⟩, .bool true, .slice none 0 0, .slice (some ⟨w1.heap.size + 1, 0, none⟩) 1 1, .slice (some ⟨w1.heap.size + 1 + 1, 0, none⟩) 1 1] 27)).alloc (.cells #[.bool true, .string ⟨#[120]⟩, .int .i64 1, .string ⟨#[]⟩] 63)).alloc (.cells #[.bool false, .bool true, .string ⟨#[109]⟩, .int .i64 0, .string ⟨#[]⟩, .slice none 0 0, .int .i64 0, .int .i64 0, .slice none 0 0, .slice none 0 0] 47)).cell? ⟨w.heap.size, 1, none⟩ = some (.string ⟨#[]⟩) := K3.out.cell 1
  have g1' := K3.out.free 1
  have z2 : (((w1.alloc (.cells #[.slice (some ⟨g, 0, none⟩) 1 1, .string ⟨#[97]⟩, .string ⟨#[98]⟩, .bool true, .slice none 0 0, .slice (some ⟨w1.heap.size + 1, 0, none⟩) 1 1, .slice (some ⟨w1.heap.size + 1 + 1, 0, none⟩) 1 1] 27)).alloc (.cells #[.bool true, .string ⟨#[120]⟩, .int .i64 1, .string ⟨#[]⟩] 63)).alloc (.cells #[.bool false, .bool true, .string ⟨#[109]⟩, .int .i64 0, .string ⟨#[]⟩, .slice none 0 0, .int .i64 0, .int .i64 0, .slice none 0 0, .slice none 0 0] 47)).cell? ⟨w.heap.size, 2, none⟩ = some (.string ⟨#[]⟩) := K3.out.cell 2
  have g2' := K3.out.free 2
  have z3 : (((w1.alloc (.cells #[.slice (some ⟨g, 0, none⟩) 1 1, .string ⟨#[97]⟩, .string ⟨#[98]⟩, .bool true, .slice none 0 0, .slice (some ⟨w1.heap.size + 1, 0, none⟩) 1 1, .slice (some ⟨w1.heap.size + 1 + 1, 0, none⟩) 1 1] 27)).alloc (.cells #[.bool true, .string ⟨#[120]⟩, .int .i64 1, .string ⟨#[]⟩] 63)).alloc (.cells #[.bool false, .bool true, .string ⟨#[109]⟩, .int .i64 0, .string ⟨#[]⟩, .slice none 0 0, .int .i64 0, .int .i64 0, .slice none 0 0, .slice none 0 0] 47)).cell? ⟨w.heap.size, 3, none⟩ = some (.bool false) := K3.out.cell 3
  have g3' := K3.out.free 3
  have z4 : (((w1.alloc (.cells #[.slice (some ⟨g, 0, none⟩) 1 1, .string ⟨#[97]⟩, .string ⟨#[98]⟩, .bool true, .slice none 0 0, .slice (some ⟨w1.heap.size + 1, 0, none⟩) 1 1, .slice (some ⟨w1.heap.size + 1 + 1, 0, none⟩) 1 1] 27)).alloc (.cells #[.bool true, .string ⟨#[120]⟩, .int .i64 1, .string ⟨#[]⟩] 63)).alloc (.cells #[.bool false, .bool true, .string ⟨#[109]⟩, .int .i64 0, .string ⟨#[]⟩, .slice none 0 0, .int .i64 0, .int .i64 0, .slice none 0 0, .slice none 0 0] 47)).cell? ⟨w.heap.size, 4, none⟩ = some (.slice none 0 0) := K3.out.cell 4
  have g4' := K3.out.free 4
  have z5 : (((w1.alloc (.cells #[.slice (some ⟨g, 0, none⟩) 1 1, .string ⟨#[97]⟩, .string ⟨#[98]⟩, .bool true, .slice none 0 0, .slice (some ⟨w1.heap.size + 1, 0, none⟩) 1 1, .slice (some ⟨w1.heap.size + 1 + 1, 0, none⟩) 1 1] 27)).alloc (.cells #[.bool true, .string ⟨#[120]⟩, .int .i64 1, .string ⟨#[]⟩] 63)).alloc (.cells #[.bool false, .bool true, .string ⟨#[109]⟩, .int .i64 0, .string ⟨#[]⟩, .slice none 0 0, .int .i64 0, .int .i64 0, .slice none 0 0, .slice none 0 0] 47)).cell? ⟨w.heap.size, 5, none⟩ = some (.slice none 0 0) := K3.out.cell 5
  have g5' := K3.out.free 5
  have z6 : (((w1.alloc (.cells #[.slice (some ⟨g, 0, none⟩) 1 1, .string ⟨#[97]⟩, .string ⟨#[98]⟩, .bool true, .slice none 0 0, .slice (some ⟨w1.heap.size + 1, 0, none⟩) 1 1, .slice (some ⟨w1.heap.size + 1 + 1, 0, none⟩) 1 1] 27)).alloc (.cells #[.bool true, .string ⟨#[120]⟩, .int .i64 1, .string ⟨#[]⟩] 63)).alloc (.cells #[.bool false, .bool true, .string ⟨#[109]⟩, .int .i64 0, .string ⟨#[]⟩, .slice none 0 0, .int .i64 0, .int .i64 0, .slice none 0 0, .slice none 0 0] 47)).cell? ⟨w.heap.size, 6, none⟩ = some (.slice none 0 0) := K3.out.cell 6
  have g6' := K3.out.free 6
  clear h1 x1 XA
  go_wp2
  obtain ⟨W3, hW3⟩ : ∃ W, (((w1.alloc (.cells #[.slice (some ⟨g, 0, none⟩) 1 1, .string ⟨#[97]⟩, .string ⟨#[98]⟩, .bool true, .slice none 0 0, .slice (some ⟨w1.heap.size + 1, 0, none⟩) 1 1, .slice (some ⟨w1.heap.size + 1 + 1, 0, none⟩) 1 1] 27)).alloc (.cells #[.bool true, .string ⟨#[120]⟩, .int .i64 1, .string ⟨#[]⟩] 63)).alloc (.cells #[.bool false, .bool true, .string ⟨#[109]⟩, .int .i64 0, .string ⟨#[]⟩, .slice none 0 0, .int .i64 0, .int .i64 0, .slice none 0 0, .slice none 0 0] 47)) = W := ⟨_, rfl⟩
  rw [hW3] at K3 O3 B3 C3 X3
  have KS := Lib.hid (show BK (sets7 W3 w.heap.size (.slice (some ⟨g, 0, none⟩) 1 1) (.string ⟨#[97]⟩) (.string ⟨#[98]⟩) (.bool true) (.slice none 0 0) (.slice (some ⟨w1.heap.size + 1, 0, none⟩) 1 1) (.slice (some ⟨w1.heap.size + 1 + 1, 0, none⟩) 1 1)) w.heap.size #[.slice (some ⟨g, 0, none⟩) 1 1, .string ⟨#[97]⟩, .string ⟨#[98]⟩, .bool true, .slice none 0 0, .slice (some ⟨w1.heap.size + 1, 0, none⟩) 1 1, .slice (some ⟨w1.heap.size + 1 + 1, 0, none⟩) 1 1] 27 from K3.out.sets7 (.slice (some ⟨g, 0, none⟩) 1 1) (.string ⟨#[97]⟩) (.string ⟨#[98]⟩) (.bool true) (.slice none 0 0) (.slice (some ⟨w1.heap.size + 1, 0, none⟩) 1 1) (.slice (some ⟨w1.heap.size + 1 + 1, 0, none⟩) 1 1))
  clear z0 z1 z2 z3 z4 z5 z6 g0' g1' g2' g3' g4' g5' g6'
  rw [hW3]
  have e0 : (sets7 W3 w.heap.size (.slice (some ⟨g, 0, none⟩) 1 1) (.string ⟨#[97]⟩) (.string ⟨#[98]⟩) (.bool true) (.slice none 0 0) (.slice (some ⟨w1.heap.size + 1, 0, none⟩) 1 1) (.slice (some ⟨w1.heap.size + 1 + 1, 0, none⟩) 1 1)).cell? ⟨w.heap.size, 0, none⟩ = some (.slice (some ⟨g, 0, none⟩) 1 1) := KS.out.cell 0
  have e1 : (sets7 W3 w.heap.size (.slice (some ⟨g, 0, none⟩) 1 1) (.string ⟨#[97]⟩) (.string ⟨#[98]⟩) (.bool true) (.slice none 0 0) (.slice (some ⟨w1.heap.size + 1, 0, none⟩) 1 1) (.slice (some ⟨w1.heap.size + 1 + 1, 0, none⟩) 1 1)).cell? ⟨w.heap.size, 1, none⟩ = some (.string ⟨#[97]⟩) := KS.out.cell 1
  have e2 : (sets7 W3 w.heap.size (.slice (some ⟨g, 0, none⟩) 1 1) (.string ⟨#[97]⟩) (.string ⟨#[98]⟩) (.bool true) (.slice none 0 0) (.slice (some ⟨w1.heap.size + 1, 0, none⟩) 1 1) (.slice (some ⟨w1.heap.size + 1 + 1, 0, none⟩) 1 1)).cell? ⟨w.heap.size, 2, none⟩ = some (.string ⟨#[98]⟩) := KS.out.cell 2
  have e3 : (sets7 W3 w.heap.size (.slice (some ⟨g, 0, none⟩) 1 1) (.string ⟨#[97]⟩) (.string ⟨#[98]⟩) (.bool true) (.slice none 0 0) (.slice (some ⟨w1.heap.size + 1, 0, none⟩) 1 1) (.slice (some ⟨w1.heap.size + 1 + 1, 0, none⟩) 1 1)).cell? ⟨w.heap.size, 3, none⟩ = some (.bool true) := KS.out.cell 3
  have e4 : (sets7 W3 w.heap.size (.slice (some ⟨g, 0, none⟩) 1 1) (.string ⟨#[97]⟩) (.string ⟨#[98]⟩) (.bool true) (.slice none 0 0) (.slice (some ⟨w1.heap.size + 1, 0, none⟩) 1 1) (.slice (some ⟨w1.heap.size + 1 + 1, 0, none⟩) 1 1)).cell? ⟨w.heap.size, 4, none⟩ = some (.slice none 0 0) := KS.out.cell 4
  have e5 : (sets7 W3 w.heap.size (.slice (some ⟨g, 0, none⟩) 1 1) (.string ⟨#[97]⟩) (.string ⟨#[98]⟩) (.bool true) (.slice none 0 0) (.slice (some ⟨w1.heap.size + 1, 0, none⟩) 1 1) (.slice (some ⟨w1.heap.size + 1 + 1, 0, none⟩) 1 1)).cell? ⟨w.heap.size, 5, none⟩ = some (.slice (some ⟨w1.heap.size + 1, 0, none⟩) 1 1) := KS.out.cell 5
  have e6 : (sets7 W3 w.heap.size (.slice (some ⟨g, 0, none⟩) 1 1) (.string ⟨#[97]⟩) (.string ⟨#[98]⟩) (.bool true) (.slice none 0 0) (.slice (some ⟨w1.heap.size + 1, 0, none⟩) 1 1) (.slice (some ⟨w1.heap.size + 1 + 1, 0, none⟩) 1 1)).cell? ⟨w.heap.size, 6, none⟩ = some (.slice (some ⟨w1.heap.size + 1 + 1, 0, none⟩) 1 1) := KS.out.cell 6
  refine bodyPost_ret (v := .agg #[.slice (some ⟨g, 0, none⟩) 1 1, .string ⟨#[97]⟩, .string ⟨#[98]⟩, .bool true, .slice none 0 0, .slice (some ⟨w1.heap.size + 1, 0, none⟩) 1 1, .slice (some ⟨w1.heap.size + 1 + 1, 0, none⟩) 1 1]) (by change (results _ _).run _ (sets7 W3 w.heap.size (.slice (some ⟨g, 0, none⟩) 1 1) (.string ⟨#[97]⟩) (.string ⟨#[98]⟩) (.bool true) (.slice none 0 0) (.slice (some ⟨w1.heap.size + 1, 0, none⟩) 1 1) (.slice (some ⟨w1.heap.size + 1 + 1, 0, none⟩) 1 1)) = _; simp [results, Tryz.results24, go_sem, e0, e1, e2, e3, e4, e5, e6]; try rfl) rfl ?_
  refine ⟨_, _, _, rfl, (O3.out.baseF (B' := w.heap.size + 1) (by simp) (fun _ h => h)).keptU (sets7_grown W3 w.heap.size _ _ _ _ _ _ _) (Nat.lt_succ_self _) (fun _ h => h), (Shp.Own.single (S := ShF) (x := F1) B3.out (by omega) trivial).keptU (sets7_grown W3 w.heap.size _ _ _ _ _ _ _) (Nat.lt_succ_self _) (fun _ h => h), OwnM.keptU ⟨_, rfl, Shp.Own.single (S := ShM) (x := (M1, .slice none 0 0, .slice none 0 0, .slice none 0 0)) C3.out (by omega) ⟨Shp.Own.nil _ _ _, Own.nil _ _ _ _, Shp.Own.nil _ _ _⟩⟩ (sets7_grown W3 w.heap.size _ _ _ _ _ _ _) (Nat.lt_succ_self _), ?_⟩
  exact X3.out.grown (sets7_grown W3 w.heap.size _ _ _ _ _ _ _) (fun g hg => by injection hg with hg; omega)
theorem row_bytes {w : World} (g : Nat) (l : List Int) (hg : g = w.heap.size) (hf : Fit .u8 l) (hl : l.length ≤ 65536) :
    Row (w.alloc (.cells (l.map (Value.int .u8)).toArray 5)) .u8 (.slice (some ⟨g, 0, none⟩) l.length l.length) l := by
  subst hg
  exact Row.built w .u8 5 l hf hl
def fitQ (l : List Int) : Bool := l.all fun x => (Lit.int .u8 x).wf
theorem fit_of {l : List Int} (h : fitQ l = true) : Fit .u8 l := fun x hx => List.all_eq_true.1 h x hx
set_option maxRecDepth 100000 in
set_option maxHeartbeats 4000000 in
theorem worksCl_any (w : World) (hT : Tabs w) (hM : Most w) : Calls Tryz.prog 19 #[] w fun e w' => e = .returned (.bool true) ∧ Ext w w' := by
  go_enter Tryz.func19, Tryz.ntmps19
  go_wp2_with fail
  refine (firstCl_any _).mono ?_
  rintro e w1 ⟨g, rfl, h1, x1⟩
  have H1 := Lib.hid h1
  have X1 := Lib.hid x1
  clear h1 x1
  go_wp2_with fail
  refine (isCl_yes C1 (.slice (some ⟨g, 0, none⟩) 1 1) (.slice none 0 0) (.slice none 0 0) (.slice none 0 0) _ B1 _ ((hT.ext X1.out).ext ((Ext.refl _).alloc _)) ((hM.ext X1.out).ext ((Ext.refl _).alloc _)) ⟨H1.out.row.ext ((Ext.refl _).alloc _), Shp.Row.nil _ _, Shp.Row.nil _ _, RowM.nil _⟩ roomC1 goodC1 (row_bytes _ B1 rfl (fit_of (by decide +kernel)) (by decide)) okC1 clB1 (by decide)).mono ?_
  rintro e w2 ⟨rfl, x2⟩
  have X2 := Lib.hid ((X1.out.alloc _).trans x2)
  clear x2
  go_wp2_with fail
  refine (secondCl_any _).mono ?_
  rintro e w3 ⟨g', h', k', rfl, h3, h4, h5, x3⟩
  have X3 := Lib.hid (X2.out.trans x3)
  have H3 := Lib.hid h3.row
  have H4 := Lib.hid h4.row
  have H5 := Lib.hid h5.row
  clear h3 h4 h5 x3
  go_wp2_with fail
  refine (isCl_yes C2 (.slice (some ⟨g', 0, none⟩) 1 1) (.slice none 0 0) (.slice (some ⟨h', 0, none⟩) 1 1) (.slice (some ⟨k', 0, none⟩) 1 1) _ B2 _ ((hT.ext X3.out).ext ((Ext.refl _).alloc _)) ((hM.ext X3.out).ext ((Ext.refl _).alloc _)) ⟨H3.out.ext ((Ext.refl _).alloc _), Shp.Row.nil _ _, H4.out.ext ((Ext.refl _).alloc _), H5.out.ext ((Ext.refl _).alloc _)⟩ roomC2 goodC2 (row_bytes _ B2 rfl (fit_of (by decide +kernel)) (by decide)) okC2 clB2 (by decide)).mono ?_
  rintro e w4 ⟨rfl, x4⟩
  go_wp2
  go_ret
  exact ⟨rfl, (X3.out.alloc _).trans x4⟩
end Go.Proofs.YtokmeomjdpfknaaGreatDoor
