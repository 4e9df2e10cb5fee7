/- LinkArrays, walked. -/
import Derived.Test.YtladeaofhdaloaaDoorYaQ
import Derived.Test.YtladeaofhdaloaaDoorYaL
import Derived.Test.YtladeaofhdaloaaDoorYaQLkTy3
import Derived.Test.YtladeaofhdaloaaDoorYaQKKStepsW
namespace Go.Proofs.YtladeaofhdaloaaDoor
open Go.RowKit
set_option linter.unusedVariables false

set_option maxRecDepth 100000 in
set_option maxHeartbeats 4000000 in
theorem linkArrays_walk (w : World) (hB : Blt w) (v : Value) (l : List KlV) (h : ShK.Row w v l) (hl : l.length * 136 ≤ 140737488351232) (hk : ∀ x ∈ l, KlOk x) (a : Int) (ha : B64 a) (b : Int) (hb : B64 b) :
    Calls Tryd.prog 10 #[v, .int .i64 a, .int .i64 b] w fun e w' => e = .returned (.bool true) ∧ Ext w w' := by
  have HB := Lib.hid hB
  have HH := Lib.hid (fun W (e : Ext w W) => heads_any (h.ext e) hl hk)
  have HK := Lib.hid hk
  have HL := Lib.hid hl
  obtain ⟨A, cp, rfl, -⟩ := h.cut
  have HR := Lib.hid h
  have HAW := Lib.hid (fun W (e : Ext w W) => awake_any W (hB.ext e))
  obtain ⟨n, hn⟩ : ∃ n, l.length = n := ⟨_, rfl⟩
  have HN := Lib.hid hn
  rw [hn] at HH HR ⊢
  obtain ⟨K, hK⟩ : ∃ K, l.map (·.k) = K := ⟨_, rfl⟩
  rw [hK] at HH
  have HKL := Lib.hid hK
  clear h hl hk hB hn hK
  go_enter Tryd.func10, Tryd.ntmps10
  go_wp2_with fail
  refine (HH.out _ (Ext.refl w)).mono ?_
  rintro e w1 ⟨A1, c1, L1, rfl, o1, k1, nl1, x1⟩
  have hnw := newH_any (HB.out.ext ((Ext.refl w).trans x1)) o1.row (by
    have h1 := congrArg List.length k1
    rw [List.length_map] at h1
    rw [h1, ← HKL.out, List.length_map]
    exact HL.out) (by rw [k1, ← HKL.out]; exact map_ok rfl HK.out) nl1
  rw [k1] at hnw
  have HNW := Lib.hid hnw
  have X1' := Lib.hid ((Ext.refl w).trans x1)
  have Y1' := Lib.hid x1
  clear hnw o1 k1 nl1 x1
  go_wp2_with fail
  refine HNW.out.mono ?_
  rintro e w2 ⟨x2, hr⟩
  have X2 := Lib.hid (X1'.out.trans x2)
  have YX2 := Lib.hid (Y1'.out.trans x2)
  clear HNW x2 X1' Y1'
  rcases hr with ⟨nm, er, hf, rfl⟩ | ⟨hf, s, rfl, hs⟩
  · have her := newF_err hf
    have hne : ¬ er = 0 := by omega
    clear hf her
    go_wp2_with fail
    refine (HAW.out _ X2.out).mono ?_
    rintro e w3 ⟨rfl, x3⟩
    go_wp2
    go_ret
    exact ⟨rfl, X2.out.trans x3⟩
  · have HF := Lib.hid hf
    have HS := Lib.hid hs
    clear hf hs
    obtain ⟨N, hN⟩ : ∃ N, setZ nlt K = N := ⟨_, rfl⟩
    rw [hN] at HS
    have HNN := Lib.hid hN
    clear hN
    obtain ⟨m, hm⟩ : ∃ m, N.length = m := ⟨_, rfl⟩
    have HM := Lib.hid hm
    have hm8 : 8 ≤ m := by rw [← hm]; exact HS.out.n8
    have hm72 : m ≤ 72 := by rw [← hm]; exact HS.out.n72
    have HLE := Lib.hid (fun W (e : Ext w2 W) => sLen (HS.out.ext e))
    rw [hm] at HLE
    clear hm
    obtain ⟨x, hx, lx⟩ := bring_nat a (n := m) (by omega)
    have Hx := Lib.hid (fun W => bring_any a (m : Int) W ha.1 ha.2 (by omega) (by omega))
    rw [hx] at Hx
    clear hx
    obtain ⟨y, hy, ly⟩ := bring_nat b (n := m) (by omega)
    have Hy := Lib.hid (fun W => bring_any b (m : Int) W hb.1 hb.2 (by omega) (by omega))
    rw [hy] at Hy
    clear hy
    clear ha hb YX2
    go_wp2_with fail
    refine (HLE.out _ (Ext.refl _)).mono ?_
    rintro e w3 ⟨rfl, rfl⟩
    go_wp2_with fail
    refine (Hx.out _).mono ?_
    rintro e w3 ⟨rfl, rfl⟩
    go_wp2_with fail
    refine (HLE.out _ (Ext.refl _)).mono ?_
    rintro e w3 ⟨rfl, rfl⟩
    go_wp2_with fail
    refine (Hy.out _).mono ?_
    rintro e w3 ⟨rfl, rfl⟩
    have hmx : x < N.length := by have := HM.out; omega
    have hmy : y < N.length := by have := HM.out; omega
    have hnx := sName HS.out x
    have hny := fun W (e : Ext w3 W) => sName (HS.out.ext e) y
    rw [show nameZ N x = (gk N x).nm by unfold nameZ; rw [inN_nat hmx]; rfl] at hnx
    rw [show nameZ N y = (gk N y).nm by unfold nameZ; rw [inN_nat hmy]; rfl] at hny
    have hzx := (HS.out.nms x).1
    have hzy := (HS.out.nms y).1
    have hob := HS.out.obj
    have hb := fun W (e : Ext w3 W) => HB.out.ext (X2.out.trans e)
    have t1 := fun W (e : Ext w3 W) => sBelowTy (HS.out.ext e) (hb W e) 6 (gk N x).nm 6 (gk N y).nm hzx hzy
    rw [HS.out.bt66 hmx hmy] at t1
    have t2 := fun W (e : Ext w3 W) => sBelowTy (HS.out.ext e) (hb W e) 3 (gk N x).nm 3 (gk N y).nm hzx hzy
    rw [HS.out.bt33 hmx hmy] at t2
    have t3 := fun W (e : Ext w3 W) => sBelowTy (HS.out.ext e) (hb W e) 6 (gk N x).nm 3 (gk N y).nm hzx hzy
    rw [HS.out.bt63 hmx hmy] at t3
    have t4 := fun W (e : Ext w3 W) => sBelowTy (HS.out.ext e) (hb W e) 3 (gk N x).nm 6 (gk N y).nm hzx hzy
    rw [HS.out.bt36 hmx hmy] at t4
    have t5 := fun W (e : Ext w3 W) => sBelowTy (HS.out.ext e) (hb W e) 4 ⟨#[]⟩ 3 nObj (by decide) (by decide)
    rw [HS.out.bt43] at t5
    have t6 := fun W (e : Ext w3 W) => sBelowTy (HS.out.ext e) (hb W e) 4 ⟨#[]⟩ 5 ⟨#[]⟩ (by decide) (by decide)
    rw [HS.out.bt45] at t6
    have t7 := fun W (e : Ext w3 W) => sBelow (HS.out.ext e) x y
    obtain ⟨nx, hnx2⟩ : ∃ nx, (gk N x).nm = nx := ⟨_, rfl⟩
    obtain ⟨ny, hny2⟩ : ∃ ny, (gk N y).nm = ny := ⟨_, rfl⟩
    obtain ⟨bb, hbb⟩ : ∃ bb, belowZ N x y = bb := ⟨_, rfl⟩
    obtain ⟨b0, hb0, hb1⟩ : ∃ b0, decide (y = 0) = b0 ∧ ((y : Int) == 0) = b0 := ⟨_, rfl, (dec_nat y).symm⟩
    rw [hnx2] at hnx t1 t2 t3 t4
    rw [hny2] at hny t1 t2 t3 t4
    simp only [hbb] at t1 t2 t7
    simp only [hb0] at t3
    unfold nObj at t5
    have HNXX : Hid (∀ W, Ext w3 W → Calls Tryd.prog 20 #[.pointer (some ⟨s, 0, none⟩), .int .i64 x] W fun e w' => e = .returned (.string nx) ∧ Ext W w') := Lib.hid (fun W e => by
      have h1 := sName (HS.out.ext e) x
      rw [show nameZ N x = (gk N x).nm by unfold nameZ; rw [inN_nat hmx]; rfl, hnx2] at h1
      exact h1)
    have HNYY := Lib.hid hny
    have T1 := Lib.hid t1
    have T2 := Lib.hid t2
    have T3 := Lib.hid t3
    have T4 := Lib.hid t4
    have T5 := Lib.hid t5
    have T6 := Lib.hid t6
    have T7 := Lib.hid t7
    have HX3 : Hid (∀ W, Ext w3 W → Ext w W) := Lib.hid fun W e => X2.out.trans e
    have HAX : Hid (∀ W, Ext w3 W → Calls Tryd.prog 14 #[] W fun e w' => e = .returned (.bool true) ∧ Ext W w') := Lib.hid fun W e => HAW.out W (HX3.out W e)
    clear hnx hny hzx hzy hob hb t1 t2 t3 t4 t5 t6 t7 hnx2 hny2 hbb hb0 hmx hmy HS HF HLE Hx Hy X2 HAW HM HB HK HL HR HN HH HKL HNN
    cases bb
    all_goals
      cases b0
      all_goals
        go_wp2_with fail
        refine (HNXX.out _ (Ext.refl _)).mono ?_
        rintro e v8_1 ⟨rfl, x8_1⟩
        have Z8_1 := Lib.hid (((Ext.refl _)).trans x8_1)
        clear x8_1
        go_wp2_with fail
        refine (HNYY.out _ Z8_1.out).mono ?_
        rintro e v8_2 ⟨rfl, x8_2⟩
        have Z8_2 := Lib.hid ((Z8_1.out).trans x8_2)
        clear x8_2
        go_wp2_with fail
        refine (T1.out _ Z8_2.out).mono ?_
        rintro e v8_3 ⟨rfl, x8_3⟩
        have Z8_3 := Lib.hid ((Z8_2.out).trans x8_3)
        clear x8_3
        go_wp2_with fail
        refine (T7.out _ Z8_3.out).mono ?_
        rintro e v8_4 ⟨rfl, x8_4⟩
        have Z8_4 := Lib.hid ((Z8_3.out).trans x8_4)
        clear x8_4
        go_wp2_with fail
        refine (T2.out _ Z8_4.out).mono ?_
        rintro e v8_5 ⟨rfl, x8_5⟩
        have Z8_5 := Lib.hid ((Z8_4.out).trans x8_5)
        clear x8_5
        go_wp2_with fail
        refine (T7.out _ Z8_5.out).mono ?_
        rintro e v8_6 ⟨rfl, x8_6⟩
        have Z8_6 := Lib.hid ((Z8_5.out).trans x8_6)
        clear x8_6
        go_wp2_with fail
        refine (T3.out _ Z8_6.out).mono ?_
        rintro e v8_7 ⟨rfl, x8_7⟩
        have Z8_7 := Lib.hid ((Z8_6.out).trans x8_7)
        clear x8_7
        go_wp2_with fail
        refine (T4.out _ Z8_7.out).mono ?_
        rintro e v8_8 ⟨rfl, x8_8⟩
        have Z8_8 := Lib.hid ((Z8_7.out).trans x8_8)
        clear x8_8
        go_wp2_with fail
        refine (T5.out _ Z8_8.out).mono ?_
        rintro e v8_9 ⟨rfl, x8_9⟩
        have Z8_9 := Lib.hid ((Z8_8.out).trans x8_9)
        clear x8_9
        go_wp2_with fail
        refine (T6.out _ Z8_9.out).mono ?_
        rintro e v8_10 ⟨rfl, x8_10⟩
        have Z8_10 := Lib.hid ((Z8_9.out).trans x8_10)
        clear x8_10
        go_wp2_with fail
        refine (HAX.out _ Z8_10.out).mono ?_
        rintro e v8_11 ⟨rfl, x8_11⟩
        have Z8_11 := Lib.hid ((Z8_10.out).trans x8_11)
        clear x8_11
        go_wp2
        go_ret
        exact ⟨rfl, HX3.out _ Z8_11.out⟩
end Go.Proofs.YtladeaofhdaloaaDoor
