/- LinkOrder, walked. -/
import Derived.Test.YtladeaofhdaloaaDoorYaQ
import Derived.Test.YtladeaofhdaloaaDoorYaL
namespace Go.Proofs.YtladeaofhdaloaaDoor
open Go.RowKit
set_option linter.unusedVariables false

set_option maxRecDepth 100000 in
set_option maxHeartbeats 4000000 in
theorem linkOrder_walk (w : World) (hB : Blt w) (v : Value) (l : List KlV) (h : ShK.Row w v l) (hl : l.length * 136 ≤ 140737488351232) (hk : ∀ x ∈ l, KlOk x) (a : Int) (ha : B64 a) (b c : Int) (hbc : B64 b ∧ B64 c) :
    Calls Tryd.prog 6 #[v, .int .i64 a, .agg #[.int .i64 b, .int .i64 c]] w fun e w' => e = .returned (.bool true) ∧ Ext w w' := by
  have HB := Lib.hid hB
  have HH := Lib.hid (fun W (e : Ext w W) => heads_any (h.ext e) hl hk)
  have HK := Lib.hid hk
  have HL := Lib.hid hl
  obtain ⟨A, cp, rfl, -⟩ := h.cut
  have HR := Lib.hid h
  have HAW := Lib.hid (fun W (e : Ext w W) => awake_any W (hB.ext e))
  obtain ⟨n, hn⟩ : ∃ n, l.length = n := ⟨_, rfl⟩
  have HN := Lib.hid hn
  rw [hn] at HH HR ⊢
  obtain ⟨K, hK⟩ : ∃ K, l.map (·.k) = K := ⟨_, rfl⟩
  rw [hK] at HH
  have HKL := Lib.hid hK
  clear h hl hk hB hn hK
  go_enter Tryd.func6, Tryd.ntmps6
  go_wp2_with fail
  refine (HH.out _ ((Ext.refl w).alloc _)).mono ?_
  rintro e w1 ⟨A1, c1, L1, rfl, o1, k1, nl1, x1⟩
  have hnw := newH_any (HB.out.ext (((Ext.refl w).alloc _).trans x1)) o1.row (by
    have h1 := congrArg List.length k1
    rw [List.length_map] at h1
    rw [h1, ← HKL.out, List.length_map]
    exact HL.out) (by rw [k1, ← HKL.out]; exact map_ok rfl HK.out) nl1
  rw [k1] at hnw
  have HNW := Lib.hid hnw
  have X1' := Lib.hid (((Ext.refl w).alloc _).trans x1)
  have Y1' := Lib.hid x1
  clear hnw o1 k1 nl1 x1
  go_wp2_with fail
  refine HNW.out.mono ?_
  rintro e w2 ⟨x2, hr⟩
  have X2 := Lib.hid (X1'.out.trans x2)
  have YX2 := Lib.hid (Y1'.out.trans x2)
  clear HNW x2 X1' Y1'
  rcases hr with ⟨nm, er, hf, rfl⟩ | ⟨hf, s, rfl, hs⟩
  · have her := newF_err hf
    have hne : ¬ er = 0 := by omega
    clear hf her
    go_wp2_with fail
    refine (HAW.out _ X2.out).mono ?_
    rintro e w3 ⟨rfl, x3⟩
    go_wp2
    go_ret
    exact ⟨rfl, X2.out.trans x3⟩
  · have HF := Lib.hid hf
    have HS := Lib.hid hs
    clear hf hs
    obtain ⟨N, hN⟩ : ∃ N, setZ nlt K = N := ⟨_, rfl⟩
    rw [hN] at HS
    have HNN := Lib.hid hN
    clear hN
    obtain ⟨m, hm⟩ : ∃ m, N.length = m := ⟨_, rfl⟩
    have HM := Lib.hid hm
    have hm8 : 8 ≤ m := by rw [← hm]; exact HS.out.n8
    have hm72 : m ≤ 72 := by rw [← hm]; exact HS.out.n72
    have HLE := Lib.hid (fun W (e : Ext w2 W) => sLen (HS.out.ext e))
    rw [hm] at HLE
    clear hm
    obtain ⟨x, hx, lx⟩ := bring_nat a (n := m) (by omega)
    have Hx := Lib.hid (fun W => bring_any a (m : Int) W ha.1 ha.2 (by omega) (by omega))
    rw [hx] at Hx
    clear hx
    obtain ⟨y, hy, ly⟩ := bring_nat b (n := m) (by omega)
    have Hy := Lib.hid (fun W => bring_any b (m : Int) W hbc.1.1 hbc.1.2 (by omega) (by omega))
    rw [hy] at Hy
    clear hy
    obtain ⟨z, hz, lz⟩ := bring_nat c (n := m) (by omega)
    have Hz := Lib.hid (fun W => bring_any c (m : Int) W hbc.2.1 hbc.2.2 (by omega) (by omega))
    rw [hz] at Hz
    clear hz
    have e1 := (Ext.refl w2).drew
    have hbx := heap_alloc_new w (.cells #[.int .i64 b, .int .i64 c] 60)
    have hbx := ((YX2.out.trans e1).block _ (by simp)).trans hbx
    have q0 : w2.drew.cell? ⟨w.heap.size, 0, none⟩ = some (.int .i64 b) := by rw [cell_of_row w2.drew _ 0 _ _ (0, 0) hbx]; rfl
    have q1 : w2.drew.cell? ⟨w.heap.size, 1, none⟩ = some (.int .i64 c) := by rw [cell_of_row w2.drew _ 1 _ _ (0, 0) hbx]; rfl
    obtain ⟨b0, hb0⟩ : ∃ b0, w.heap.size = b0 := ⟨_, rfl⟩
    rw [hb0] at q0 q1 ⊢
    clear hbx hb0 ha hbc
    go_wp2_with fail
    go_region_held3 (fun w' => w'.cell? ⟨b0, 0, none⟩ = some (.int .i64 b) ∧ w'.cell? ⟨b0, 1, none⟩ = some (.int .i64 c)) (first | go_keep | with_reducible assumption | assumption) (first
      | (go_at_call 15; (with_reducible refine (HLE.out _ e1).mono ?_); rintro e3 w3 ⟨rfl, rfl⟩)
      | (go_at_call 29; (with_reducible refine (Hx.out _).mono ?_); rintro e3 w3 ⟨rfl, rfl⟩)
      | (go_at_call 29; (with_reducible refine (Hy.out _).mono ?_); rintro e3 w3 ⟨rfl, rfl⟩)
      | (go_at_call 29; (with_reducible refine (Hz.out _).mono ?_); rintro e3 w3 ⟨rfl, rfl⟩))
    have hok := HS.out.ok
    have hmx : x < N.length := by have := HM.out; omega
    have hmy : y < N.length := by have := HM.out; omega
    have hxx := below_refl hok hmx
    have hx0 := below_top hok hmx
    have hyx := fun (h1 : belowZ N x y = true) (h2 : belowZ N y x = true) => below_anti hok hmx hmy h1 h2
    have hxz := fun (h1 : belowZ N x y = true) (h2 : belowZ N y z = true) => below_trans hok hmx hmy h1 h2
    have hst : ∀ i j : Int, ∀ W, Ext w2.drew W → Calls Tryd.prog 32 #[.pointer (some ⟨s, 0, none⟩), .int .i64 i, .int .i64 j] W fun e w' => e = .returned (.bool (belowZ N i j)) ∧ Ext W w' := fun i j W e => sBelow (HS.out.ext (e1.trans e)) i j
    have Hxx := hst x x
    have Hx0 := hst x 0
    have Hxy := hst x y
    have Hyx := hst y x
    have Hyz := hst y z
    have Hxz := hst x z
    rw [hxx] at Hxx
    rw [hx0] at Hx0
    have HX2 : Hid (∀ W, Ext w2.drew W → Ext w W) := Lib.hid fun W e => X2.out.trans (e1.trans e)
    have HAX : Hid (∀ W, Ext w2.drew W → Calls Tryd.prog 14 #[] W fun e w' => e = .returned (.bool true) ∧ Ext W w') := Lib.hid fun W e => HAW.out W (HX2.out W e)
    have HXX := Lib.hid Hxx
    have HX0 := Lib.hid Hx0
    obtain ⟨W2, hW2⟩ : ∃ W2, w2.drew = W2 := ⟨_, rfl⟩
    rw [hW2] at Hxx Hx0 Hxy Hyx Hyz Hxz HX2 HAX HXX HX0 ⊢
    clear hst Hxx Hx0 hxx hx0 HLE Hx Hy Hz HAW HS HF YX2 X2 q0 q1 e1 hW2
    by_cases exy : x = y
    · subst exy
      rw [below_refl hok hmx] at Hxy Hyx
      have HXY := Lib.hid Hxy
      cases byz : belowZ N x z
      · rw [byz] at Hyz Hxz
        have HYZ := Lib.hid Hyz
        clear Hxy Hyx Hyz Hxz hyx hxz hok hmx hmy byz
        go_wp2_with fail
        refine (HXX.out _ (Ext.refl _)).mono ?_
        rintro e v8_1 ⟨rfl, x8_1⟩
        have Z8_1 := Lib.hid (((Ext.refl _)).trans x8_1)
        clear x8_1
        go_wp2_with fail
        refine (HX0.out _ Z8_1.out).mono ?_
        rintro e v8_2 ⟨rfl, x8_2⟩
        have Z8_2 := Lib.hid ((Z8_1.out).trans x8_2)
        clear x8_2
        go_wp2_with fail
        refine (HXY.out _ Z8_2.out).mono ?_
        rintro e v8_3 ⟨rfl, x8_3⟩
        have Z8_3 := Lib.hid ((Z8_2.out).trans x8_3)
        clear x8_3
        go_wp2_with fail
        refine (HYZ.out _ Z8_3.out).mono ?_
        rintro e v8_4 ⟨rfl, x8_4⟩
        have Z8_4 := Lib.hid ((Z8_3.out).trans x8_4)
        clear x8_4
        go_wp2_with fail
        refine (HAX.out _ Z8_4.out).mono ?_
        rintro e v8_5 ⟨rfl, x8_5⟩
        have Z8_5 := Lib.hid ((Z8_4.out).trans x8_5)
        clear x8_5
        go_wp2
        go_ret
        exact ⟨rfl, HX2.out _ Z8_5.out⟩
      · rw [byz] at Hyz Hxz
        have HYZ := Lib.hid Hyz
        clear Hxy Hyx Hyz Hxz hyx hxz hok hmx hmy byz
        go_wp2_with fail
        refine (HXX.out _ (Ext.refl _)).mono ?_
        rintro e v8_1 ⟨rfl, x8_1⟩
        have Z8_1 := Lib.hid (((Ext.refl _)).trans x8_1)
        clear x8_1
        go_wp2_with fail
        refine (HX0.out _ Z8_1.out).mono ?_
        rintro e v8_2 ⟨rfl, x8_2⟩
        have Z8_2 := Lib.hid ((Z8_1.out).trans x8_2)
        clear x8_2
        go_wp2_with fail
        refine (HXY.out _ Z8_2.out).mono ?_
        rintro e v8_3 ⟨rfl, x8_3⟩
        have Z8_3 := Lib.hid ((Z8_2.out).trans x8_3)
        clear x8_3
        go_wp2_with fail
        refine (HYZ.out _ Z8_3.out).mono ?_
        rintro e v8_4 ⟨rfl, x8_4⟩
        have Z8_4 := Lib.hid ((Z8_3.out).trans x8_4)
        clear x8_4
        go_wp2_with fail
        refine (HYZ.out _ Z8_4.out).mono ?_
        rintro e v8_5 ⟨rfl, x8_5⟩
        have Z8_5 := Lib.hid ((Z8_4.out).trans x8_5)
        clear x8_5
        go_wp2_with fail
        refine (HAX.out _ Z8_5.out).mono ?_
        rintro e v8_6 ⟨rfl, x8_6⟩
        have Z8_6 := Lib.hid ((Z8_5.out).trans x8_6)
        clear x8_6
        go_wp2
        go_ret
        exact ⟨rfl, HX2.out _ Z8_6.out⟩
    · have nxy : ((x : Int) != (y : Int)) = true := by simp; omega
      cases bxy : belowZ N x y
      · rw [bxy] at Hxy
        have HXY := Lib.hid Hxy
        clear Hxy Hyx Hyz Hxz hyx hxz hok hmx hmy bxy exy
        go_wp2_with fail
        refine (HXX.out _ (Ext.refl _)).mono ?_
        rintro e v8_1 ⟨rfl, x8_1⟩
        have Z8_1 := Lib.hid (((Ext.refl _)).trans x8_1)
        clear x8_1
        go_wp2_with fail
        refine (HX0.out _ Z8_1.out).mono ?_
        rintro e v8_2 ⟨rfl, x8_2⟩
        have Z8_2 := Lib.hid ((Z8_1.out).trans x8_2)
        clear x8_2
        go_wp2_with fail
        refine (HXY.out _ Z8_2.out).mono ?_
        rintro e v8_3 ⟨rfl, x8_3⟩
        have Z8_3 := Lib.hid ((Z8_2.out).trans x8_3)
        clear x8_3
        go_wp2_with fail
        refine (HXY.out _ Z8_3.out).mono ?_
        rintro e v8_4 ⟨rfl, x8_4⟩
        have Z8_4 := Lib.hid ((Z8_3.out).trans x8_4)
        clear x8_4
        go_wp2_with fail
        refine (HAX.out _ Z8_4.out).mono ?_
        rintro e v8_5 ⟨rfl, x8_5⟩
        have Z8_5 := Lib.hid ((Z8_4.out).trans x8_5)
        clear x8_5
        go_wp2
        go_ret
        exact ⟨rfl, HX2.out _ Z8_5.out⟩
      · have byx : belowZ N y x = false := by
          cases h : belowZ N y x
          · rfl
          · exact absurd (hyx bxy h) exy
        rw [bxy] at Hxy
        rw [byx] at Hyx
        have HXY := Lib.hid Hxy
        have HYX := Lib.hid Hyx
        cases byz : belowZ N y z
        · rw [byz] at Hyz
          have HYZ := Lib.hid Hyz
          clear Hxy Hyx Hyz Hxz hyx hxz hok hmx hmy bxy byx byz exy
          go_wp2_with fail
          refine (HXX.out _ (Ext.refl _)).mono ?_
          rintro e v10_1 ⟨rfl, x10_1⟩
          have Z10_1 := Lib.hid (((Ext.refl _)).trans x10_1)
          clear x10_1
          go_wp2_with fail
          refine (HX0.out _ Z10_1.out).mono ?_
          rintro e v10_2 ⟨rfl, x10_2⟩
          have Z10_2 := Lib.hid ((Z10_1.out).trans x10_2)
          clear x10_2
          go_wp2_with fail
          refine (HXY.out _ Z10_2.out).mono ?_
          rintro e v10_3 ⟨rfl, x10_3⟩
          have Z10_3 := Lib.hid ((Z10_2.out).trans x10_3)
          clear x10_3
          go_wp2_with fail
          refine (HYX.out _ Z10_3.out).mono ?_
          rintro e v10_4 ⟨rfl, x10_4⟩
          have Z10_4 := Lib.hid ((Z10_3.out).trans x10_4)
          clear x10_4
          go_wp2_with fail
          refine (HXY.out _ Z10_4.out).mono ?_
          rintro e v10_5 ⟨rfl, x10_5⟩
          have Z10_5 := Lib.hid ((Z10_4.out).trans x10_5)
          clear x10_5
          go_wp2_with fail
          refine (HYZ.out _ Z10_5.out).mono ?_
          rintro e v10_6 ⟨rfl, x10_6⟩
          have Z10_6 := Lib.hid ((Z10_5.out).trans x10_6)
          clear x10_6
          go_wp2_with fail
          refine (HAX.out _ Z10_6.out).mono ?_
          rintro e v10_7 ⟨rfl, x10_7⟩
          have Z10_7 := Lib.hid ((Z10_6.out).trans x10_7)
          clear x10_7
          go_wp2
          go_ret
          exact ⟨rfl, HX2.out _ Z10_7.out⟩
        · rw [byz] at Hyz
          rw [hxz bxy byz] at Hxz
          have HYZ := Lib.hid Hyz
          have HXZ := Lib.hid Hxz
          clear Hxy Hyx Hyz Hxz hyx hxz hok hmx hmy bxy byx byz exy
          go_wp2_with fail
          refine (HXX.out _ (Ext.refl _)).mono ?_
          rintro e v10_1 ⟨rfl, x10_1⟩
          have Z10_1 := Lib.hid (((Ext.refl _)).trans x10_1)
          clear x10_1
          go_wp2_with fail
          refine (HX0.out _ Z10_1.out).mono ?_
          rintro e v10_2 ⟨rfl, x10_2⟩
          have Z10_2 := Lib.hid ((Z10_1.out).trans x10_2)
          clear x10_2
          go_wp2_with fail
          refine (HXY.out _ Z10_2.out).mono ?_
          rintro e v10_3 ⟨rfl, x10_3⟩
          have Z10_3 := Lib.hid ((Z10_2.out).trans x10_3)
          clear x10_3
          go_wp2_with fail
          refine (HYX.out _ Z10_3.out).mono ?_
          rintro e v10_4 ⟨rfl, x10_4⟩
          have Z10_4 := Lib.hid ((Z10_3.out).trans x10_4)
          clear x10_4
          go_wp2_with fail
          refine (HXY.out _ Z10_4.out).mono ?_
          rintro e v10_5 ⟨rfl, x10_5⟩
          have Z10_5 := Lib.hid ((Z10_4.out).trans x10_5)
          clear x10_5
          go_wp2_with fail
          refine (HYZ.out _ Z10_5.out).mono ?_
          rintro e v10_6 ⟨rfl, x10_6⟩
          have Z10_6 := Lib.hid ((Z10_5.out).trans x10_6)
          clear x10_6
          go_wp2_with fail
          refine (HXZ.out _ Z10_6.out).mono ?_
          rintro e v10_7 ⟨rfl, x10_7⟩
          have Z10_7 := Lib.hid ((Z10_6.out).trans x10_7)
          clear x10_7
          go_wp2_with fail
          refine (HAX.out _ Z10_7.out).mono ?_
          rintro e v10_8 ⟨rfl, x10_8⟩
          have Z10_8 := Lib.hid ((Z10_7.out).trans x10_8)
          clear x10_8
          go_wp2
          go_ret
          exact ⟨rfl, HX2.out _ Z10_8.out⟩
end Go.Proofs.YtladeaofhdaloaaDoor
