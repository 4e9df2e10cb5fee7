/- PoolOne: of constants that may be each one is told by just one of Text, Num, ClassName and Ref, but the first one by none, of any list and place; the row's two tables are as the library's text lays them. -/
import Derived.Test.YtecgldkhjgcffaaDoorZsL
import Derived.Test.YtecgldkhjgcffaaDoorZsX
import Derived.Test.YtecgldkhjgcffaaDoorZsA
namespace Go.Proofs.YtecgldkhjgcffaaDoor
open Go.ChangeShapes Go.WideShapes Go.ChangeAt Go.RowKit
open Go.ChangeMaps (open_string shut_string)
set_option linter.unusedVariables false
set_option maxRecDepth 100000 in
set_option maxHeartbeats 8000000 in
theorem poolOne_walk (w : World) (hT : Tabs w) (v : Value) (l : List Cst) (h : RowC w v l) (hl : l.length * 56 ≤ 140737488351232 ∧ Texts l) (i : Int) (hi : -9223372036854775808 ≤ i ∧ i ≤ 9223372036854775807) : Calls Tryd.prog 8 #[v, .int .i64 i] w (RetB w true) := by
  have HX := Lib.hid hl.2
  have hok := h.all
  by_cases hc : checkC l = 0
  · obtain ⟨h1, h2, ha⟩ := check_all hc
    have hz : (gc l 0).k = 0 := by rw [ha.1]; rfl
    obtain ⟨n, hn⟩ : ∃ n, l.length = n := ⟨_, rfl⟩
    obtain ⟨j, hj, hjn⟩ := bring_nat i (show 0 < l.length by omega)
    have HJ := Lib.hid hj
    have HC := Lib.hid hc
    have HZ := Lib.hid hz
    obtain ⟨A, cp, hvv, hcl, hcm, -, -, hcells⟩ := id h
    obtain ⟨bl, ob, hA, hbl, hat⟩ := hcells h2
    subst hA
    have at0 := hat j (by omega)
    have oky := gc_ok hok j
    unfold maxLen at hcm
    have hji : I64 (j : Int) := ⟨by omega, by omega⟩
    rw [hn] at hvv hcl hjn h1 h2
    rw [hn] at HJ
    clear hc hj hz hcells hat
    by_cases hj0 : j = 0
    · have hg : gc l j = c0 := by rw [hj0]; exact ha.1
      have HT := Lib.hid (tText_no (l := l) (j := j) (.inr hj0))
      have HN := Lib.hid (tNum_no (l := l) (j := j) (k := 0) (.inr hj0))
      have HCl := Lib.hid (tClass_no (l := l) (j := j) (.inr hj0))
      have HR := Lib.hid (tRef_no (l := l) (j := j) (k := 0) (.inr hj0))
      rw [hg] at at0
      have hmin : min (j : Int) 1 = 0 := by omega
      clear hg ha oky hj0

      subst hvv
      go_enter Tryd.func8, Tryd.ntmps8
      go_wp2_with fail
      refine (works_any _ hT).mono ?_
      rintro e w1 ⟨rfl, x1⟩
      go_wp2_with fail
      refine (Check_any _ l _ (by exact h.ext x1) (hT.ext x1) HX.out).mono ?_
      rw [HC.out]
      rintro e w2 ⟨rfl, x2'⟩
      have x2 := x1.trans x2'
      go_wp2_with fail
      refine (bring_any i n _ hi.1 hi.2 (by omega) (by omega)).mono ?_
      rw [HJ.out]
      rintro e w3 ⟨rfl, rfl⟩
      go_wp2_with fail
      refine (Text_any _ l _ _ (by exact h.ext x2) hji HZ.out HX.out).mono ?_
      rw [HT.out]
      rintro e w4 ⟨rfl, x4'⟩
      have x4 := x2.trans x4'
      have at4 := at0.ext x4 hbl
      have hb4 : bl < w4.heap.size := Nat.lt_of_lt_of_le hbl x4.size
      obtain ⟨a40, a41, a42, a43, a44, a45⟩ := id at4
      simp only [c0] at a40 a41 a42 a43 a44 a45
      go_wp2_with fail
      refine (Num_any _ l _ _ _ (by exact h.ext x4) hji (by unfold I64; omega) HZ.out).mono ?_
      rw [HN.out]
      rintro e w5 ⟨rfl, x5'⟩
      have x5 := x4.trans x5'
      have at5 := at0.ext x5 hbl
      have hb5 : bl < w5.heap.size := Nat.lt_of_lt_of_le hbl x5.size
      obtain ⟨a50, a51, a52, a53, a54, a55⟩ := id at5
      simp only [c0] at a50 a51 a52 a53 a54 a55
      go_wp2_with fail
      refine (ClassName_any _ l _ _ (by exact h.ext x5) hji HZ.out HX.out).mono ?_
      rw [HCl.out]
      rintro e w6 ⟨rfl, x6'⟩
      have x6 := x5.trans x6'
      have at6 := at0.ext x6 hbl
      have hb6 : bl < w6.heap.size := Nat.lt_of_lt_of_le hbl x6.size
      obtain ⟨a60, a61, a62, a63, a64, a65⟩ := id at6
      simp only [c0] at a60 a61 a62 a63 a64 a65
      go_wp2_with fail
      refine (Ref_any _ l _ _ _ (by exact h.ext x6) hji (by unfold I64; omega) HZ.out HX.out).mono ?_
      rw [HR.out]
      rintro e w7 ⟨rfl, x7'⟩
      have x7 := x6.trans x7'
      have at7 := at0.ext x7 hbl
      have hb7 : bl < w7.heap.size := Nat.lt_of_lt_of_le hbl x7.size
      obtain ⟨a70, a71, a72, a73, a74, a75⟩ := id at7
      simp only [c0] at a70 a71 a72 a73 a74 a75
      go_wp2
      go_ret
      exact ⟨rfl, x7⟩
    · have hm := ha.2 j (by omega) (by omega)
      have hmin : min (j : Int) 1 = 1 := by omega
      have hll : l.length ≤ 4096 := by omega
      have hjl : j < l.length := by omega
      rcases may_cases hm hll with ⟨t, hy, -⟩ | ⟨k, m, hy, rfl | rfl⟩ | ⟨a, hy, -, -⟩ | ⟨k, a, b, c, hy, rfl | rfl, -, -, -⟩

      · have HT := Lib.hid (tText_yesN (by omega) hjl (by rw [hy]))
        have HN := Lib.hid (tNum_no (l := l) (j := j) (k := 1) (.inl (by simp)))
        have HCl := Lib.hid (tClass_no (l := l) (j := j) (.inl (by rw [hy]; simp)))
        have HR := Lib.hid (tRef_no (l := l) (j := j) (k := 1) (.inl (by simp)))
        rw [hy] at at0 oky; rw [hy] at HT
        clear hy hm ha oky
        subst hvv
        go_enter Tryd.func8, Tryd.ntmps8
        go_wp2_with fail
        refine (works_any _ hT).mono ?_
        rintro e w1 ⟨rfl, x1⟩
        go_wp2_with fail
        refine (Check_any _ l _ (by exact h.ext x1) (hT.ext x1) HX.out).mono ?_
        rw [HC.out]
        rintro e w2 ⟨rfl, x2'⟩
        have x2 := x1.trans x2'
        go_wp2_with fail
        refine (bring_any i n _ hi.1 hi.2 (by omega) (by omega)).mono ?_
        rw [HJ.out]
        rintro e w3 ⟨rfl, rfl⟩
        go_wp2_with fail
        refine (Text_any _ l _ _ (by exact h.ext x2) hji HZ.out HX.out).mono ?_
        rw [HT.out]
        rintro e w4 ⟨rfl, x4'⟩
        have x4 := x2.trans x4'
        have at4 := at0.ext x4 hbl
        have hb4 : bl < w4.heap.size := Nat.lt_of_lt_of_le hbl x4.size
        obtain ⟨a40, a41, a42, a43, a44, a45⟩ := id at4
        simp only at a40 a41 a42 a43 a44 a45
        go_wp2_with fail
        refine (Num_any _ l _ _ _ (by exact h.ext x4) hji (by unfold I64; omega) HZ.out).mono ?_
        rw [HN.out]
        rintro e w5 ⟨rfl, x5'⟩
        have x5 := x4.trans x5'
        have at5 := at0.ext x5 hbl
        have hb5 : bl < w5.heap.size := Nat.lt_of_lt_of_le hbl x5.size
        obtain ⟨a50, a51, a52, a53, a54, a55⟩ := id at5
        simp only at a50 a51 a52 a53 a54 a55
        go_wp2_with fail
        refine (ClassName_any _ l _ _ (by exact h.ext x5) hji HZ.out HX.out).mono ?_
        rw [HCl.out]
        rintro e w6 ⟨rfl, x6'⟩
        have x6 := x5.trans x6'
        have at6 := at0.ext x6 hbl
        have hb6 : bl < w6.heap.size := Nat.lt_of_lt_of_le hbl x6.size
        obtain ⟨a60, a61, a62, a63, a64, a65⟩ := id at6
        simp only at a60 a61 a62 a63 a64 a65
        go_wp2_with fail
        refine (Ref_any _ l _ _ _ (by exact h.ext x6) hji (by unfold I64; omega) HZ.out HX.out).mono ?_
        rw [HR.out]
        rintro e w7 ⟨rfl, x7'⟩
        have x7 := x6.trans x7'
        have at7 := at0.ext x7 hbl
        have hb7 : bl < w7.heap.size := Nat.lt_of_lt_of_le hbl x7.size
        obtain ⟨a70, a71, a72, a73, a74, a75⟩ := id at7
        simp only at a70 a71 a72 a73 a74 a75
        go_wp2
        go_ret
        exact ⟨rfl, x7⟩
      · have HT := Lib.hid (tText_no (l := l) (j := j) (.inl (by rw [hy]; simp)))
        have HN := Lib.hid (tNum_yes (l := l) (j := j) (k := 2) (by simp) (by omega) hjl (by rw [hy]))
        have HCl := Lib.hid (tClass_no (l := l) (j := j) (.inl (by rw [hy]; simp)))
        have HR := Lib.hid (tRef_no (l := l) (j := j) (k := 2) (.inl (by simp)))
        rw [hy] at at0 oky; rw [hy] at HN
        clear hy hm ha oky
        subst hvv
        go_enter Tryd.func8, Tryd.ntmps8
        go_wp2_with fail
        refine (works_any _ hT).mono ?_
        rintro e w1 ⟨rfl, x1⟩
        go_wp2_with fail
        refine (Check_any _ l _ (by exact h.ext x1) (hT.ext x1) HX.out).mono ?_
        rw [HC.out]
        rintro e w2 ⟨rfl, x2'⟩
        have x2 := x1.trans x2'
        go_wp2_with fail
        refine (bring_any i n _ hi.1 hi.2 (by omega) (by omega)).mono ?_
        rw [HJ.out]
        rintro e w3 ⟨rfl, rfl⟩
        go_wp2_with fail
        refine (Text_any _ l _ _ (by exact h.ext x2) hji HZ.out HX.out).mono ?_
        rw [HT.out]
        rintro e w4 ⟨rfl, x4'⟩
        have x4 := x2.trans x4'
        have at4 := at0.ext x4 hbl
        have hb4 : bl < w4.heap.size := Nat.lt_of_lt_of_le hbl x4.size
        obtain ⟨a40, a41, a42, a43, a44, a45⟩ := id at4
        simp only at a40 a41 a42 a43 a44 a45
        go_wp2_with fail
        refine (Num_any _ l _ _ _ (by exact h.ext x4) hji (by unfold I64; omega) HZ.out).mono ?_
        rw [HN.out]
        rintro e w5 ⟨rfl, x5'⟩
        have x5 := x4.trans x5'
        have at5 := at0.ext x5 hbl
        have hb5 : bl < w5.heap.size := Nat.lt_of_lt_of_le hbl x5.size
        obtain ⟨a50, a51, a52, a53, a54, a55⟩ := id at5
        simp only at a50 a51 a52 a53 a54 a55
        go_wp2_with fail
        refine (ClassName_any _ l _ _ (by exact h.ext x5) hji HZ.out HX.out).mono ?_
        rw [HCl.out]
        rintro e w6 ⟨rfl, x6'⟩
        have x6 := x5.trans x6'
        have at6 := at0.ext x6 hbl
        have hb6 : bl < w6.heap.size := Nat.lt_of_lt_of_le hbl x6.size
        obtain ⟨a60, a61, a62, a63, a64, a65⟩ := id at6
        simp only at a60 a61 a62 a63 a64 a65
        go_wp2_with fail
        refine (Ref_any _ l _ _ _ (by exact h.ext x6) hji (by unfold I64; omega) HZ.out HX.out).mono ?_
        rw [HR.out]
        rintro e w7 ⟨rfl, x7'⟩
        have x7 := x6.trans x7'
        have at7 := at0.ext x7 hbl
        have hb7 : bl < w7.heap.size := Nat.lt_of_lt_of_le hbl x7.size
        obtain ⟨a70, a71, a72, a73, a74, a75⟩ := id at7
        simp only at a70 a71 a72 a73 a74 a75
        go_wp2
        go_ret
        exact ⟨rfl, x7⟩
      · have HT := Lib.hid (tText_no (l := l) (j := j) (.inl (by rw [hy]; simp)))
        have HN := Lib.hid (tNum_yes (l := l) (j := j) (k := 3) (by simp) (by omega) hjl (by rw [hy]))
        have HCl := Lib.hid (tClass_no (l := l) (j := j) (.inl (by rw [hy]; simp)))
        have HR := Lib.hid (tRef_no (l := l) (j := j) (k := 3) (.inl (by simp)))
        rw [hy] at at0 oky; rw [hy] at HN
        clear hy hm ha oky
        subst hvv
        go_enter Tryd.func8, Tryd.ntmps8
        go_wp2_with fail
        refine (works_any _ hT).mono ?_
        rintro e w1 ⟨rfl, x1⟩
        go_wp2_with fail
        refine (Check_any _ l _ (by exact h.ext x1) (hT.ext x1) HX.out).mono ?_
        rw [HC.out]
        rintro e w2 ⟨rfl, x2'⟩
        have x2 := x1.trans x2'
        go_wp2_with fail
        refine (bring_any i n _ hi.1 hi.2 (by omega) (by omega)).mono ?_
        rw [HJ.out]
        rintro e w3 ⟨rfl, rfl⟩
        go_wp2_with fail
        refine (Text_any _ l _ _ (by exact h.ext x2) hji HZ.out HX.out).mono ?_
        rw [HT.out]
        rintro e w4 ⟨rfl, x4'⟩
        have x4 := x2.trans x4'
        have at4 := at0.ext x4 hbl
        have hb4 : bl < w4.heap.size := Nat.lt_of_lt_of_le hbl x4.size
        obtain ⟨a40, a41, a42, a43, a44, a45⟩ := id at4
        simp only at a40 a41 a42 a43 a44 a45
        go_wp2_with fail
        refine (Num_any _ l _ _ _ (by exact h.ext x4) hji (by unfold I64; omega) HZ.out).mono ?_
        rw [HN.out]
        rintro e w5 ⟨rfl, x5'⟩
        have x5 := x4.trans x5'
        have at5 := at0.ext x5 hbl
        have hb5 : bl < w5.heap.size := Nat.lt_of_lt_of_le hbl x5.size
        obtain ⟨a50, a51, a52, a53, a54, a55⟩ := id at5
        simp only at a50 a51 a52 a53 a54 a55
        go_wp2_with fail
        refine (ClassName_any _ l _ _ (by exact h.ext x5) hji HZ.out HX.out).mono ?_
        rw [HCl.out]
        rintro e w6 ⟨rfl, x6'⟩
        have x6 := x5.trans x6'
        have at6 := at0.ext x6 hbl
        have hb6 : bl < w6.heap.size := Nat.lt_of_lt_of_le hbl x6.size
        obtain ⟨a60, a61, a62, a63, a64, a65⟩ := id at6
        simp only at a60 a61 a62 a63 a64 a65
        go_wp2_with fail
        refine (Ref_any _ l _ _ _ (by exact h.ext x6) hji (by unfold I64; omega) HZ.out HX.out).mono ?_
        rw [HR.out]
        rintro e w7 ⟨rfl, x7'⟩
        have x7 := x6.trans x7'
        have at7 := at0.ext x7 hbl
        have hb7 : bl < w7.heap.size := Nat.lt_of_lt_of_le hbl x7.size
        obtain ⟨a70, a71, a72, a73, a74, a75⟩ := id at7
        simp only at a70 a71 a72 a73 a74 a75
        go_wp2
        go_ret
        exact ⟨rfl, x7⟩
      · have HT := Lib.hid (tText_no (l := l) (j := j) (.inl (by rw [hy]; simp)))
        have HN := Lib.hid (tNum_no (l := l) (j := j) (k := 4) (.inl (by simp)))
        have hcl4 : (tClass l j).2 = 0 := tClass_at ha hll (isK_of (by omega) hjl (by rw [hy]))
        obtain ⟨⟨p1, p2⟩, hp⟩ : ∃ p, tClass l j = p := ⟨_, rfl⟩
        rw [hp] at hcl4
        simp only at hcl4
        subst hcl4
        have HCl := Lib.hid hp
        have HR := Lib.hid (tRef_no (l := l) (j := j) (k := 4) (.inl (by simp)))
        rw [hy] at at0 oky
        clear hp hy hm ha oky
        subst hvv
        go_enter Tryd.func8, Tryd.ntmps8
        go_wp2_with fail
        refine (works_any _ hT).mono ?_
        rintro e w1 ⟨rfl, x1⟩
        go_wp2_with fail
        refine (Check_any _ l _ (by exact h.ext x1) (hT.ext x1) HX.out).mono ?_
        rw [HC.out]
        rintro e w2 ⟨rfl, x2'⟩
        have x2 := x1.trans x2'
        go_wp2_with fail
        refine (bring_any i n _ hi.1 hi.2 (by omega) (by omega)).mono ?_
        rw [HJ.out]
        rintro e w3 ⟨rfl, rfl⟩
        go_wp2_with fail
        refine (Text_any _ l _ _ (by exact h.ext x2) hji HZ.out HX.out).mono ?_
        rw [HT.out]
        rintro e w4 ⟨rfl, x4'⟩
        have x4 := x2.trans x4'
        have at4 := at0.ext x4 hbl
        have hb4 : bl < w4.heap.size := Nat.lt_of_lt_of_le hbl x4.size
        obtain ⟨a40, a41, a42, a43, a44, a45⟩ := id at4
        simp only at a40 a41 a42 a43 a44 a45
        go_wp2_with fail
        refine (Num_any _ l _ _ _ (by exact h.ext x4) hji (by unfold I64; omega) HZ.out).mono ?_
        rw [HN.out]
        rintro e w5 ⟨rfl, x5'⟩
        have x5 := x4.trans x5'
        have at5 := at0.ext x5 hbl
        have hb5 : bl < w5.heap.size := Nat.lt_of_lt_of_le hbl x5.size
        obtain ⟨a50, a51, a52, a53, a54, a55⟩ := id at5
        simp only at a50 a51 a52 a53 a54 a55
        go_wp2_with fail
        refine (ClassName_any _ l _ _ (by exact h.ext x5) hji HZ.out HX.out).mono ?_
        rw [HCl.out]
        rintro e w6 ⟨rfl, x6'⟩
        have x6 := x5.trans x6'
        have at6 := at0.ext x6 hbl
        have hb6 : bl < w6.heap.size := Nat.lt_of_lt_of_le hbl x6.size
        obtain ⟨a60, a61, a62, a63, a64, a65⟩ := id at6
        simp only at a60 a61 a62 a63 a64 a65
        go_wp2_with fail
        refine (Ref_any _ l _ _ _ (by exact h.ext x6) hji (by unfold I64; omega) HZ.out HX.out).mono ?_
        rw [HR.out]
        rintro e w7 ⟨rfl, x7'⟩
        have x7 := x6.trans x7'
        have at7 := at0.ext x7 hbl
        have hb7 : bl < w7.heap.size := Nat.lt_of_lt_of_le hbl x7.size
        obtain ⟨a70, a71, a72, a73, a74, a75⟩ := id at7
        simp only at a70 a71 a72 a73 a74 a75
        go_wp2
        go_ret
        exact ⟨rfl, x7⟩
      · have HT := Lib.hid (tText_no (l := l) (j := j) (.inl (by rw [hy]; simp)))
        have HN := Lib.hid (tNum_no (l := l) (j := j) (k := 5) (.inl (by simp)))
        have HCl := Lib.hid (tClass_no (l := l) (j := j) (.inl (by rw [hy]; simp)))
        have hr := (tRef_yes (l := l) (j := j) (k := 5) ha hll (by simp) (by omega) hjl (by rw [hy])).1
        rw [hy] at at0 oky hr
        obtain ⟨⟨p1, p2⟩, hp⟩ : ∃ p, p = tClass l a := ⟨_, rfl⟩
        obtain ⟨⟨q1, q2⟩, hq⟩ : ∃ p, p = tText l b := ⟨_, rfl⟩
        obtain ⟨⟨s1, s2⟩, hs⟩ : ∃ p, p = tText l c := ⟨_, rfl⟩
        simp only at hr
        rw [← hp, ← hq, ← hs] at hr
        have HR := Lib.hid hr
        have HP := Lib.hid hp
        have HQ := Lib.hid hq
        have HS := Lib.hid hs
        obtain ⟨-, -, ok_a, ok_b, ok_c⟩ := oky
        simp only at ok_a ok_b ok_c
        clear hr hp hq hs hy hm ha
        subst hvv
        go_enter Tryd.func8, Tryd.ntmps8
        go_wp2_with fail
        refine (works_any _ hT).mono ?_
        rintro e w1 ⟨rfl, x1⟩
        go_wp2_with fail
        refine (Check_any _ l _ (by exact h.ext x1) (hT.ext x1) HX.out).mono ?_
        rw [HC.out]
        rintro e w2 ⟨rfl, x2'⟩
        have x2 := x1.trans x2'
        go_wp2_with fail
        refine (bring_any i n _ hi.1 hi.2 (by omega) (by omega)).mono ?_
        rw [HJ.out]
        rintro e w3 ⟨rfl, rfl⟩
        go_wp2_with fail
        refine (Text_any _ l _ _ (by exact h.ext x2) hji HZ.out HX.out).mono ?_
        rw [HT.out]
        rintro e w4 ⟨rfl, x4'⟩
        have x4 := x2.trans x4'
        have at4 := at0.ext x4 hbl
        have hb4 : bl < w4.heap.size := Nat.lt_of_lt_of_le hbl x4.size
        obtain ⟨a40, a41, a42, a43, a44, a45⟩ := id at4
        simp only at a40 a41 a42 a43 a44 a45
        go_wp2_with fail
        refine (Num_any _ l _ _ _ (by exact h.ext x4) hji (by unfold I64; omega) HZ.out).mono ?_
        rw [HN.out]
        rintro e w5 ⟨rfl, x5'⟩
        have x5 := x4.trans x5'
        have at5 := at0.ext x5 hbl
        have hb5 : bl < w5.heap.size := Nat.lt_of_lt_of_le hbl x5.size
        obtain ⟨a50, a51, a52, a53, a54, a55⟩ := id at5
        simp only at a50 a51 a52 a53 a54 a55
        go_wp2_with fail
        refine (ClassName_any _ l _ _ (by exact h.ext x5) hji HZ.out HX.out).mono ?_
        rw [HCl.out]
        rintro e w6 ⟨rfl, x6'⟩
        have x6 := x5.trans x6'
        have at6 := at0.ext x6 hbl
        have hb6 : bl < w6.heap.size := Nat.lt_of_lt_of_le hbl x6.size
        obtain ⟨a60, a61, a62, a63, a64, a65⟩ := id at6
        simp only at a60 a61 a62 a63 a64 a65
        go_wp2_with fail
        refine (Ref_any _ l _ _ _ (by exact h.ext x6) hji (by unfold I64; omega) HZ.out HX.out).mono ?_
        rw [HR.out]
        rintro e w7 ⟨rfl, x7'⟩
        have x7 := x6.trans x7'
        have at7 := at0.ext x7 hbl
        have hb7 : bl < w7.heap.size := Nat.lt_of_lt_of_le hbl x7.size
        obtain ⟨a70, a71, a72, a73, a74, a75⟩ := id at7
        simp only at a70 a71 a72 a73 a74 a75
        go_wp2_with fail
        refine (ClassName_any _ l _ _ (by exact h.ext x7) ok_a HZ.out HX.out).mono ?_
        rw [← HP.out]
        rintro e w8 ⟨rfl, x8'⟩
        have x8 := x7.trans x8'
        have at8 := at0.ext x8 hbl
        have hb8 : bl < w8.heap.size := Nat.lt_of_lt_of_le hbl x8.size
        obtain ⟨a80, a81, a82, a83, a84, a85⟩ := id at8
        simp only at a80 a81 a82 a83 a84 a85
        go_wp2_with fail
        refine (Text_any _ l _ _ (by exact h.ext x8) ok_b HZ.out HX.out).mono ?_
        rw [← HQ.out]
        rintro e w9 ⟨rfl, x9'⟩
        have x9 := x8.trans x9'
        have at9 := at0.ext x9 hbl
        have hb9 : bl < w9.heap.size := Nat.lt_of_lt_of_le hbl x9.size
        obtain ⟨a90, a91, a92, a93, a94, a95⟩ := id at9
        simp only at a90 a91 a92 a93 a94 a95
        go_wp2_with fail
        refine (Text_any _ l _ _ (by exact h.ext x9) ok_c HZ.out HX.out).mono ?_
        rw [← HS.out]
        rintro e w10 ⟨rfl, x10'⟩
        have x10 := x9.trans x10'
        have at10 := at0.ext x10 hbl
        have hb10 : bl < w10.heap.size := Nat.lt_of_lt_of_le hbl x10.size
        obtain ⟨a100, a101, a102, a103, a104, a105⟩ := id at10
        simp only at a100 a101 a102 a103 a104 a105
        go_wp2
        go_ret
        exact ⟨rfl, x10⟩
      · have HT := Lib.hid (tText_no (l := l) (j := j) (.inl (by rw [hy]; simp)))
        have HN := Lib.hid (tNum_no (l := l) (j := j) (k := 6) (.inl (by simp)))
        have HCl := Lib.hid (tClass_no (l := l) (j := j) (.inl (by rw [hy]; simp)))
        have hr := (tRef_yes (l := l) (j := j) (k := 6) ha hll (by simp) (by omega) hjl (by rw [hy])).1
        rw [hy] at at0 oky hr
        obtain ⟨⟨p1, p2⟩, hp⟩ : ∃ p, p = tClass l a := ⟨_, rfl⟩
        obtain ⟨⟨q1, q2⟩, hq⟩ : ∃ p, p = tText l b := ⟨_, rfl⟩
        obtain ⟨⟨s1, s2⟩, hs⟩ : ∃ p, p = tText l c := ⟨_, rfl⟩
        simp only at hr
        rw [← hp, ← hq, ← hs] at hr
        have HR := Lib.hid hr
        have HP := Lib.hid hp
        have HQ := Lib.hid hq
        have HS := Lib.hid hs
        obtain ⟨-, -, ok_a, ok_b, ok_c⟩ := oky
        simp only at ok_a ok_b ok_c
        clear hr hp hq hs hy hm ha
        subst hvv
        go_enter Tryd.func8, Tryd.ntmps8
        go_wp2_with fail
        refine (works_any _ hT).mono ?_
        rintro e w1 ⟨rfl, x1⟩
        go_wp2_with fail
        refine (Check_any _ l _ (by exact h.ext x1) (hT.ext x1) HX.out).mono ?_
        rw [HC.out]
        rintro e w2 ⟨rfl, x2'⟩
        have x2 := x1.trans x2'
        go_wp2_with fail
        refine (bring_any i n _ hi.1 hi.2 (by omega) (by omega)).mono ?_
        rw [HJ.out]
        rintro e w3 ⟨rfl, rfl⟩
        go_wp2_with fail
        refine (Text_any _ l _ _ (by exact h.ext x2) hji HZ.out HX.out).mono ?_
        rw [HT.out]
        rintro e w4 ⟨rfl, x4'⟩
        have x4 := x2.trans x4'
        have at4 := at0.ext x4 hbl
        have hb4 : bl < w4.heap.size := Nat.lt_of_lt_of_le hbl x4.size
        obtain ⟨a40, a41, a42, a43, a44, a45⟩ := id at4
        simp only at a40 a41 a42 a43 a44 a45
        go_wp2_with fail
        refine (Num_any _ l _ _ _ (by exact h.ext x4) hji (by unfold I64; omega) HZ.out).mono ?_
        rw [HN.out]
        rintro e w5 ⟨rfl, x5'⟩
        have x5 := x4.trans x5'
        have at5 := at0.ext x5 hbl
        have hb5 : bl < w5.heap.size := Nat.lt_of_lt_of_le hbl x5.size
        obtain ⟨a50, a51, a52, a53, a54, a55⟩ := id at5
        simp only at a50 a51 a52 a53 a54 a55
        go_wp2_with fail
        refine (ClassName_any _ l _ _ (by exact h.ext x5) hji HZ.out HX.out).mono ?_
        rw [HCl.out]
        rintro e w6 ⟨rfl, x6'⟩
        have x6 := x5.trans x6'
        have at6 := at0.ext x6 hbl
        have hb6 : bl < w6.heap.size := Nat.lt_of_lt_of_le hbl x6.size
        obtain ⟨a60, a61, a62, a63, a64, a65⟩ := id at6
        simp only at a60 a61 a62 a63 a64 a65
        go_wp2_with fail
        refine (Ref_any _ l _ _ _ (by exact h.ext x6) hji (by unfold I64; omega) HZ.out HX.out).mono ?_
        rw [HR.out]
        rintro e w7 ⟨rfl, x7'⟩
        have x7 := x6.trans x7'
        have at7 := at0.ext x7 hbl
        have hb7 : bl < w7.heap.size := Nat.lt_of_lt_of_le hbl x7.size
        obtain ⟨a70, a71, a72, a73, a74, a75⟩ := id at7
        simp only at a70 a71 a72 a73 a74 a75
        go_wp2_with fail
        refine (ClassName_any _ l _ _ (by exact h.ext x7) ok_a HZ.out HX.out).mono ?_
        rw [← HP.out]
        rintro e w8 ⟨rfl, x8'⟩
        have x8 := x7.trans x8'
        have at8 := at0.ext x8 hbl
        have hb8 : bl < w8.heap.size := Nat.lt_of_lt_of_le hbl x8.size
        obtain ⟨a80, a81, a82, a83, a84, a85⟩ := id at8
        simp only at a80 a81 a82 a83 a84 a85
        go_wp2_with fail
        refine (Text_any _ l _ _ (by exact h.ext x8) ok_b HZ.out HX.out).mono ?_
        rw [← HQ.out]
        rintro e w9 ⟨rfl, x9'⟩
        have x9 := x8.trans x9'
        have at9 := at0.ext x9 hbl
        have hb9 : bl < w9.heap.size := Nat.lt_of_lt_of_le hbl x9.size
        obtain ⟨a90, a91, a92, a93, a94, a95⟩ := id at9
        simp only at a90 a91 a92 a93 a94 a95
        go_wp2_with fail
        refine (Text_any _ l _ _ (by exact h.ext x9) ok_c HZ.out HX.out).mono ?_
        rw [← HS.out]
        rintro e w10 ⟨rfl, x10'⟩
        have x10 := x9.trans x10'
        have at10 := at0.ext x10 hbl
        have hb10 : bl < w10.heap.size := Nat.lt_of_lt_of_le hbl x10.size
        obtain ⟨a100, a101, a102, a103, a104, a105⟩ := id at10
        simp only at a100 a101 a102 a103 a104 a105
        go_wp2
        go_ret
        exact ⟨rfl, x10⟩
  · have HCB := Lib.hid (show ((checkC l) != 0) = true by simpa using hc)
    have hcb := HCB.out
    clear hc
    go_enter Tryd.func8, Tryd.ntmps8
    go_wp2_with fail
    refine (works_any _ hT).mono ?_
    rintro e w1 ⟨rfl, x1⟩
    go_wp2_with fail
    refine (Check_any v l _ (by exact h.ext x1) (hT.ext x1) HX.out).mono ?_
    rintro e w2 ⟨rfl, x2'⟩
    go_wp2
    go_ret
    exact ⟨rfl, x1.trans x2'⟩

theorem poolOne_fits (os : Os) {H : Type} (enc : TypeId × Value → H) :
    (OpenSpec.ofChange Rows.poolOneSpec).preRow enc Tryd.prog Tryd.f8 Rows.poolOneRow.domain false Rows.poolOneRow.laid ((laidWorld os).forCall (fun _ _ => 0) ⟨#[], #[.slice none 0 0, .int .i64 0], []⟩).memory #[.slice none 0 0, .int .i64 0] := by
  have hw : (DataW.whole enc Tryd.prog ((laidWorld os).forCall (fun _ _ => 0) ⟨#[], #[.slice none 0 0, .int .i64 0], []⟩).memory Tryd.f8.params.toList Rows.poolOneSpec.vars false (#[.slice none 0 0, .int .i64 0] : Array Value).toList 8).map (fun x => (x.1, x.2.1)) = some ([.nil, .lit (.int .i64 0)], []) := by kernel_rfl
  obtain ⟨⟨x1, x2, x3⟩, hx, hx1⟩ := Option.map_eq_some_iff.1 hw
  simp only [Prod.mk.injEq] at hx1
  obtain ⟨rfl, rfl⟩ := hx1
  exact OpenSpec.preRow_of_cond 8 hx (by kernel_rfl) (fun k hk => by cases hk) (by kernel_rfl) (laid_met os _)

set_option maxRecDepth 100000 in
set_option maxHeartbeats 2000000 in
theorem poolOne_lifted (os : Os) (started : os.Started) (H : Type) (enc : TypeId × Value → H) (F : Stop.Interp) :
    ReturnsInHanded {} Tryd.checked os 8 .any ((OpenSpec.ofChange Rows.poolOneSpec).preRow enc Tryd.prog Tryd.f8 Rows.poolOneRow.domain false Rows.poolOneRow.laid) (((OpenSpec.ofChange Rows.poolOneSpec).at F).post enc Tryd.prog Tryd.f8 false true false false) := by
  refine returnsInHanded_of_row (C := Tryd.checked) (s := (OpenSpec.ofChange Rows.poolOneSpec)) own started (by kernel_rfl) Tryd.func8
    (witness_row_atRef (enc := enc) (C := Tryd.checked) false (laidWorld os) #[.slice none 0 0, .int .i64 0] rfl (by kernel_rfl) (by kernel_rfl) (by kernel_rfl) (poolOne_fits os enc)) ?_
  intro W base args ds gs before hval0 hW _ hcond hsz0 hL _ _
  have hT : Tabs W := tabs_of hL
  have hval : ∀ (j : Nat) t v, Tryd.f8.params[j]? = some t → args[j]? = some v → Value.okWide Tryd.prog W .any base t v := hval0
  have hsz : (DataW.weightsEach Tryd.prog (Tryd.f8.params.toList ++ Rows.poolOneSpec.plain.varTypes Tryd.prog) (ds ++ gs)).all (· ≤ reachBytes) = true := hsz0
  have hW' := hW
  obtain ⟨p, q, hA0, hV, rfl, hfz, hnd⟩ := hW
  have hA : DataW.TrodAll enc Tryd.prog W 0 (fun _ => true) true Tryd.f8.params.toList args.toList ds p := hA0
  rw [Tryd.params8] at hA hval hsz
  obtain ⟨v0, vs0, d0, ds0, p0, q0, hargs, rfl, rfl, h0, r0⟩ := trodAll_cons hA
  obtain ⟨v1, vs1, d1, ds1, p1, q1, rfl, rfl, rfl, h1, r1⟩ := trodAll_cons r0
  obtain ⟨rfl, rfl, rfl⟩ := trodAll_nil r1
  obtain rfl : args = #[v0, v1] := by cases args; simp_all
  obtain ⟨rfl, rfl⟩ := trodVars_none hV
  obtain ⟨a0, len0, cap0, rfl⟩ := okWide_slice Tryd.underlying24 (hval 0 24 v0 rfl rfl)
  have k0 := h0
  have lt0 : ∀ x ∈ p0, x.block < W.heap.size := by obtain ⟨m, hm⟩ := k0; exact DataW.trod_lt m _ _ _ hm
  obtain ⟨l0, w0, z0⟩ : ∃ l, RowC W (.slice a0 len0 cap0) l ∧ (l.length * 56 ≤ 140737488351232 ∧ Texts l) := by
    obtain ⟨fuel, hf⟩ := h0
    obtain ⟨A, n, c, l, sp, hcs, hln, hrow, hmx, hd⟩ := open_consts hf
    simp [Value.cells] at hcs
    obtain ⟨rfl, rfl, rfl⟩ := hcs
    refine ⟨l, hrow, ?_⟩
    rcases hd with ⟨rfl, hd⟩ | hd
    · exact ⟨by simp, fun y hy => by cases hy⟩
    · have hd : d0 = _ := hd
      exact consts_weights hsz (j := 0) rfl (by rw [← hd]; rfl)
  obtain ⟨a1, rfl, rfl, rfl, w1⟩ := open_int Tryd.underlying3 (hval 1 3 v1 rfl rfl) h1
  have z1 := bounds_i64 w1
  clear hA0 hval0 hsz0 hcond
  refine (poolOne_walk W hT (.slice a0 len0 cap0) l0 w0 z0 a1 z1).mono fun e W' ⟨he, bel⟩ => ?_
  subst he
  exact ⟨_, rfl, _, _, _, [], _, [], hW', trodAll_mk1 (shut_bool Tryd.underlying4 _), (trodAll_cons_mk (Below.trod laidOut (by kernel_rfl) (of_decide_eq_true (by kernel_rfl)) k0 bel lt0) (trodAll_cons_mk (shut_int Tryd.underlying3 w1) trodAll_mk0)), rfl, bel.frame _, fun h => by cases h⟩

theorem poolOne_over : Rows.PoolOneSaid :=
  OpenClaim.holds_of_cond 8 Tryd.f8 rfl rfl rfl rfl rfl rfl rfl ⟨rfl, rfl, rfl, rfl, rfl⟩ rfl rfl rfl rfl rfl (by kernel_rfl) Tryd.func8 (by kernel_rfl)
    (of_decide_eq_true (by kernel_rfl)) (by unfold Func.isWrapper; first | (rw [if_pos (by decide +kernel)]; kernel_rfl) | (rw [if_neg (by decide +kernel)]; exact ⟨rfl, rfl⟩))
    (fun os started H enc _ F => by rw [OpenClaim.pre_eq_preRow]; exact poolOne_lifted os started H enc F)
theorem poolOne_plain (f : FuncId) (fn : Func) (hf : Tryd.pinned.checked.prog.funcNamed "warpbeam/warpbeamlaw04.PoolOne" = some f) (hfn : Tryd.pinned.checked.prog.funcs[f]? = some fn) :
    false = Tryd.pinned.checked.prog.looks [] ∧ ∀ (j : Nat) t, fn.params[j]? = some t → Tryd.pinned.checked.prog.wantsStandIn t = false := by
  obtain rfl : f = 8 := Option.some.inj ((show Tryd.prog.funcNamed "warpbeam/warpbeamlaw04.PoolOne" = some 8 by kernel_rfl).symm.trans hf) |>.symm
  obtain rfl : fn = Tryd.f8 := (Option.some.inj (Tryd.func8.symm.trans hfn)).symm
  refine ⟨by kernel_rfl, fun j t ht => ?_⟩
  rw [Tryd.params8] at ht
  have hm := Array.mem_of_getElem? ht
  simp only [List.mem_toArray, List.mem_cons, List.not_mem_nil, or_false] at hm
  rcases hm with rfl | rfl
  · exact (show Tryd.prog.wantsStandIn 24 = false by kernel_rfl)
  · exact (show Tryd.prog.wantsStandIn 3 = false by kernel_rfl)

/-- The statement. -/
theorem poolOne_proved : Rows.PoolOneCardSaid :=
  Claim7.holds_tied_plain_at .later [] _ _ _ _ poolOne_over (fun _ h => by cases h) (by kernel_rfl) (fun _ h => by cases h) poolOne_row_tie rfl ⟨rfl, rfl⟩ (by kernel_rfl) rfl poolOne_plain (by kernel_rfl)
#print axioms poolOne_proved
end Go.Proofs.YtecgldkhjgcffaaDoor
