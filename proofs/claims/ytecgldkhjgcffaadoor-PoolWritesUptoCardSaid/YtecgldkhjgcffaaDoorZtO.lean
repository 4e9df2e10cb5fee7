/- Several texts of this proof, one behind the other. -/
import Derived.Test.YtecgldkhjgcffaaDoorZtM
import Derived.Test.YtecgldkhjgcffaaDoorZtN
import Derived.Test.YtecgldkhjgcffaaDoorZtH
import Derived.Test.YtecgldkhjgcffaaDoorZtK
import Derived.RegionCalls
import Derived.Deep.RegionWith
import Derived.Deep.RegionHeld3
/- The program's Check, walked. -/
namespace Go.Proofs.YtecgldkhjgcffaaDoor
open Go.RowKit
set_option linter.unusedVariables false

/-- Whether the fields that its kind names may be. -/
def fitsC (l : List Cst) (x : Cst) : Bool :=
  if x.k = 1 then Lib.validD x.t.data.toList else if x.k = 2 then decide (-2147483648 ≤ x.n) && decide (x.n ≤ 2147483647) else if x.k = 3 then true
  else if x.k = 4 then isK l x.a 1 else if x.k = 5 ∨ x.k = 6 then isK l x.a 4 && (isK l x.b 1 && isK l x.c 1) else false
theorem toList_nil {t : ByteArray} : t.toList = [] ↔ t = .empty :=
  ⟨fun h => toList_inj (by rw [h, ByteArray.toList_eq]; rfl), fun h => by rw [h, ByteArray.toList_eq]; rfl⟩
theorem may_named (l : List Cst) (x : Cst) : mayC l x = true ↔ x = namedC x ∧ fitsC l x = true := by
  obtain ⟨k, t, n, a, b, c⟩ := x
  unfold mayC
  rw [decide_eq_true_iff]
  unfold MayC namedC fitsC
  simp only [toList_nil]
  by_cases k1 : k = 1
  · subst k1; simp <;> try (constructor <;> (intro h; simp_all))
  · by_cases k2 : k = 2
    · subst k2; simp <;> try (constructor <;> (intro h; simp_all <;> omega))
    · by_cases k3 : k = 3
      · subst k3; simp <;> try (constructor <;> (intro h; simp_all))
      · by_cases k4 : k = 4
        · subst k4; simp <;> try (constructor <;> (intro h; simp_all))
        · by_cases k5 : k = 5
          · subst k5; simp <;> try (constructor <;> (intro h; simp_all))
          · by_cases k6 : k = 6
            · subst k6; simp <;> try (constructor <;> (intro h; simp_all))
            · simp [k1, k2, k3, k4, k5, k6]

set_option maxHeartbeats 2000000 in
theorem fits_any (v : Value) (l : List Cst) (x : Cst) (w : World) (h : RowC w v l) (hx : x.ok) (hz : (gc l 0).k = 0) (hT : Tabs w) (hs : x.t.size ≤ 140737488351232) :
    Calls Tryd.prog 42 #[v, .agg x.vals] w (RetB w (fitsC l x)) := by
  have hen : (encZ x.t.data.toList).length ≤ 9223372036854775807 := by
    have h1 := enc_len x.t.data.toList
    have h2 : x.t.data.toList.length = x.t.size := (Lib.size_eq _).symm
    omega
  have hok := hx
  obtain ⟨k, t, n, a, b, c⟩ := x
  obtain ⟨ok_k, ok_n, ok_a, ok_b, ok_c⟩ := hx
  simp only at ok_k ok_n ok_a ok_b ok_c hs hen
  have hR : RowC (w.alloc (.cells (Cst.vals ⟨k, t, n, a, b, c⟩) 44)) v l := h.ext ((Ext.refl _).alloc _)
  have HR := Lib.hid hR
  have HT := Lib.hid (hT.ext ((Ext.refl w).alloc (.cells (Cst.vals ⟨k, t, n, a, b, c⟩) 44)))
  clear hR hT
  by_cases k1 : k = 1
  · subst k1
    rw [show fitsC l ⟨1, t, n, a, b, c⟩ = Lib.validD t.data.toList by simp [fitsC]]
    obtain ⟨e1, he1⟩ : ∃ e1, Lib.validD t.data.toList = e1 := ⟨_, rfl⟩
    rw [he1]
    have H1 := Lib.hid he1
    clear he1
    unfold Cst.vals at HR HT ⊢
    go_enter Tryd.func42, Tryd.ntmps42
    go_wp2_with fail
    refine (Len_any t _ HT.out (by omega) hen).mono ?_
    rintro e w1 ⟨u1, rfl, ha, x1⟩
    have y1 := ((Ext.refl w).alloc _).trans x1
    rcases ha with ⟨hv, rfl⟩ | ⟨hv, rfl⟩
    · rw [H1.out] at hv
      subst hv
      clear x1
      go_wp2
      go_ret
      exact ⟨rfl, y1⟩
    · rw [H1.out] at hv
      subst hv
      clear x1
      go_wp2
      go_ret
      exact ⟨rfl, y1⟩
  by_cases k2 : k = 2
  · subst k2
    rw [show fitsC l ⟨2, t, n, a, b, c⟩ = (decide (-2147483648 ≤ n) && decide (n ≤ 2147483647)) by simp [fitsC]]
    unfold Cst.vals at HR HT ⊢
    by_cases h1 : -2147483648 ≤ n
    · rw [decide_eq_true h1]
      go_enter Tryd.func42, Tryd.ntmps42
      go_wp2
      go_ret
      exact ⟨ret_b (by simp), (Ext.refl w).alloc _⟩
    · rw [decide_eq_false h1]
      go_enter Tryd.func42, Tryd.ntmps42
      go_wp2
      go_ret
      exact ⟨ret_b (by simp), (Ext.refl w).alloc _⟩
  by_cases k3 : k = 3
  · subst k3
    rw [show fitsC l ⟨3, t, n, a, b, c⟩ = true by simp [fitsC]]
    unfold Cst.vals at HR HT ⊢
    go_enter Tryd.func42, Tryd.ntmps42
    go_wp2
    go_ret
    exact ⟨rfl, (Ext.refl w).alloc _⟩
  by_cases k4 : k = 4
  · subst k4
    rw [show fitsC l ⟨4, t, n, a, b, c⟩ = isK l a 1 by simp [fitsC]]
    unfold Cst.vals at HR HT ⊢
    go_enter Tryd.func42, Tryd.ntmps42
    go_wp2_with fail
    refine (is_any _ l _ _ _ HR.out ok_a (by unfold I64; omega) hz (by decide)).mono ?_
    rintro e w1 ⟨rfl, rfl⟩
    go_wp2
    go_ret
    exact ⟨rfl, (Ext.refl w).alloc _⟩
  by_cases k5 : k = 5 ∨ k = 6
  · rw [show fitsC l ⟨k, t, n, a, b, c⟩ = (isK l a 4 && (isK l b 1 && isK l c 1)) by simp [fitsC, k1, k2, k3, k4, k5]]
    obtain ⟨e1, he1⟩ : ∃ e1, isK l a 4 = e1 := ⟨_, rfl⟩
    rw [he1]
    have H1 := Lib.hid he1
    clear he1
    unfold Cst.vals at HR HT ⊢
    rcases k5 with rfl | rfl
    all_goals
      cases e1
      · go_enter Tryd.func42, Tryd.ntmps42
        go_wp2_with fail
        refine (is_any _ l _ _ _ HR.out ok_a (by unfold I64; omega) hz (by decide)).mono ?_
        rw [H1.out]
        rintro e w1 ⟨rfl, rfl⟩
        go_wp2
        go_ret
        exact ⟨rfl, (Ext.refl w).alloc _⟩
      · go_enter Tryd.func42, Tryd.ntmps42
        go_wp2_with fail
        refine (is_any _ l _ _ _ HR.out ok_a (by unfold I64; omega) hz (by decide)).mono ?_
        rw [H1.out]
        rintro e w1 ⟨rfl, rfl⟩
        go_wp2_with fail
        refine (namesTexts_any _ l ⟨_, t, n, a, b, c⟩ _ HR.out hok hz).mono ?_
        rintro e w1 ⟨rfl, x1⟩
        go_wp2
        go_ret
        exact ⟨rfl, ((Ext.refl w).alloc _).trans x1⟩
  rw [show fitsC l ⟨k, t, n, a, b, c⟩ = false by simp [fitsC, k1, k2, k3, k4, k5]]
  have n1 : (k == 1) = false := by simpa using k1
  have n2 : (k == 2) = false := by simpa using k2
  have n3 : (k == 3) = false := by simpa using k3
  have n4 : (k == 4) = false := by simpa using k4
  have n5 : (k == 5) = false := by simpa using (fun h => k5 (.inl h))
  have n6 : (k == 6) = false := by simpa using (fun h => k5 (.inr h))
  clear k5
  unfold Cst.vals at HR HT ⊢
  go_enter Tryd.func42, Tryd.ntmps42
  go_wp2
  go_ret
  exact ⟨rfl, (Ext.refl w).alloc _⟩

/-- All but the first constant of a list, as a slice. -/
theorem tailC {w : World} {v : Value} {l : List Cst} (h : RowC w v l) (h0 : 0 < l.length) :
    ∃ A c, (∀ W, (Instr.sliceAt 24 v (some (.int .i64 1)) none none).run Tryd.prog W = .ok (.slice A (l.length - 1) c) W) ∧ (∀ W, (Instr.slice 24 v (some (.int .i64 1)) none none).run Tryd.prog W = .ok (.slice A (l.length - 1) c) W) ∧ l.length - 1 ≤ c ∧ c ≤ maxLen ∧
      ∀ j, j + 1 < l.length → ∃ b o, A = some ⟨b, o, none⟩ ∧ b < w.heap.size ∧ At6 w b (o + j * 6) (gc l (j + 1)) := by
  obtain ⟨A, c, rfl, h2, h3, h4, h5, h6⟩ := h
  obtain ⟨b, o, rfl, hb, hc⟩ := h6 h0
  obtain ⟨n, hn⟩ : ∃ n, l.length = n := ⟨_, rfl⟩
  rw [hn] at h0 h2 hc ⊢
  have hm : c ≤ maxLen := h3
  unfold maxLen at h3
  by_cases hc1 : c = 1
  · have : n = 1 := by omega
    subst this hc1
    exact ⟨some ⟨b, o, none⟩, 0, fun W => by clear hc; go_simp, fun W => by clear hc; go_simp, by omega, by omega, fun j hj => by omega⟩
  · have k1 : ¬ (n : Int) < 1 := by omega
    refine ⟨some ⟨b, o + 6, none⟩, c - 1, fun W => by clear hc; go_simp, fun W => by clear hc; go_simp, by omega, by omega, fun j hj => ⟨b, o + 6, rfl, hb, ?_⟩⟩
    have := hc (j + 1) hj
    rw [show o + (j + 1) * 6 = o + 6 + j * 6 by omega] at this
    exact this
theorem run_neqC (x y : Cst) (W : World) : (binOp .neq 44 (.agg x.vals) (.agg y.vals)).run Tryd.prog W = .ok (.bool (!eqC x y)) W := run_neq6 x y W

set_option maxRecDepth 100000 in
set_option maxHeartbeats 4000000 in
theorem Check_any (v : Value) (l : List Cst) (w : World) (h : RowC w v l) (hT : Tabs w) (hR : Texts l) :
    Calls Tryd.prog 19 #[v] w fun e w' => e = .returned (.int .i64 (checkC l)) ∧ Ext w w' := by
  have hrow := h
  obtain ⟨A, cp, rfl, h2, h3, h4, h5, h6⟩ := id h
  unfold maxLen at h3
  obtain ⟨n, hn⟩ : ∃ n, n = l.length := ⟨_, rfl⟩
  have HN := Lib.hid hn
  rw [← hn] at hrow h h2 h6 ⊢
  by_cases hbig : 4096 < n
  · have HB := Lib.hid (checkC_big (l := l) (by rw [← hn]; exact hbig))
    clear h6 h5 h4 hn
    go_enter Tryd.func19, Tryd.ntmps19
    go_wp2
    go_ret
    exact ⟨ret_i HB.out.symm, Ext.refl _⟩
  · by_cases h0 : n = 0
    · have e : l = [] := List.eq_nil_of_length_eq_zero (by omega)
      subst e
      subst h0
      clear h6 h5 h4 hn HN
      go_enter Tryd.func19, Tryd.ntmps19
      go_wp2
      go_ret
      exact ⟨ret_i checkC_nil.symm, Ext.refl _⟩
    · obtain ⟨bl, o, rfl, _, hc⟩ := h6 (by omega)
      obtain ⟨a0, a1, a2, a3, a4, a5⟩ := hc 0 (by omega)
      simp only [Nat.zero_mul, Nat.add_zero] at a0 a1 a2 a3 a4 a5
      have hnz : ((n : Int) == 0) = false := by simp; omega
      have hne0 := fun W => run_neqC (gc l 0) c0 W
      unfold Cst.vals at hne0
      by_cases hg : gc l 0 = c0
      · rw [eqC_yes hg, hg] at hne0
        rw [hg] at a0 a1 a2 a3 a4 a5
        simp only [c0] at a0 a1 a2 a3 a4 a5 hne0
        have HG := Lib.hid hg
        have hz : (gc l 0).k = 0 := by rw [hg]; rfl
        have HZ := Lib.hid hz
        obtain ⟨A2, c2, t4, t4', t5, t6, ht⟩ := tailC h (by rw [← hn]; omega)
        rw [← hn] at t4 t4' t5 ht
        unfold maxLen at t6
        obtain ⟨m, hm⟩ : ∃ m, n - 1 = m := ⟨_, rfl⟩
        rw [hm] at t4 t4' t5
        clear hg h4 h6 hc hn hz
        go_enter Tryd.func19, Tryd.ntmps19
        go_wp2
        go_loopw [21] (fun i wr => ∃ k : Nat, i = .int .i64 k ∧ k ≤ m ∧ Ext w wr ∧ Hid (∀ j, 1 ≤ j → j < k + 1 → mayC l (gc l j) = true)) (fun i _ => m - (intOf i).toNat)
        case atStart => exact ⟨0, rfl, by omega, Ext.refl _, fun j h1 h2 => by omega⟩
        case round =>
          clear a0 a1 a2 a3 a4 a5 hne0 t4 t4'
          obtain ⟨k, rfl, hkm, hx, HA⟩ := hrel
          by_cases hlt : k < m
          · obtain ⟨b2, o2, rfl, hb2, hat⟩ := ht k (by omega)
            obtain ⟨a0, a1, a2, a3, a4, a5⟩ := hat.ext hx hb2
            have hok := gc_ok h5 (k + 1)
            have hsz := hR.at_ (k + 1)
            have hmn := may_named l (gc l (k + 1))
            have c1 := fun W => named_any (gc l (k + 1)) W
            have c2 := fun W hW hTW => fits_any (.slice (some ⟨bl, o, none⟩) n cp) l (gc l (k + 1)) W hW hok HZ.out hTW hsz
            have hne := fun W => run_neqC (gc l (k + 1)) (namedC (gc l (k + 1))) W
            obtain ⟨y, hy⟩ : ∃ y, gc l (k + 1) = y := ⟨_, rfl⟩
            rw [hy] at a0 a1 a2 a3 a4 a5 hmn c1 c2 hne
            have HY := Lib.hid hy
            obtain ⟨z, hzz⟩ : ∃ z, namedC y = z := ⟨_, rfl⟩
            obtain ⟨fb, hfb⟩ : ∃ fb, fitsC l y = fb := ⟨_, rfl⟩
            obtain ⟨eb, heb⟩ : ∃ eb, eqC y z = eb := ⟨_, rfl⟩
            rw [hzz] at c1 hne hmn
            rw [hfb] at c2 hmn
            rw [heb] at hne
            have hmy : mayC l y = (eb && fb) := by
              rw [← heb]
              by_cases hyz : y = z
              · rw [eqC_yes hyz, Bool.true_and]
                cases fb
                · cases hq : mayC l y
                  · rfl
                  · exact absurd (hmn.1 hq).2 (by simp)
                · exact hmn.2 ⟨hyz, rfl⟩
              · rw [eqC_no hyz, Bool.false_and]
                cases hq : mayC l y
                · rfl
                · exact absurd (hmn.1 hq).1 hyz
            obtain ⟨kk, t, nn, a, b, c⟩ := y
            obtain ⟨zk, zt, zn, za, zb, zc⟩ := z
            simp only at a0 a1 a2 a3 a4 a5
            have at3 : At0 (wr.alloc (.cells (Cst.vals ⟨kk, t, nn, a, b, c⟩) 44)) wr.heap.size ⟨kk, t, nn, a, b, c⟩ := At0.of (heap_alloc_new _ _)
            have hg3 : wr.heap.size < (wr.alloc (.cells (Cst.vals ⟨kk, t, nn, a, b, c⟩) 44)).heap.size := by simp
            unfold Cst.vals at c1 c2 hne
            have C1 := Lib.hid c1
            have C2 := Lib.hid c2
            have HM := Lib.hid hmy
            obtain ⟨z0, z1, z2, z3, z4, z5⟩ := id at3
            simp only at z0 z1 z2 z3 z4 z5
            unfold Cst.vals at z0 z1 z2 z3 z4 z5
            clear c1 c2 hmn hzz hfb heb hy hat hmy hsz
            cases eb
            · have HC : Hid (checkC l = 40) := checkC_no (by rw [← HN.out]; omega) (fun ha => by
                have := ha.2 (k + 1) (by omega) (by rw [← HN.out]; omega)
                rw [HY.out, HM.out] at this
                cases this)
              go_wp2_with fail
              first
                | (go_region_with (first
                    | (go_at_call 41; ((with_reducible refine (C1.out _).mono ?_); rintro e w4 ⟨rfl, x4'⟩); have x4 : Ext (wr.alloc (.cells (Cst.vals ⟨kk, t, nn, a, b, c⟩) 44)) w4 := ((Ext.refl _).drew).trans x4'; have at4 := at3.ext x4 hg3; obtain ⟨z40, z41, z42, z43, z44, z45⟩ := id at4; simp only at z40 z41 z42 z43 z44 z45)))
                | fail
              all_goals
                go_wp2
                go_ret
                exact ⟨ret_i HC.out.symm, (hx.alloc _).trans x4⟩
            · cases fb
              · have HC : Hid (checkC l = 40) := checkC_no (by rw [← HN.out]; omega) (fun ha => by
                  have := ha.2 (k + 1) (by omega) (by rw [← HN.out]; omega)
                  rw [HY.out, HM.out] at this
                  cases this)
                go_wp2_with fail
                go_region_held3 (fun w' => w'.cell? ⟨wr.heap.size, 0, none⟩ = some (.int .i64 kk) ∧ w'.cell? ⟨wr.heap.size, 1, none⟩ = some (.string t) ∧ w'.cell? ⟨wr.heap.size, 2, none⟩ = some (.int .i64 nn) ∧ w'.cell? ⟨wr.heap.size, 3, none⟩ = some (.int .i64 a) ∧ w'.cell? ⟨wr.heap.size, 4, none⟩ = some (.int .i64 b) ∧ w'.cell? ⟨wr.heap.size, 5, none⟩ = some (.int .i64 c)) (first | go_keep | (refine ⟨?_, ?_, ?_, ?_, ?_, ?_⟩ <;> assumption)) (first
                  | (go_at_call 41; ((with_reducible refine (C1.out _).mono ?_); rintro e w4 ⟨rfl, x4'⟩); have x4 : Ext (wr.alloc (.cells (Cst.vals ⟨kk, t, nn, a, b, c⟩) 44)) w4 := ((Ext.refl _).drew).trans x4'; have at4 := at3.ext x4 hg3; obtain ⟨z40, z41, z42, z43, z44, z45⟩ := id at4; simp only at z40 z41 z42 z43 z44 z45)
                  | (go_at_call 42; ((with_reducible refine (C2.out _ (by exact hrow.ext ((hx.alloc _).trans x4)) (by exact hT.ext ((hx.alloc _).trans x4))).mono ?_); rintro e w6 ⟨rfl, x6'⟩); have x6 := x4.trans x6'; have at6 := at4.ext x6' (Nat.lt_of_lt_of_le hg3 x4.size); obtain ⟨z60, z61, z62, z63, z64, z65⟩ := id at6; simp only at z60 z61 z62 z63 z64 z65))
                all_goals
                  go_wp2
                  go_ret
                  exact ⟨ret_i HC.out.symm, (hx.alloc _).trans x6⟩
              · go_wp2_with fail
                go_region_held3 (fun w' => w'.cell? ⟨wr.heap.size, 0, none⟩ = some (.int .i64 kk) ∧ w'.cell? ⟨wr.heap.size, 1, none⟩ = some (.string t) ∧ w'.cell? ⟨wr.heap.size, 2, none⟩ = some (.int .i64 nn) ∧ w'.cell? ⟨wr.heap.size, 3, none⟩ = some (.int .i64 a) ∧ w'.cell? ⟨wr.heap.size, 4, none⟩ = some (.int .i64 b) ∧ w'.cell? ⟨wr.heap.size, 5, none⟩ = some (.int .i64 c)) (first | go_keep | (refine ⟨?_, ?_, ?_, ?_, ?_, ?_⟩ <;> assumption)) (first
                  | (go_at_call 41; ((with_reducible refine (C1.out _).mono ?_); rintro e w4 ⟨rfl, x4'⟩); have x4 : Ext (wr.alloc (.cells (Cst.vals ⟨kk, t, nn, a, b, c⟩) 44)) w4 := ((Ext.refl _).drew).trans x4'; have at4 := at3.ext x4 hg3; obtain ⟨z40, z41, z42, z43, z44, z45⟩ := id at4; simp only at z40 z41 z42 z43 z44 z45)
                  | (go_at_call 42; ((with_reducible refine (C2.out _ (by exact hrow.ext ((hx.alloc _).trans x4)) (by exact hT.ext ((hx.alloc _).trans x4))).mono ?_); rintro e w6 ⟨rfl, x6'⟩); have x6 := x4.trans x6'; have at6 := at4.ext x6' (Nat.lt_of_lt_of_le hg3 x4.size); obtain ⟨z60, z61, z62, z63, z64, z65⟩ := id at6; simp only at z60 z61 z62 z63 z64 z65))
                all_goals
                  go_wp2
                  go_roundw
                  case rel =>
                    refine ⟨k + 1, by go_num, by omega, (hx.alloc _).trans x6, fun j h1 h2 => ?_⟩
                    by_cases hjk : j = k + 1
                    · rw [hjk, HY.out]; exact HM.out
                    · exact HA.out j h1 (by omega)
                  case measure => simp [intOf]; omega
          · have HC : Hid (checkC l = 0) := checkC_yes (by rw [← HN.out]; omega) (by rw [← HN.out]; omega) ⟨HG.out, fun j h1 h2 => HA.out j h1 (by rw [← HN.out] at h2; omega)⟩
            go_wp2
            go_ret
            exact ⟨ret_i HC.out.symm, hx⟩
      · have HB := Lib.hid (checkC_no (l := l) (by omega) (fun ha => hg ha.1))
        clear h5 h4 hn hc hne0
        go_enter Tryd.func19, Tryd.ntmps19
        go_wp2_with fail
        all_goals first
          | exact (hg (zero_of ‹(gc l 0).k = 0› ‹(gc l 0).t.toList = []› ‹(gc l 0).n = 0› ‹(gc l 0).a = 0› ‹(gc l 0).b = 0› ‹(gc l 0).c = 0›)).elim
          | (go_ret
             exact ⟨ret_i HB.out.symm, Ext.refl _⟩)
end Go.Proofs.YtecgldkhjgcffaaDoor
