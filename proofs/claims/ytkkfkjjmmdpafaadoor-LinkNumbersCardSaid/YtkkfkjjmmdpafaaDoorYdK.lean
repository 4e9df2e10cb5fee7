/- Several texts of this proof, one behind the other. -/
import Derived.Test.YtkkfkjjmmdpafaaDoorYdJ
import Derived.BigQuiet
import Derived.Test.YtkkfkjjmmdpafaaDoorYdH
import Derived.Deep.RegionHeld3
import Derived.Deep.RegionLaw
namespace Go.Proofs.YtkkfkjjmmdpafaaDoor
open Go.RowKit Go.Maps Go.WideMaps
set_option linter.unusedVariables false
section
variable {B s m g n c : Nat} {D : DataW Unit} {N : List Kl} {w : World} {ns : List Nd}
theorem above_pre (hok : (grK N).Ok) {i : Nat} (hi : i < N.length) : ∃ t, (grK N).above i = (grK N).chain i ++ t := (hok.above_wd i hi).pre
set_option maxRecDepth 100000 in
theorem upw_in (h : SetNew B s m g n c D N w ns) (hok : (grK N).Ok) (h72 : n ≤ 72) (i : Nat) (hi : i < n) : Calls Tryd.prog 58 #[.pointer (some ⟨g, i * 11, none⟩)] w fun e w' => ∃ A k, e = .returned (.slice A ((grK N).chain i).length k) ∧ Row w' .i64 (.slice A ((grK N).chain i).length k) (ints ((grK N).chain i)) ∧ Ext w w' := by
  obtain ⟨x, hx, hk, hab, hln⟩ := h.at i hi
  obtain ⟨-, -, -, -, -, -, -, x9, x10⟩ := h.set.get.node i x hx
  have hr : Row w .i64 (.slice x.va.A x.va.n x.va.c) (ints ((grK N).above i)) := by rw [← hab]; exact (h.set.ok x (List.mem_of_getElem? hx)).va.row
  obtain ⟨t, ht⟩ := above_pre hok (i := i) (by rw [h.len.2]; exact hi)
  rw [hln] at x10
  obtain ⟨A, hA⟩ : ∃ A, x.va.A = A := ⟨_, rfl⟩
  obtain ⟨vn, hvn⟩ : ∃ vn, x.va.n = vn := ⟨_, rfl⟩
  obtain ⟨vc, hvc⟩ : ∃ vc, x.va.c = vc := ⟨_, rfl⟩
  rw [hA, hvn, hvc] at hr x9
  have hcl : 0 < ((grK N).chain i).length := List.length_pos_of_mem (hok.chain_all i (by show i < N.length; rw [h.len.2]; exact hi)).2.1
  have hlen : ((grK N).chain i).length ≤ (ints ((grK N).above i)).length := by rw [ints_len, ht, List.length_append]; omega
  have hhd := hr.head ((grK N).chain i).length hlen
  have htk : (ints ((grK N).above i)).take ((grK N).chain i).length = ints ((grK N).chain i) := by
    rw [ht]; unfold ints; rw [List.map_append, List.take_left' (by simp)]
  rw [htk] at hhd
  have HHD := Lib.hid hhd
  obtain ⟨A', c', e1, hc1, hc2, hc3, -⟩ := hr
  have hvv : vn = (ints ((grK N).above i)).length ∧ vc = c' ∧ A = A' := by injection e1 with e1 e2 e3; exact ⟨e2, e3, e1⟩
  have hA0 : A ≠ none := fun e => by
    have h1 := hc3 (hvv.2.2.symm.trans e)
    omega
  obtain ⟨ad, rfl⟩ : ∃ ad, A = some ad := by
    rcases A with _ | ad
    · exact absurd rfl hA0
    · exact ⟨ad, rfl⟩
  obtain ⟨ln, hl⟩ : ∃ ln, ((grK N).chain i).length = ln := ⟨_, rfl⟩
  rw [hl] at HHD x10 hlen ⊢
  have hlc : ln ≤ vc := by omega
  have hvc2 : vc ≤ 9223372036854775807 := by unfold maxLen at hc2; omega
  have hz0 : ¬ (ln : Int) < 0 := by omega
  have hz1 : (ln : Int) ≤ (vc : Int) := by omega
  clear h hx hk hab hln ht hcl hlen hhd htk e1 hc1 hc2 hc3 hvv hA0 hl hA hvn hvc
  go_enter Tryd.func58, Tryd.ntmps58
  go_wp2_with fail
  go_quiet (fail)
  go_wp2
  go_ret
  exact ⟨_, _, rfl, HHD.out.ext ((Ext.refl w).drewN nq), (Ext.refl w).drewN nq⟩
theorem firstEq_drop {X Y : List Nat} {k x y : Nat} (hx : X[k]? = some x) (hy : Y[k]? = some y) : firstEq (X.drop k) (Y.drop k) = if y = x then some x else firstEq (X.drop (k + 1)) (Y.drop (k + 1)) := by
  obtain ⟨h1, rfl⟩ := List.getElem?_eq_some_iff.1 hx
  obtain ⟨h2, rfl⟩ := List.getElem?_eq_some_iff.1 hy
  rw [List.drop_eq_getElem_cons h1, List.drop_eq_getElem_cons h2]
  rfl
theorem rowN_at {w : World} {b o z k : Nat} {X : List Nat} (h : Row w .i64 (.slice (some ⟨b, o, none⟩) z k) (ints X)) : X.length = z ∧ ∀ (j x : Nat), X[j]? = some x → w.cell? ⟨b, o + j, none⟩ = some (.int .i64 (x : Int)) := by
  obtain ⟨A', c', e1, u1, u2, u3, -, u4⟩ := h
  injection e1 with e1 e2 e3
  rw [ints_len] at e2
  refine ⟨e2.symm, fun j x hx => ?_⟩
  have hj := (List.getElem?_eq_some_iff.1 hx).1
  obtain ⟨b', o', h1, -, h2⟩ := u4 (by rw [ints_len]; omega)
  rw [← e1] at h1
  injection h1 with h1
  injection h1 with h3 h4 _
  subst h3 h4
  rw [h2 j (by rw [ints_len]; exact hj)]
  have : gi (ints X) j = (x : Int) := by
    unfold gi ints
    rw [List.getD_eq_getElem?_getD, List.getElem?_map, hx]
    rfl
  rw [this]
set_option maxRecDepth 100000 in
set_option maxHeartbeats 4000000 in
theorem common_in (h : SetNew B s m g n c D N w ns) (hok : (grK N).Ok) (h72 : n ≤ 72) (i j : Nat) (hi : i < n) (hj : j < n) (r : Nat) (hr : (grK N).common i j = some r) : Calls Tryd.prog 34 #[.pointer (some ⟨s, 0, none⟩), .int .i64 i, .int .i64 j] w fun e w' => e = .returned (.int .i64 r) ∧ Ext w w' := by
  have HN := Lib.hid (fun W (e : Ext w W) => node_in (h.ext e).set.get i hi h72)
  have HM := Lib.hid (fun W (e : Ext w W) => node_in (h.ext e).set.get j hj h72)
  have HU := Lib.hid (fun W (e : Ext w W) => upw_in (h.ext e) hok h72 i hi)
  have HV := Lib.hid (fun W (e : Ext w W) => upw_in (h.ext e) hok h72 j hj)
  have HT := Lib.hid (hok.common_tails i j (show i < N.length by rw [h.len.2]; exact hi) (show j < N.length by rw [h.len.2]; exact hj))
  rw [hr] at HT
  have hp0 : 0 < ((grK N).chain i).length := List.length_pos_of_mem (hok.chain_all i (by show i < N.length; rw [h.len.2]; exact hi)).2.1
  have hq0 : 0 < ((grK N).chain j).length := List.length_pos_of_mem (hok.chain_all j (by show j < N.length; rw [h.len.2]; exact hj)).2.1
  obtain ⟨X, hX⟩ : ∃ X, (grK N).chain i = X := ⟨_, rfl⟩
  obtain ⟨Y, hY⟩ : ∃ Y, (grK N).chain j = Y := ⟨_, rfl⟩
  rw [hX] at HU HT hp0
  rw [hY] at HV HT hq0
  obtain ⟨p, hp⟩ : ∃ p, X.length = p := ⟨_, rfl⟩
  obtain ⟨q, hq⟩ : ∃ q, Y.length = q := ⟨_, rfl⟩
  rw [hp] at HU HT hp0
  rw [hq] at HV HT hq0
  have HP := Lib.hid hp
  have HQ := Lib.hid hq
  clear h hX hY hp hq hr
  go_enter Tryd.func34, Tryd.ntmps34
  go_wp2_with fail
  refine (HN.out _ (Ext.refl w)).mono ?_
  rintro e w1 ⟨rfl, rfl⟩
  go_wp2_with fail
  refine (HU.out _ (Ext.refl w1)).mono ?_
  rintro e w2 ⟨A1, k1, rfl, r1, x1⟩
  have HX1 := Lib.hid x1
  have HR1 := Lib.hid r1
  clear x1 r1
  go_wp2_with fail
  refine (HM.out _ HX1.out).mono ?_
  rintro e w3 ⟨rfl, rfl⟩
  go_wp2_with fail
  refine (HV.out _ HX1.out).mono ?_
  rintro e w4 ⟨A2, k2, rfl, r2, x2⟩
  have HX2 := Lib.hid (HX1.out.trans x2)
  have HR2 := Lib.hid r2
  have HR1 := Lib.hid (HR1.out.ext x2)
  clear x2 r2 HN HM HU HV
  obtain ⟨A', c', e1, u1, u2, u3, -, u4⟩ := HR1.out
  obtain ⟨b1, o1, rfl, -⟩ := u4 (by rw [ints_len, HP.out]; exact hp0)
  have hpk : p ≤ k1 ∧ k1 ≤ 9223372036854775807 := by
    injection e1 with _ e2 e3
    unfold maxLen at u2
    omega
  have hA1 : A1 = some ⟨b1, o1, none⟩ := by injection e1
  subst hA1
  clear e1 u1 u2 u3 u4
  obtain ⟨A', c', e1, u1, u2, u3, -, u4⟩ := HR2.out
  obtain ⟨b2, o2, rfl, -⟩ := u4 (by rw [ints_len, HQ.out]; exact hq0)
  have hqk : q ≤ k2 ∧ k2 ≤ 9223372036854775807 := by
    injection e1 with _ e2 e3
    unfold maxLen at u2
    omega
  have hA2 : A2 = some ⟨b2, o2, none⟩ := by injection e1
  subst hA2
  clear e1 u1 u2 u3 u4
  have HR1 := Lib.hid HR1.out
  obtain ⟨z, hz⟩ : ∃ z, min p q = z := ⟨_, rfl⟩
  rw [hz] at HT
  have hzb : 0 < z ∧ z ≤ p ∧ z ≤ q := by omega
  obtain ⟨d1, hd1⟩ : ∃ d1, p - z = d1 := ⟨_, rfl⟩
  obtain ⟨d2, hd2⟩ : ∃ d2, q - z = d2 := ⟨_, rfl⟩
  rw [hd1, hd2] at HT
  have hmin : min (p : Int) (q : Int) = (z : Int) := by omega
  have hs1 : (p : Int) - (z : Int) = (d1 : Int) := by omega
  have hs2 : (q : Int) - (z : Int) = (d2 : Int) := by omega
  have m1 : ¬ (d1 : Int) < 0 := by omega
  have m2 : ¬ (d2 : Int) < 0 := by omega
  have m3 : (d1 : Int) ≤ (p : Int) := by omega
  have m4 : (d2 : Int) ≤ (q : Int) := by omega
  have m5 : (p : Int) ≤ (k1 : Int) := by omega
  have m6 : (q : Int) ≤ (k2 : Int) := by omega
  have m7 : ¬ k1 = d1 := by omega
  have m8 : ¬ k2 = d2 := by omega
  have HD := Lib.hid (And.intro hd1 hd2)
  clear hd1 hd2 hz
  go_upto_region 3 with fail
  try rw [hmin]
  go_quiet (fail)
  go_upto_region 4 with fail
  obtain ⟨W, hW⟩ : ∃ W, w4.drewN nq = W := ⟨_, rfl⟩
  have HX4 : Hid (Ext w1 W) := Lib.hid (by rw [← hW]; exact HX2.out.trans ((Ext.refl w4).drewN nq))
  have hz1 : p - d1 = z := by have := HD.out; omega
  have hz2 : q - d2 = z := by have := HD.out; omega
  have hmapX : (ints X).drop d1 = ints (X.drop d1) := by unfold ints; rw [List.map_drop]
  have hmapY : (ints Y).drop d2 = ints (Y.drop d2) := by unfold ints; rw [List.map_drop]
  have hrx := (HR1.out.tail d1 (by rw [ints_len, HP.out]; omega)).ext ((Ext.refl w4).drewN nq)
  have hry := (HR2.out.tail d2 (by rw [ints_len, HQ.out]; omega)).ext ((Ext.refl w4).drewN nq)
  rw [hmapX, hz1, hW] at hrx
  rw [hmapY, hz2, hW] at hry
  have HCX := Lib.hid (rowN_at hrx)
  have HCY := Lib.hid (rowN_at hry)
  rw [hz1, hz2, hW]
  obtain ⟨X2, hX2⟩ : ∃ X2, X.drop d1 = X2 := ⟨_, rfl⟩
  obtain ⟨Y2, hY2⟩ : ∃ Y2, Y.drop d2 = Y2 := ⟨_, rfl⟩
  rw [hX2] at HT HCX
  rw [hY2] at HT HCY
  obtain ⟨kc1, hk1⟩ : ∃ kc1, k1 - d1 = kc1 := ⟨_, rfl⟩
  obtain ⟨kc2, hk2⟩ : ∃ kc2, k2 - d2 = kc2 := ⟨_, rfl⟩
  rw [hk1, hk2]
  have hzc1 : z ≤ kc1 := by omega
  have hzc2 : z ≤ kc2 := by omega
  have HF0 : Hid (firstEq (X2.drop 0) (Y2.drop 0) = some r) := HT
  clear hW hz1 hz2 hmapX hmapY hrx hry hX2 hY2 hk1 hk2 HR1 HR2 HT hmin hs1 hs2 m1 m2 m3 m4 m5 m6 m7 m8 HX2 HX1 HP HQ HD hp0 hq0
  go_wp2_with fail
  go_loopw [39] (fun iv wr => ∃ k : Nat, iv = .int .i64 k ∧ k ≤ z ∧ wr = W ∧ Hid (firstEq (X2.drop k) (Y2.drop k) = some r)) (fun iv _ => z - (intOf iv).toNat)
  case atStart => exact ⟨0, rfl, by omega, rfl, HF0⟩
  case round =>
    obtain ⟨k, rfl, hk, rfl, HF⟩ := hrel
    clear HF0
    by_cases hlt : k < z
    · have hltz : (k : Int) < (z : Int) := by omega
      obtain ⟨x, hx⟩ : ∃ x, X2[k]? = some x := ⟨X2[k]'(by have := HCX.out.1; omega), List.getElem?_eq_getElem _⟩
      obtain ⟨y, hy⟩ : ∃ y, Y2[k]? = some y := ⟨Y2[k]'(by have := HCY.out.1; omega), List.getElem?_eq_getElem _⟩
      have c1 := HCX.out.2 k x hx
      have c2 := HCY.out.2 k y hy
      have HFE := Lib.hid (firstEq_drop hx hy)
      clear hx hy
      by_cases hxy : y = x
      · subst hxy
        have hr : y = r := by have h := HF.out; rw [HFE.out, if_pos rfl] at h; injection h
        subst hr
        go_wp2
        go_ret
        exact ⟨rfl, HX4.out⟩
      · have hxz : ¬ (y : Int) = (x : Int) := by omega
        have HF2 : Hid (firstEq (X2.drop (k + 1)) (Y2.drop (k + 1)) = some r) := Lib.hid (by have h := HF.out; rw [HFE.out, if_neg hxy] at h; exact h)
        go_wp2_with fail
        go_roundw
        case rel => exact ⟨k + 1, by go_num, by omega, by first | rfl | trivial, HF2⟩
        case measure => first | (simp [intOf]; omega) | simp [intOf]
    · exfalso
      have h := HF.out
      have hkz : k = z := by omega
      rw [List.drop_of_length_le (by rw [HCX.out.1]; omega)] at h
      cases h
end
end Go.Proofs.YtkkfkjjmmdpafaaDoor
namespace Go.Proofs.YtkkfkjjmmdpafaaDoor
open Go.RowKit Go.Maps Go.WideMaps
set_option linter.unusedVariables false
def ndNone : Nd := ⟨kl0, sl0, -1, [], sl0, [], sl0, 0⟩
section
variable {s m g n c : Nat} {w : World} {ns : List Nd}
set_option maxRecDepth 100000 in
theorem node_out (h : SetG s m g n c w ns) (h72 : n ≤ 72) (i : Int) (hi : i < 0 ∨ (n : Int) ≤ i) : Calls Tryd.prog 52 #[.pointer (some ⟨s, 0, none⟩), .int .i64 i] w fun e w' => ∃ b, e = .returned (.pointer (some ⟨b, 0, none⟩)) ∧ w'.heap[b]? = some (.cells ndNone.vals 72 (0, 0)) ∧ Ext w w' := by
  have c0 := h.c0
  have HL := Lib.hid (len_any h)
  by_cases i0 : i < 0
  · clear h hi
    go_enter Tryd.func52, Tryd.ntmps52
    go_wp2
    go_ret
    exact ⟨_, rfl, heap_alloc_new w (.cells ndNone.vals 72), (Ext.refl w).alloc _⟩
  · have i1 : (n : Int) ≤ i := by omega
    clear h hi
    go_enter Tryd.func52, Tryd.ntmps52
    go_wp2_with fail
    refine HL.out.mono ?_
    rintro e w' ⟨rfl, rfl⟩
    go_wp2
    go_ret
    exact ⟨_, rfl, heap_alloc_new w' (.cells ndNone.vals 72), (Ext.refl w').alloc _⟩
theorem none_cells {W : World} {b : Nat} (h : W.heap[b]? = some (.cells ndNone.vals 72 (0, 0))) : W.cell? ⟨b, 1, none⟩ = some (.string ⟨#[]⟩) ∧ W.cell? ⟨b, 3, none⟩ = some (.bool false) ∧ W.cell? ⟨b, 7, none⟩ = some (.int .i64 (-1)) ∧ W.cell? ⟨b, 8, none⟩ = some (.slice none 0 0) ∧ W.cell? ⟨b, 9, none⟩ = some (.slice none 0 0) ∧ W.cell? ⟨b, 10, none⟩ = some (.int .i64 0) := by
  refine ⟨?_, ?_, ?_, ?_, ?_, ?_⟩
  all_goals
    rw [cell_of_row W b _ _ _ (0, 0) h]
    rfl
set_option maxRecDepth 100000 in
theorem above_out (h : SetG s m g n c w ns) (h72 : n ≤ 72) (i : Int) (hi : i < 0 ∨ (n : Int) ≤ i) : Calls Tryd.prog 30 #[.pointer (some ⟨s, 0, none⟩), .int .i64 i] w fun e w' => ∃ v', e = .returned v' ∧ Own w.heap.size w' 3 .i64 v' [] ∧ Ext w w' := by
  have HN := Lib.hid (node_out h h72 i hi)
  have HC := Lib.hid (fun W => cloneI_any (l := []) (Own.nil 0 W 3 .i64).row (by simp))
  clear h hi
  go_enter Tryd.func30, Tryd.ntmps30
  go_wp2_with fail
  refine HN.out.mono ?_
  rintro e w1 ⟨b, rfl, hb, x1⟩
  obtain ⟨c1, c3, c7, c8, c9, c10⟩ := none_cells hb
  have HX := Lib.hid x1
  clear hb x1
  go_wp2_with fail
  refine (HC.out _).mono ?_
  rintro e w5 ⟨v', rfl, ho, x5⟩
  go_wp2
  go_ret
  exact ⟨_, rfl, ho.base HX.out.size, HX.out.trans x5⟩
set_option maxRecDepth 100000 in
theorem below_out (h : SetG s m g n c w ns) (h72 : n ≤ 72) (i : Int) (hi : i < 0 ∨ (n : Int) ≤ i) (j : Int) : Calls Tryd.prog 32 #[.pointer (some ⟨s, 0, none⟩), .int .i64 i, .int .i64 j] w fun e w' => e = .returned (.bool false) ∧ Ext w w' := by
  have HN := Lib.hid (node_out h h72 i hi)
  have HC := Lib.hid (fun W => contains_any (l := []) (Own.nil 0 W 3 .i64).row j)
  clear h hi
  go_enter Tryd.func32, Tryd.ntmps32
  go_wp2_with fail
  refine HN.out.mono ?_
  rintro e w1 ⟨b, rfl, hb, x1⟩
  obtain ⟨c1, c3, c7, c8, c9, c10⟩ := none_cells hb
  have HX := Lib.hid x1
  clear hb x1
  go_wp2_with fail
  refine (HC.out _).mono ?_
  rintro e w5 ⟨rfl, rfl⟩
  go_wp2
  go_ret
  exact ⟨rfl, HX.out⟩
set_option maxRecDepth 100000 in
theorem super_out (h : SetG s m g n c w ns) (h72 : n ≤ 72) (i : Int) (hi : i < 0 ∨ (n : Int) ≤ i) : Calls Tryd.prog 22 #[.pointer (some ⟨s, 0, none⟩), .int .i64 i] w fun e w' => e = .returned (.int .i64 (-1)) ∧ Ext w w' := by
  have HN := Lib.hid (node_out h h72 i hi)
  clear h hi
  go_enter Tryd.func22, Tryd.ntmps22
  go_wp2_with fail
  refine HN.out.mono ?_
  rintro e w1 ⟨b, rfl, hb, x1⟩
  obtain ⟨c1, c3, c7, c8, c9, c10⟩ := none_cells hb
  have HX := Lib.hid x1
  clear hb x1
  go_wp2
  go_ret
  exact ⟨rfl, HX.out⟩
set_option maxRecDepth 100000 in
theorem iface_out (h : SetG s m g n c w ns) (h72 : n ≤ 72) (i : Int) (hi : i < 0 ∨ (n : Int) ≤ i) : Calls Tryd.prog 27 #[.pointer (some ⟨s, 0, none⟩), .int .i64 i] w fun e w' => e = .returned (.bool false) ∧ Ext w w' := by
  have HN := Lib.hid (node_out h h72 i hi)
  clear h hi
  go_enter Tryd.func27, Tryd.ntmps27
  go_wp2_with fail
  refine HN.out.mono ?_
  rintro e w1 ⟨b, rfl, hb, x1⟩
  obtain ⟨c1, c3, c7, c8, c9, c10⟩ := none_cells hb
  have HX := Lib.hid x1
  clear hb x1
  go_wp2
  go_ret
  exact ⟨rfl, HX.out⟩
set_option maxRecDepth 100000 in
theorem name_out (h : SetG s m g n c w ns) (h72 : n ≤ 72) (i : Int) (hi : i < 0 ∨ (n : Int) ≤ i) : Calls Tryd.prog 20 #[.pointer (some ⟨s, 0, none⟩), .int .i64 i] w fun e w' => e = .returned (.string ⟨#[]⟩) ∧ Ext w w' := by
  have HN := Lib.hid (node_out h h72 i hi)
  have HC := Lib.hid (fun W => sclone_any ⟨#[]⟩ W (by decide))
  clear h hi
  go_enter Tryd.func20, Tryd.ntmps20
  go_wp2_with fail
  refine HN.out.mono ?_
  rintro e w1 ⟨b, rfl, hb, x1⟩
  obtain ⟨c1, c3, c7, c8, c9, c10⟩ := none_cells hb
  have HX := Lib.hid x1
  clear hb x1
  go_wp2_with fail
  refine (HC.out _).mono ?_
  rintro e w5 ⟨rfl, x5⟩
  go_wp2
  go_ret
  exact ⟨rfl, HX.out.trans x5⟩
end
end Go.Proofs.YtkkfkjjmmdpafaaDoor
namespace Go.Proofs.YtkkfkjjmmdpafaaDoor
open Go.RowKit Go.Maps Go.WideMaps
set_option linter.unusedVariables false

def inN (N : List Kl) (i : Int) : Bool := decide (0 ≤ i) && decide (i < N.length)
def nameZ (N : List Kl) (i : Int) : ByteArray := if inN N i then (gk N i.toNat).nm else ⟨#[]⟩
def aboveZ (N : List Kl) (i : Int) : List Int := if inN N i then ints ((grK N).above i.toNat) else []
def belowZ (N : List Kl) (i j : Int) : Bool := (aboveZ N i).contains j
def superZ (N : List Kl) (i : Int) : Int := if inN N i then supI N i.toNat else -1
def ifsZ (N : List Kl) (i : Int) : List Int := if inN N i then ifsI N i.toNat else []
def infZ (N : List Kl) (i : Int) : Bool := inN N i && (gk N i.toNat).inf
def commonZ (N : List Kl) (i j : Int) : Int := if inN N i && inN N j then (match (grK N).common i.toNat j.toNat with | some c => (c : Int) | none => -1) else -1
theorem inN_nat {N : List Kl} {k : Nat} (h : k < N.length) : inN N k = true := by unfold inN; simp; exact h
theorem inN_no {N : List Kl} {i : Int} (h : i < 0 ∨ (N.length : Int) ≤ i) : inN N i = false := by
  unfold inN
  rcases h with h | h
  · simp; omega
  · simp; omega
theorem in_cases (N : List Kl) (i : Int) : (∃ k : Nat, i = k ∧ k < N.length) ∨ (i < 0 ∨ (N.length : Int) ≤ i) := by
  by_cases h : 0 ≤ i ∧ i < N.length
  · exact .inl ⟨i.toNat, by omega, by omega⟩
  · exact .inr (by omega)
structure SetIs (B s : Nat) (N : List Kl) (w : World) : Prop where
  n8 : 8 ≤ N.length
  n72 : N.length ≤ 72
  ok : (grK N).Ok
  flt : fltZ N = none
  bl : ∃ r, N = builtZ ++ r
  nms : ∀ i, (gk N i).nm.size ≤ 140737488351232 ∧ (gk N i).sup.size ≤ 140737488351232 ∧ (∀ y ∈ (gk N i).ifs, y.size ≤ 140737488351232) ∧ (gk N i).ifs.length * 16 ≤ 140737488351232
  at_ : ∃ m g n c D ns, SetNew B s m g n c D N w ns
theorem below_iff {N : List Kl} {x : Nat} (hx : x < N.length) (y : Nat) : belowZ N x y = true ↔ y ∈ (grK N).above x := by
  unfold belowZ aboveZ ints
  rw [inN_nat hx, if_pos rfl, List.contains_iff_mem, List.mem_map, Int.toNat_natCast]
  constructor
  · rintro ⟨j, hj, e⟩
    have e : j = y := by omega
    rw [← e]; exact hj
  · exact fun h => ⟨y, h, rfl⟩
section
variable {B s : Nat} {N : List Kl} {w : World}
theorem SetIs.ext {w' : World} (h : SetIs B s N w) (e : Ext w w') : SetIs B s N w' := by
  obtain ⟨m, g, n, c, D, ns, h1⟩ := h.at_
  exact ⟨h.n8, h.n72, h.ok, h.flt, h.bl, h.nms, ⟨m, g, n, c, D, ns, h1.ext e⟩⟩
theorem SetIs.get (h : SetIs B s N w) : ∃ m g c D ns, SetNew B s m g N.length c D N w ns := by
  obtain ⟨m, g, n, c, D, ns, h1⟩ := h.at_
  obtain rfl := h1.len.2
  exact ⟨m, g, c, D, ns, h1⟩
theorem sLen (h : SetIs B s N w) : Calls Tryd.prog 15 #[.pointer (some ⟨s, 0, none⟩)] w fun e w' => e = .returned (.int .i64 N.length) ∧ w' = w := by
  obtain ⟨m, g, c, D, ns, h1⟩ := h.get
  exact len_any h1.set.get
theorem sName (h : SetIs B s N w) (i : Int) : Calls Tryd.prog 20 #[.pointer (some ⟨s, 0, none⟩), .int .i64 i] w fun e w' => e = .returned (.string (nameZ N i)) ∧ Ext w w' := by
  obtain ⟨m, g, c, D, ns, h1⟩ := h.get
  rcases in_cases N i with ⟨k, rfl, hk⟩ | hi
  · unfold nameZ
    rw [inN_nat hk]
    exact name_in h1 h.n72 k hk (h.nms k).1
  · unfold nameZ
    rw [inN_no hi]
    exact name_out h1.set.get h.n72 i hi
theorem sAbove (h : SetIs B s N w) (i : Int) : Calls Tryd.prog 30 #[.pointer (some ⟨s, 0, none⟩), .int .i64 i] w fun e w' => ∃ v', e = .returned v' ∧ Own w.heap.size w' 3 .i64 v' (aboveZ N i) ∧ Ext w w' := by
  obtain ⟨m, g, c, D, ns, h1⟩ := h.get
  rcases in_cases N i with ⟨k, rfl, hk⟩ | hi
  · unfold aboveZ
    rw [inN_nat hk]
    exact above_in h1 h.ok h.n72 k hk
  · unfold aboveZ
    rw [inN_no hi]
    exact above_out h1.set.get h.n72 i hi
theorem sBelow (h : SetIs B s N w) (i j : Int) : Calls Tryd.prog 32 #[.pointer (some ⟨s, 0, none⟩), .int .i64 i, .int .i64 j] w fun e w' => e = .returned (.bool (belowZ N i j)) ∧ Ext w w' := by
  obtain ⟨m, g, c, D, ns, h1⟩ := h.get
  rcases in_cases N i with ⟨k, rfl, hk⟩ | hi
  · unfold belowZ aboveZ
    rw [inN_nat hk]
    exact (below_in h1 h.n72 k hk j).mono fun e w' ⟨h1, h2⟩ => ⟨h1, by rw [h2]; exact Ext.refl w⟩
  · unfold belowZ aboveZ
    rw [inN_no hi]
    exact below_out h1.set.get h.n72 i hi j
theorem sNumber (h : SetIs B s N w) (nm : ByteArray) (hz : nm.size ≤ 140737488351232) : Calls Tryd.prog 16 #[.pointer (some ⟨s, 0, none⟩), .string nm] w fun e w' => e = .returned (.tuple #[.int .i64 (if findZ N nm < 0 then 0 else findZ N nm), .bool (decide (0 ≤ findZ N nm))]) ∧ w' = w := by
  obtain ⟨m, g, c, D, ns, h1⟩ := h.get
  exact number_any h1 nm hz
theorem SetNew.tells {B s m g n c : Nat} {D : DataW Unit} {N : List Kl} {w : World} {ns : List Nd} (h : SetNew B s m g n c D N w ns) (k : Nat) (hk : k < n) : ∃ x, ns[k]? = some x ∧ x.k = gk N k ∧ x.su = supI N k ∧ x.is = ifsI N k := by
  obtain ⟨x, hx, h2, -, -⟩ := h.at k hk
  obtain ⟨h3, h4⟩ := h.told k x hx
  rw [h.kl] at h3 h4
  exact ⟨x, hx, h2, h3, h4⟩
theorem sSuper (h : SetIs B s N w) (i : Int) : Calls Tryd.prog 22 #[.pointer (some ⟨s, 0, none⟩), .int .i64 i] w fun e w' => e = .returned (.int .i64 (superZ N i)) ∧ Ext w w' := by
  obtain ⟨m, g, c, D, ns, h1⟩ := h.get
  rcases in_cases N i with ⟨k, rfl, hk⟩ | hi
  · unfold superZ
    rw [inN_nat hk]
    obtain ⟨x, hx, -, h3, -⟩ := h1.tells k hk
    have := super_in h1.set.get k x hx h.n72
    rw [h3] at this
    exact this.mono fun e w' ⟨h1, h2⟩ => ⟨h1, by rw [h2]; exact Ext.refl w⟩
  · unfold superZ
    rw [inN_no hi]
    exact super_out h1.set.get h.n72 i hi
theorem sIsI (h : SetIs B s N w) (i : Int) : Calls Tryd.prog 27 #[.pointer (some ⟨s, 0, none⟩), .int .i64 i] w fun e w' => e = .returned (.bool (infZ N i)) ∧ Ext w w' := by
  obtain ⟨m, g, c, D, ns, h1⟩ := h.get
  rcases in_cases N i with ⟨k, rfl, hk⟩ | hi
  · unfold infZ
    rw [inN_nat hk]
    obtain ⟨x, hx, h2, -, -⟩ := h1.tells k hk
    have := isIface_in h1.set.get k x hx h.n72
    rw [h2] at this
    exact this.mono fun e w' ⟨h1, h2⟩ => ⟨h1, by rw [h2]; exact Ext.refl w⟩
  · unfold infZ
    rw [inN_no hi]
    exact iface_out h1.set.get h.n72 i hi
end
end Go.Proofs.YtkkfkjjmmdpafaaDoor
namespace Go.Proofs.YtkkfkjjmmdpafaaDoor
open Go.RowKit Go.Maps Go.WideMaps
set_option linter.unusedVariables false

def newF (K : List Kl) : Flt := if 64 < K.length then some (⟨#[]⟩, 5) else fltZ (setZ nlt K)
structure KOk (k : Kl) : Prop where
  nm : k.nm.size ≤ 140737488351232
  sup : k.sup.size ≤ 140737488351232
  ifs : ∀ x ∈ k.ifs, x.size ≤ 140737488351232
  len : k.ifs.length * 16 ≤ 140737488351232
theorem KlOk.k {y : KlV} (h : KlOk y) : KOk y.k := ⟨h.nm, h.sup, h.ifs, h.len⟩
theorem newF_err {K : List Kl} {nm : ByteArray} {er : Int} (h : newF K = some (nm, er)) : er = 5 ∨ er = 90 ∨ er = 91 ∨ er = 92 := by
  unfold newF at h
  split at h
  · injection h with h
    injection h with _ h
    exact .inl h.symm
  · exact .inr (fltZ_err h)
theorem setZ_len (K : List Kl) : (setZ nlt K).length = 8 + K.length := by
  unfold setZ
  rw [List.length_append, (sortZ_perm _ K).length_eq]
  rfl
theorem setZ_ok {K : List Kl} (hz : ∀ k ∈ K, KOk k) (i : Nat) : KOk (gk (setZ nlt K) i) := by
  have hall : ∀ k ∈ setZ nlt K, KOk k := fun k hk => by
    unfold setZ at hk
    rcases List.mem_append.1 hk with hk | hk
    · have : ∀ y ∈ builtZ, y.nm.size ≤ 140737488351232 ∧ y.sup.size ≤ 140737488351232 ∧ y.ifs = [] := by decide
      obtain ⟨h1, h2, h3⟩ := this k hk
      exact ⟨h1, h2, (by rw [h3]; intro y hy; cases hy), (by rw [h3]; simp)⟩
    · exact hz k ((sortZ_perm _ K).mem_iff.1 hk)
  unfold gk
  rw [List.getD_eq_getElem?_getD]
  rcases Nat.lt_or_ge i (setZ nlt K).length with h | h
  · rw [List.getElem?_eq_getElem h]
    exact hall _ (List.getElem_mem h)
  · rw [List.getElem?_eq_none h]
    exact ⟨by decide, by decide, fun x hx => (by cases hx), by decide⟩
def NewAns (w : World) (K : List Kl) (e : Ending) (w' : World) : Prop := Ext w w' ∧ ((∃ nm er, newF K = some (nm, er) ∧ e = .returned (.tuple #[.pointer none, .string nm, .int .i64 er])) ∨
  (newF K = none ∧ ∃ s, e = .returned (.tuple #[.pointer (some ⟨s, 0, none⟩), .string ⟨#[]⟩, .int .i64 0]) ∧ SetIs w.heap.size s (setZ nlt K) w'))
theorem newH_any {w : World} {v : Value} {L : List KlV} (hb : Blt w) (h : ShK.Row w v L) (hl : L.length * 136 ≤ 140737488351232) (hz : ∀ k ∈ L.map (·.k), KOk k) (hnil : ∀ x ∈ L, NilK x) :
    Calls Tryd.prog 12 #[v] w (NewAns w (L.map (·.k))) := by
  by_cases h64 : 64 < L.length
  · obtain ⟨A, c, rfl, -⟩ := h.cut
    refine (new_limit h64 (by omega)).mono ?_
    rintro e w' ⟨rfl, rfl⟩
    refine ⟨Ext.refl _, .inl ⟨_, 5, ?_, rfl⟩⟩
    unfold newF
    rw [if_pos (by rw [List.length_map]; exact h64)]
  · have hz' : ∀ x ∈ L, KOk x.k := fun x hx => hz x.k (List.mem_map.2 ⟨x, hx, rfl⟩)
    refine (new_any hb h (by omega) (fun x hx => ⟨(hz' x hx).nm, (hz' x hx).sup, (hz' x hx).ifs, (hz' x hx).len⟩) hnil).mono ?_
    rintro e w' ⟨hx, hr⟩
    rw [new_setZ] at hr
    have hF : newF (L.map (·.k)) = fltZ (setZ nlt (L.map (·.k))) := by
      unfold newF
      rw [if_neg (by rw [List.length_map]; exact h64)]
    refine ⟨hx, ?_⟩
    rcases hr with ⟨nm, er, h1, h2⟩ | ⟨h1, s, m, g, n, c, D, ns, h2, h3⟩
    · exact .inl ⟨nm, er, by rw [hF]; exact h1, h2⟩
    · refine .inr ⟨by rw [hF]; exact h1, s, h2, ?_⟩
      have hlen := setZ_len (L.map (·.k))
      rw [List.length_map] at hlen
      exact ⟨by omega, by omega, gr_ok _ h1, h1, ⟨_, rfl⟩, fun i => ⟨(setZ_ok hz i).nm, (setZ_ok hz i).sup, (setZ_ok hz i).ifs, (setZ_ok hz i).len⟩, ⟨m, g, n, c, D, ns, h3⟩⟩
theorem map_ok {l L : List KlV} (hm : L.map (·.k) = l.map (·.k)) (hk : ∀ x ∈ l, KlOk x) : ∀ k ∈ L.map (·.k), KOk k := fun k h => by
  rw [hm] at h
  obtain ⟨x, hx, rfl⟩ := List.mem_map.1 h
  exact (hk x hx).k
end Go.Proofs.YtkkfkjjmmdpafaaDoor
namespace Go.Proofs.YtkkfkjjmmdpafaaDoor
open Go.RowKit Go.Maps Go.WideMaps
set_option linter.unusedVariables false

def Ups (w : World) (s : Nat) (i : Int) (x : Nat) : Prop := ∀ W, Ext w W → Calls Tryd.prog 52 #[.pointer (some ⟨s, 0, none⟩), .int .i64 i] W fun e w' => ∃ p, e = .returned (.pointer (some p)) ∧ Ext W w' ∧
  ∀ W', Ext w' W' → Calls Tryd.prog 58 #[.pointer (some p)] W' fun e w'' => ∃ A k, e = .returned (.slice A x k) ∧ (A = none → x = 0 ∧ k = 0) ∧ x ≤ k ∧ k ≤ 9223372036854775807 ∧ Ext W' w''
set_option maxRecDepth 100000 in
theorem upw_none {W : World} {b : Nat} (h : W.heap[b]? = some (.cells ndNone.vals 72 (0, 0))) : Calls Tryd.prog 58 #[.pointer (some ⟨b, 0, none⟩)] W fun e w' => e = .returned (.slice none 0 0) ∧ Ext W w' := by
  obtain ⟨c1, c3, c7, c8, c9, c10⟩ := none_cells h
  clear h
  go_enter Tryd.func58, Tryd.ntmps58
  go_wp2_with fail
  go_quiet (fail)
  go_wp2
  go_ret
  exact ⟨rfl, (Ext.refl W).drewN nq⟩
section
variable {B s : Nat} {N : List Kl} {w : World}
theorem SetIs.ups_in (h : SetIs B s N w) (k : Nat) (hk : k < N.length) : Ups w s k ((grK N).chain k).length := fun W e => by
  obtain ⟨m, g, c, D, ns, h1⟩ := (h.ext e).get
  refine (node_in h1.set.get k hk h.n72).mono ?_
  rintro e w' ⟨rfl, rfl⟩
  refine ⟨_, rfl, Ext.refl _, fun W' e' => (upw_in (h1.ext e') h.ok h.n72 k hk).mono ?_⟩
  rintro e w5 ⟨A, k', rfl, hr, x5⟩
  obtain ⟨A', c', e1, u1, u2, u3, -⟩ := hr
  injection e1 with e1 e2 e3
  rw [ints_len] at u1 e2
  unfold maxLen at u2
  exact ⟨A, k', rfl, fun e => by have := u3 (e1.symm.trans e); omega, by omega, by omega, x5⟩
theorem SetIs.ups_out (h : SetIs B s N w) (i : Int) (hi : i < 0 ∨ (N.length : Int) ≤ i) : Ups w s i 0 := fun W e => by
  obtain ⟨m, g, c, D, ns, h1⟩ := (h.ext e).get
  refine (node_out h1.set.get h.n72 i hi).mono ?_
  rintro e w' ⟨b, rfl, hb, x1⟩
  refine ⟨_, rfl, x1, fun W' e' => (upw_none ((e'.block _ (lt_of_get hb)).trans hb)).mono ?_⟩
  rintro e w5 ⟨rfl, x5⟩
  exact ⟨none, 0, rfl, fun _ => ⟨rfl, rfl⟩, Nat.le_refl _, by omega, x5⟩
set_option maxRecDepth 100000 in
theorem common_none {i j : Int} {p q : Nat} (hi : Ups w s i p) (hj : Ups w s j q) (h0 : p = 0 ∨ q = 0) : Calls Tryd.prog 34 #[.pointer (some ⟨s, 0, none⟩), .int .i64 i, .int .i64 j] w fun e w' => e = .returned (.int .i64 (-1)) ∧ Ext w w' := by
  have HI := Lib.hid hi
  have HJ := Lib.hid hj
  have hmin : min (p : Int) (q : Int) = 0 := by omega
  clear hi hj
  go_enter Tryd.func34, Tryd.ntmps34
  go_wp2_with fail
  refine (HI.out _ (Ext.refl w)).mono ?_
  rintro e w1 ⟨pa, rfl, x1, hu⟩
  have HX1 := Lib.hid x1
  have HU := Lib.hid hu
  clear x1 hu
  go_wp2_with fail
  refine (HU.out _ (Ext.refl w1)).mono ?_
  rintro e w2 ⟨A1, k1, rfl, n1, l1, u1, x2⟩
  have HX2 := Lib.hid (HX1.out.trans x2)
  have HN1 := Lib.hid n1
  clear x2 HU HX1 n1
  go_wp2_with fail
  refine (HJ.out _ HX2.out).mono ?_
  rintro e w3 ⟨pb, rfl, x3, hv⟩
  have HX3 := Lib.hid (HX2.out.trans x3)
  have HV := Lib.hid hv
  clear x3 hv HX2
  go_wp2_with fail
  refine (HV.out _ (Ext.refl w3)).mono ?_
  rintro e w4 ⟨A2, k2, rfl, n2, l2, u2, x4⟩
  have HX4 := Lib.hid (HX3.out.trans x4)
  have HN2 := Lib.hid n2
  clear x4 HV HX3 n2 HI HJ
  have HX5 : Hid (∀ n, Ext w (w4.drewN n)) := Lib.hid fun n => HX4.out.drewN n
  go_upto_region 3 with fail
  try rw [hmin]
  have f1 : (p : Int) ≤ (k1 : Int) := by omega
  have f2 : (q : Int) ≤ (k2 : Int) := by omega
  have s1 : (p : Int) - 0 = (p : Int) := by omega
  have s2 : (q : Int) - 0 = (q : Int) := by omega
  have s3 : ¬ (p : Int) < 0 := by omega
  have s4 : ¬ (q : Int) < 0 := by omega
  have HP0 := Lib.hid h0
  have z0 : p - p = 0 := by omega
  have z1 : q - q = 0 := by omega
  clear h0
  rcases A1 with _ | a1
  · obtain ⟨rfl, rfl⟩ := HN1.out rfl
    rcases A2 with _ | a2
    · obtain ⟨rfl, rfl⟩ := HN2.out rfl
      go_quiet (fail)
      go_wp2_with fail
      go_loopw [39] (fun iv wr => iv = .int .i64 0 ∧ Hid (Ext w wr)) (fun _ _ => 0)
      case atStart => exact ⟨rfl, Lib.hid (HX5.out _)⟩
      case round =>
        obtain ⟨rfl, HX⟩ := hrel
        have h00 : ¬ (0 : Int) < 0 := by omega
        go_wp2
        go_ret
        exact ⟨rfl, HX.out⟩
    · by_cases k2q : k2 = q
      · subst k2q
        go_quiet (fail)
        go_wp2_with fail
        go_loopw [39] (fun iv wr => iv = .int .i64 0 ∧ Hid (Ext w wr)) (fun _ _ => 0)
        case atStart => exact ⟨rfl, Lib.hid (HX5.out _)⟩
        case round =>
          obtain ⟨rfl, HX⟩ := hrel
          have h00 : ¬ (0 : Int) < 0 := by omega
          go_wp2
          go_ret
          exact ⟨rfl, HX.out⟩
      · have k2q' : ¬ k2 - q = 0 := by omega
        go_quiet (fail)
        go_wp2_with fail
        go_loopw [39] (fun iv wr => iv = .int .i64 0 ∧ Hid (Ext w wr)) (fun _ _ => 0)
        case atStart => exact ⟨rfl, Lib.hid (HX5.out _)⟩
        case round =>
          obtain ⟨rfl, HX⟩ := hrel
          have h00 : ¬ (0 : Int) < 0 := by omega
          go_wp2
          go_ret
          exact ⟨rfl, HX.out⟩
  · by_cases k1p : k1 = p
    · subst k1p
      rcases A2 with _ | a2
      · obtain ⟨rfl, rfl⟩ := HN2.out rfl
        go_quiet (fail)
        go_wp2_with fail
        go_loopw [39] (fun iv wr => iv = .int .i64 0 ∧ Hid (Ext w wr)) (fun _ _ => 0)
        case atStart => exact ⟨rfl, Lib.hid (HX5.out _)⟩
        case round =>
          obtain ⟨rfl, HX⟩ := hrel
          have h00 : ¬ (0 : Int) < 0 := by omega
          go_wp2
          go_ret
          exact ⟨rfl, HX.out⟩
      · by_cases k2q : k2 = q
        · subst k2q
          go_quiet (fail)
          go_wp2_with fail
          go_loopw [39] (fun iv wr => iv = .int .i64 0 ∧ Hid (Ext w wr)) (fun _ _ => 0)
          case atStart => exact ⟨rfl, Lib.hid (HX5.out _)⟩
          case round =>
            obtain ⟨rfl, HX⟩ := hrel
            have h00 : ¬ (0 : Int) < 0 := by omega
            go_wp2
            go_ret
            exact ⟨rfl, HX.out⟩
        · have k2q' : ¬ k2 - q = 0 := by omega
          go_quiet (fail)
          go_wp2_with fail
          go_loopw [39] (fun iv wr => iv = .int .i64 0 ∧ Hid (Ext w wr)) (fun _ _ => 0)
          case atStart => exact ⟨rfl, Lib.hid (HX5.out _)⟩
          case round =>
            obtain ⟨rfl, HX⟩ := hrel
            have h00 : ¬ (0 : Int) < 0 := by omega
            go_wp2
            go_ret
            exact ⟨rfl, HX.out⟩
    · have k1p' : ¬ k1 - p = 0 := by omega
      rcases A2 with _ | a2
      · obtain ⟨rfl, rfl⟩ := HN2.out rfl
        go_quiet (fail)
        go_wp2_with fail
        go_loopw [39] (fun iv wr => iv = .int .i64 0 ∧ Hid (Ext w wr)) (fun _ _ => 0)
        case atStart => exact ⟨rfl, Lib.hid (HX5.out _)⟩
        case round =>
          obtain ⟨rfl, HX⟩ := hrel
          have h00 : ¬ (0 : Int) < 0 := by omega
          go_wp2
          go_ret
          exact ⟨rfl, HX.out⟩
      · by_cases k2q : k2 = q
        · subst k2q
          go_quiet (fail)
          go_wp2_with fail
          go_loopw [39] (fun iv wr => iv = .int .i64 0 ∧ Hid (Ext w wr)) (fun _ _ => 0)
          case atStart => exact ⟨rfl, Lib.hid (HX5.out _)⟩
          case round =>
            obtain ⟨rfl, HX⟩ := hrel
            have h00 : ¬ (0 : Int) < 0 := by omega
            go_wp2
            go_ret
            exact ⟨rfl, HX.out⟩
        · have k2q' : ¬ k2 - q = 0 := by omega
          go_quiet (fail)
          go_wp2_with fail
          go_loopw [39] (fun iv wr => iv = .int .i64 0 ∧ Hid (Ext w wr)) (fun _ _ => 0)
          case atStart => exact ⟨rfl, Lib.hid (HX5.out _)⟩
          case round =>
            obtain ⟨rfl, HX⟩ := hrel
            have h00 : ¬ (0 : Int) < 0 := by omega
            go_wp2
            go_ret
            exact ⟨rfl, HX.out⟩
theorem sCommon (h : SetIs B s N w) (i j : Int) : Calls Tryd.prog 34 #[.pointer (some ⟨s, 0, none⟩), .int .i64 i, .int .i64 j] w fun e w' => e = .returned (.int .i64 (commonZ N i j)) ∧ Ext w w' := by
  unfold commonZ
  rcases in_cases N i with ⟨a, rfl, ha⟩ | hi
  · rcases in_cases N j with ⟨b, rfl, hb⟩ | hj
    · rw [inN_nat ha, inN_nat hb]
      obtain ⟨c, h1, -⟩ := h.ok.common_ab ha hb
      obtain ⟨m, g, c2, D, ns, h2⟩ := h.get
      have h3 := common_in h2 h.ok h.n72 a b ha hb c h1
      simp only [Int.toNat_natCast, h1]
      exact h3
    · rw [inN_nat ha, inN_no hj]
      exact common_none (h.ups_in a ha) (h.ups_out j hj) (.inr rfl)
  · rw [inN_no hi]
    rcases in_cases N j with ⟨b, rfl, hb⟩ | hj
    · exact common_none (h.ups_out i hi) (h.ups_in b hb) (.inl rfl)
    · exact common_none (h.ups_out i hi) (h.ups_out j hj) (.inl rfl)
end
end Go.Proofs.YtkkfkjjmmdpafaaDoor
namespace Go.Proofs.YtkkfkjjmmdpafaaDoor
open Go.RowKit
set_option linter.unusedVariables false

def kA : Kl := ⟨⟨#[65]⟩, nObj, false, []⟩
def kB : Kl := ⟨⟨#[66]⟩, ⟨#[65]⟩, false, [⟨#[73]⟩]⟩
def kI : Kl := ⟨⟨#[73]⟩, nObj, true, []⟩
def kJ : Kl := ⟨⟨#[74]⟩, nObj, true, [⟨#[73]⟩]⟩
def chapK : List Kl := [kJ, kB, kA, kI]
theorem chap_none : newF chapK = none := by decide +kernel
theorem chap_len : (setZ nlt chapK).length = 12 := by decide +kernel
theorem chap_fA : findZ (setZ nlt chapK) ⟨#[65]⟩ = 8 := by decide +kernel
theorem chap_fJ : findZ (setZ nlt chapK) ⟨#[74]⟩ = 11 := by decide +kernel
theorem chap_n9 : nameZ (setZ nlt chapK) 9 = ⟨#[66]⟩ := by decide +kernel
theorem chap_a9 : aboveZ (setZ nlt chapK) 9 = [9, 8, 0, 10] := by decide +kernel
theorem chap_a11 : aboveZ (setZ nlt chapK) 11 = [11, 0, 10] := by decide +kernel
theorem chap_c1 : commonZ (setZ nlt chapK) 9 8 = 8 := by decide +kernel
theorem chap_c2 : commonZ (setZ nlt chapK) 9 11 = 0 := by decide +kernel
theorem chap_b1 : belowZ (setZ nlt chapK) 9 10 = true := by decide +kernel
theorem chap_b2 : belowZ (setZ nlt chapK) 10 9 = false := by decide +kernel
def ringK : List Kl := [⟨⟨#[65]⟩, ⟨#[66]⟩, false, []⟩, ⟨⟨#[66]⟩, ⟨#[65]⟩, false, []⟩]
theorem ringK_is : newF ringK = some (⟨#[65]⟩, 91) := by decide +kernel
theorem Shp.Own.block {α : Type} (S : Shp α) {B g : Nat} {w : World} {cs : Array Value} {l : List α} {n : Nat} (hn : l.length = n) (hB : B ≤ g) (h : w.heap[g]? = some (.cells cs S.T (0, 0))) (hl : n ≤ maxLen) (hc : cs.toList = l.flatMap fun x => (S.vals x).toList) (hx : ∀ x ∈ l, S.nestO B w x) : S.Own B w (.slice (some ⟨g, 0, none⟩) n n) l := by
  have hs : cs.size = l.length * S.n := by rw [← S.flat_len l, ← hc, Array.length_toList]
  refine ⟨⟨by rw [S.flat_len], .inr ⟨g, n, cs, by rw [hn], hB, h, by rw [hn]; exact Nat.le_refl _, hl, by rw [hs, hn], ?_⟩⟩, hx⟩
  rw [hc, List.take_of_length_le (by rw [S.flat_len]; exact Nat.le_refl _)]
theorem Shp.Own.nilK {B : Nat} {w : World} : ShS.Own B w sl0.v [] := Shp.Own.nil _ _ _
def chapCells (h : Nat) : Array Value := #[.slice none 0 0, .string ⟨#[74]⟩, .string ⟨#[79, 98, 106, 101, 99, 116]⟩, .bool true, .slice (some ⟨h, 0, none⟩) 1 1, .slice none 0 0, .slice none 0 0, .slice none 0 0, .string ⟨#[66]⟩, .string ⟨#[65]⟩, .bool false, .slice (some ⟨h + 1, 0, none⟩) 1 1, .slice none 0 0, .slice none 0 0, .slice none 0 0, .string ⟨#[65]⟩, .string ⟨#[79, 98, 106, 101, 99, 116]⟩, .bool false, .slice none 0 0, .slice none 0 0, .slice none 0 0, .slice none 0 0, .string ⟨#[73]⟩, .string ⟨#[79, 98, 106, 101, 99, 116]⟩, .bool true, .slice none 0 0, .slice none 0 0, .slice none 0 0]
set_option maxRecDepth 100000 in
theorem chapter_any (w : World) : Calls Tryd.prog 47 #[] w fun e w' => ∃ v L, e = .returned v ∧ ShK.Own w.heap.size w' v L ∧ L.map (·.k) = chapK ∧ (∀ x ∈ L, NilK x) ∧ Ext w w' := by
  obtain ⟨W, hW⟩ : ∃ W, (((w.alloc (.cells #[.string ⟨#[73]⟩] 9)).alloc (.cells #[.string ⟨#[73]⟩] 9)).alloc (.cells #[.slice none 0 0, .string ⟨#[74]⟩, .string ⟨#[79, 98, 106, 101, 99, 116]⟩, .bool true, .slice (some ⟨w.heap.size, 0, none⟩) 1 1, .slice none 0 0, .slice none 0 0, .slice none 0 0, .string ⟨#[66]⟩, .string ⟨#[65]⟩, .bool false, .slice (some ⟨w.heap.size + 1, 0, none⟩) 1 1, .slice none 0 0, .slice none 0 0, .slice none 0 0, .string ⟨#[65]⟩, .string ⟨#[79, 98, 106, 101, 99, 116]⟩, .bool false, .slice none 0 0, .slice none 0 0, .slice none 0 0, .slice none 0 0, .string ⟨#[73]⟩, .string ⟨#[79, 98, 106, 101, 99, 116]⟩, .bool true, .slice none 0 0, .slice none 0 0, .slice none 0 0] 36)) = W := ⟨_, rfl⟩
  have HX : Hid (Ext w W) := Lib.hid (by rw [← hW]; exact (((Ext.refl w).alloc _).alloc _).alloc _)
  have HE : Hid (ShK.Own w.heap.size W (.slice (some ⟨w.heap.size + 1 + 1, 0, none⟩) 4 4) [⟨kJ, sl0, ⟨some ⟨w.heap.size, 0, none⟩, 1, 1⟩, sl0, sl0⟩, ⟨kB, sl0, ⟨some ⟨w.heap.size + 1, 0, none⟩, 1, 1⟩, sl0, sl0⟩, ⟨kA, sl0, sl0, sl0, sl0⟩, ⟨kI, sl0, sl0, sl0, sl0⟩]) := Lib.hid (by
    have h0 : W.heap[w.heap.size]? = some (.cells #[.string ⟨#[73]⟩] 9 (0, 0)) := by
      rw [← hW, heap_alloc_old _ _ (by simp; omega), heap_alloc_old _ _ (by simp)]
      exact heap_alloc_new w _
    have h1 : W.heap[w.heap.size + 1]? = some (.cells #[.string ⟨#[73]⟩] 9 (0, 0)) := by
      rw [← hW, heap_alloc_old _ _ (by simp)]
      have := heap_alloc_new (w.alloc (.cells #[.string ⟨#[73]⟩] 9)) (.cells #[.string ⟨#[73]⟩] 9)
      simpa using this
    refine Shp.Own.block ShK (cs := chapCells w.heap.size) rfl (by omega) (by
      rw [← hW, show #[.slice none 0 0, .string ⟨#[74]⟩, .string ⟨#[79, 98, 106, 101, 99, 116]⟩, .bool true, .slice (some ⟨w.heap.size, 0, none⟩) 1 1, .slice none 0 0, .slice none 0 0, .slice none 0 0, .string ⟨#[66]⟩, .string ⟨#[65]⟩, .bool false, .slice (some ⟨w.heap.size + 1, 0, none⟩) 1 1, .slice none 0 0, .slice none 0 0, .slice none 0 0, .string ⟨#[65]⟩, .string ⟨#[79, 98, 106, 101, 99, 116]⟩, .bool false, .slice none 0 0, .slice none 0 0, .slice none 0 0, .slice none 0 0, .string ⟨#[73]⟩, .string ⟨#[79, 98, 106, 101, 99, 116]⟩, .bool true, .slice none 0 0, .slice none 0 0, .slice none 0 0] = chapCells w.heap.size from rfl, show 36 = ShK.T from rfl]
      have := heap_alloc_new ((w.alloc (.cells #[.string ⟨#[73]⟩] 9)).alloc (.cells #[.string ⟨#[73]⟩] 9)) (.cells (chapCells w.heap.size) ShK.T)
      simpa using this) (by simp [maxLen]) rfl ?_
    intro x hx
    simp only [List.mem_cons, List.not_mem_nil, or_false] at hx
    rcases hx with rfl | rfl | rfl | rfl
    · exact Shp.Own.block ShS rfl (Nat.le_refl _) h0 (by simp [maxLen]) rfl (fun _ _ => trivial)
    · exact Shp.Own.block ShS rfl (by omega) h1 (by simp [maxLen]) rfl (fun _ _ => trivial)
    · exact Shp.Own.nilK
    · exact Shp.Own.nilK)
  go_enter Tryd.func47, Tryd.ntmps47
  go_wp2
  go_ret
  refine ⟨_, _, rfl, HE.out, rfl, fun x hx => ?_, HX.out⟩
  simp only [List.mem_cons, List.not_mem_nil, or_false] at hx
  rcases hx with rfl | rfl | rfl | rfl <;> exact ⟨rfl, rfl, rfl⟩
theorem chap_ok : ∀ k ∈ chapK, KOk k := by
  intro k hk
  simp only [chapK, List.mem_cons, List.not_mem_nil, or_false] at hk
  rcases hk with rfl | rfl | rfl | rfl <;> exact ⟨by decide, by decide, by decide, by decide⟩
theorem ring_ok : ∀ k ∈ ringK, KOk k := by
  intro k hk
  simp only [ringK, List.mem_cons, List.not_mem_nil, or_false] at hk
  rcases hk with rfl | rfl <;> exact ⟨by decide, by decide, by decide, by decide⟩
def failsZ (K : List Kl) (nm : ByteArray) (er : Int) : Bool := match newF K with
  | some (nm', er') => (nm'.toList == nm.toList) && (er' == er)
  | none => false
set_option maxRecDepth 100000 in
theorem fails_any {w : World} {v : Value} {L : List KlV} (hb : Blt w) (h : ShK.Row w v L) (hl : L.length * 136 ≤ 140737488351232) (hz : ∀ k ∈ L.map (·.k), KOk k) (hnil : ∀ x ∈ L, NilK x) (nm : ByteArray) (er : Int) :
    Calls Tryd.prog 48 #[.string nm, .int .i64 er, v] w fun e w' => e = .returned (.bool (failsZ (L.map (·.k)) nm er)) ∧ Ext w w' := by
  have HN := Lib.hid (newH_any hb h hl hz hnil)
  obtain ⟨A, c, rfl, -⟩ := h.cut
  obtain ⟨K, hK⟩ : ∃ K, L.map (·.k) = K := ⟨_, rfl⟩
  obtain ⟨n, hn⟩ : ∃ n, L.length = n := ⟨_, rfl⟩
  rw [hK, hn] at HN
  obtain ⟨Z, hZ⟩ : ∃ Z, failsZ (L.map (·.k)) nm er = Z := ⟨_, rfl⟩
  have HZ := Lib.hid hZ
  rw [hZ, hn]
  rw [hK] at HZ
  clear hZ
  clear h hl hz hnil hb hK hn
  go_enter Tryd.func48, Tryd.ntmps48
  go_wp2_with fail
  refine HN.out.mono ?_
  rintro e w1 ⟨x1, hr⟩
  have HX := Lib.hid x1
  clear x1 HN
  rcases hr with ⟨nm', er', hf, rfl⟩ | ⟨hf, s, rfl, -⟩
  · have hz : Z = ((nm'.toList == nm.toList) && (er' == er)) := by rw [← HZ.out]; unfold failsZ; rw [hf]
    subst hz
    clear hf HZ
    obtain ⟨b1, hb1⟩ : ∃ b1, (nm'.toList == nm.toList) = b1 := ⟨_, rfl⟩
    obtain ⟨b2, hb2⟩ : ∃ b2, (er' == er) = b2 := ⟨_, rfl⟩
    cases b1
    · go_wp2
      go_ret
      exact ⟨by simp_all, HX.out⟩
    · go_wp2
      go_ret
      exact ⟨by simp_all, HX.out⟩
  · have hz : Z = false := by rw [← HZ.out]; unfold failsZ; rw [hf]
    subst hz
    clear hf HZ
    go_wp2
    go_ret
    exact ⟨rfl, HX.out⟩
theorem ring_fails : failsZ ringK ⟨#[65]⟩ 91 = true := by
  unfold failsZ
  rw [ringK_is]
  simp
def ringCells : Array Value := #[.slice none 0 0, .string ⟨#[65]⟩, .string ⟨#[66]⟩, .bool false, .slice none 0 0, .slice none 0 0, .slice none 0 0, .slice none 0 0, .string ⟨#[66]⟩, .string ⟨#[65]⟩, .bool false, .slice none 0 0, .slice none 0 0, .slice none 0 0]
theorem ring_own (w : World) : ShK.Own w.heap.size (w.alloc (.cells ringCells 36)) (.slice (some ⟨w.heap.size, 0, none⟩) 2 2) [⟨⟨⟨#[65]⟩, ⟨#[66]⟩, false, []⟩, sl0, sl0, sl0, sl0⟩, ⟨⟨⟨#[66]⟩, ⟨#[65]⟩, false, []⟩, sl0, sl0, sl0, sl0⟩] := by
  refine Shp.Own.block ShK (cs := ringCells) rfl (Nat.le_refl _) (heap_alloc_new w _) (by simp [maxLen]) rfl ?_
  intro x hx
  simp only [List.mem_cons, List.not_mem_nil, or_false] at hx
  rcases hx with rfl | rfl <;> exact Shp.Own.nilK
theorem fit_a9 : Fit .i64 [9, 8, 0, 10] := fun x hx => by
  simp only [List.mem_cons, List.not_mem_nil, or_false] at hx
  rcases hx with rfl | rfl | rfl | rfl <;> decide
theorem fit_a11 : Fit .i64 [11, 0, 10] := fun x hx => by
  simp only [List.mem_cons, List.not_mem_nil, or_false] at hx
  rcases hx with rfl | rfl | rfl <;> decide
set_option maxRecDepth 100000 in
set_option maxHeartbeats 4000000 in
theorem awake_any (w : World) (hb : Blt w) : Calls Tryd.prog 14 #[] w fun e w' => e = .returned (.bool true) ∧ Ext w w' := by
  have HB := Lib.hid hb
  clear hb
  go_enter Tryd.func14, Tryd.ntmps14
  go_wp2_with fail
  refine (chapter_any w).mono ?_
  rintro e w1 ⟨v, L, rfl, ho, hk, hnil, x1⟩
  have hL : L.length * 136 ≤ 140737488351232 := by
    have := congrArg List.length hk
    rw [List.length_map] at this
    rw [this]
    decide
  have HN := Lib.hid (newH_any (HB.out.ext x1) ho.row hL (by rw [hk]; exact chap_ok) hnil)
  rw [hk] at HN
  have HX1 := Lib.hid x1
  clear ho hk hnil x1 hL
  go_wp2_with fail
  refine HN.out.mono ?_
  rintro e w2 ⟨x2, hr⟩
  rcases hr with ⟨nm', er', hf, -⟩ | ⟨-, s, rfl, hs⟩
  · rw [chap_none] at hf
    cases hf
  have HX2 := Lib.hid (HX1.out.trans x2)
  have HS := Lib.hid hs
  clear HN hs x2 HX1
  have HLE := Lib.hid (fun W (e : Ext w2 W) => sLen (HS.out.ext e))
  rw [chap_len] at HLE
  go_wp2_with fail
  refine (HLE.out _ (Ext.refl _)).mono ?_
  rintro e w3 ⟨rfl, rfl⟩
  have n1 := sNumber HS.out ⟨#[65]⟩ (by decide)
  have n2 := sNumber HS.out ⟨#[74]⟩ (by decide)
  rw [chap_fA] at n1
  rw [chap_fJ] at n2
  simp only [show ¬ (8 : Int) < 0 by decide, show ¬ (11 : Int) < 0 by decide, if_false, show decide ((0 : Int) ≤ 8) = true by decide, show decide ((0 : Int) ≤ 11) = true by decide] at n1 n2
  have N1 := Lib.hid n1
  have N2 := Lib.hid n2
  have N3 := Lib.hid (fun W (e : Ext w3 W) => sName (HS.out.ext e) 9)
  rw [chap_n9] at N3
  have N4 := Lib.hid (fun W (e : Ext w3 W) => sAbove (HS.out.ext e) 9)
  rw [chap_a9] at N4
  have N5 := Lib.hid (fun W (e : Ext w3 W) => sAbove (HS.out.ext e) 11)
  rw [chap_a11] at N5
  have N6 := Lib.hid (fun W (e : Ext w3 W) => sCommon (HS.out.ext e) 9 8)
  rw [chap_c1] at N6
  have N7 := Lib.hid (fun W (e : Ext w3 W) => sCommon (HS.out.ext e) 9 11)
  rw [chap_c2] at N7
  have N8 := Lib.hid (fun W (e : Ext w3 W) => sBelow (HS.out.ext e) 9 10)
  rw [chap_b1] at N8
  have N9 := Lib.hid (fun W (e : Ext w3 W) => sBelow (HS.out.ext e) 10 9)
  rw [chap_b2] at N9
  clear n1 n2 HLE
  go_wp2_with fail
  refine N1.out.mono ?_
  rintro e w4 ⟨rfl, rfl⟩
  go_wp2_with fail
  refine N2.out.mono ?_
  rintro e w5 ⟨rfl, rfl⟩
  go_wp2_with fail
  refine (N3.out _ (Ext.refl _)).mono ?_
  rintro e w6 ⟨rfl, x6⟩
  have X6 := Lib.hid x6
  clear x6
  go_wp2_with fail
  refine (N4.out _ X6.out).mono ?_
  rintro e w7 ⟨v7, rfl, o7, x7⟩
  have X7 := Lib.hid ((X6.out.trans x7).alloc (.cells #[.int .i64 9, .int .i64 8, .int .i64 0, .int .i64 10] 3))
  have E7 := Lib.hid (fun u1 h1 => eqInts_any u1 _ [9, 8, 0, 10] [9, 8, 0, 10] (w7.alloc (.cells #[.int .i64 9, .int .i64 8, .int .i64 0, .int .i64 10] 3)) h1 (Row.built w7 .i64 3 [9, 8, 0, 10] fit_a9 (by decide)))
  have R7 := Lib.hid (o7.row.ext ((Ext.refl w7).alloc (.cells #[.int .i64 9, .int .i64 8, .int .i64 0, .int .i64 10] 3)))
  clear o7 x7
  go_wp2_with fail
  refine (E7.out _ R7.out).mono ?_
  rintro e w8 ⟨rfl, m8, rfl⟩
  have X8 := Lib.hid (X7.out.drewN m8)
  clear E7 R7
  simp only [decide_true]
  obtain ⟨w8, hw8⟩ : ∃ w8, (w7.alloc (.cells #[.int .i64 9, .int .i64 8, .int .i64 0, .int .i64 10] 3)).drewN m8 = w8 := ⟨_, rfl⟩
  rw [hw8] at X8 ⊢
  clear hw8
  go_wp2_with fail
  refine (N5.out _ X8.out).mono ?_
  rintro e w9 ⟨v9, rfl, o9, x9⟩
  have X9 := Lib.hid ((X8.out.trans x9).alloc (.cells #[.int .i64 11, .int .i64 0, .int .i64 10] 3))
  have E9 := Lib.hid (fun u1 h1 => eqInts_any u1 _ [11, 0, 10] [11, 0, 10] (w9.alloc (.cells #[.int .i64 11, .int .i64 0, .int .i64 10] 3)) h1 (Row.built w9 .i64 3 [11, 0, 10] fit_a11 (by decide)))
  have R9 := Lib.hid (o9.row.ext ((Ext.refl w9).alloc (.cells #[.int .i64 11, .int .i64 0, .int .i64 10] 3)))
  clear o9 x9
  go_wp2_with fail
  refine (E9.out _ R9.out).mono ?_
  rintro e w10 ⟨rfl, m10, rfl⟩
  have X10 := Lib.hid (X9.out.drewN m10)
  clear E9 R9
  simp only [decide_true]
  obtain ⟨w10, hw10⟩ : ∃ w10, (w9.alloc (.cells #[.int .i64 11, .int .i64 0, .int .i64 10] 3)).drewN m10 = w10 := ⟨_, rfl⟩
  rw [hw10] at X10 ⊢
  clear hw10
  go_wp2_with fail
  refine (N6.out _ X10.out).mono ?_
  rintro e w11 ⟨rfl, x11⟩
  have X11 := Lib.hid (X10.out.trans x11)
  clear x11
  go_wp2_with fail
  refine (N7.out _ X11.out).mono ?_
  rintro e w12 ⟨rfl, x12⟩
  have X12 := Lib.hid (X11.out.trans x12)
  clear x12
  go_wp2_with fail
  refine (N8.out _ X12.out).mono ?_
  rintro e w13 ⟨rfl, x13⟩
  have X13 := Lib.hid (X12.out.trans x13)
  clear x13
  go_wp2_with fail
  refine (N9.out _ X13.out).mono ?_
  rintro e w14 ⟨rfl, x14⟩
  have X14 := Lib.hid (HX2.out.trans (X13.out.trans x14))
  clear x14
  have hf := fails_any (w := w14.alloc (.cells ringCells 36)) (HB.out.ext (X14.out.alloc _)) (ring_own w14).row (by decide) ring_ok (fun x hx => by
    simp only [List.mem_cons, List.not_mem_nil, or_false] at hx
    rcases hx with rfl | rfl <;> exact ⟨rfl, rfl, rfl⟩) ⟨#[65]⟩ 91
  have hf := hf.mono (R' := fun e w' => e = .returned (.bool true) ∧ Ext (w14.alloc (.cells ringCells 36)) w') fun e w' ⟨h1, h2⟩ => ⟨h1.trans (congrArg (fun b => Ending.returned (.bool b)) ring_fails), h2⟩
  unfold ringCells at hf
  have HF := Lib.hid hf
  clear hf
  go_wp2_with fail
  refine HF.out.mono ?_
  rintro e w15 ⟨rfl, x15⟩
  have X15 := Lib.hid ((X14.out.alloc _).trans x15)
  go_wp2
  go_ret
  exact ⟨rfl, X15.out⟩
end Go.Proofs.YtkkfkjjmmdpafaaDoor
namespace Go.Proofs.YtkkfkjjmmdpafaaDoor
open Go.RowKit Go.Maps Go.WideMaps
set_option linter.unusedVariables false

theorem baL (s : ByteArray) : s.toList = s.data.toList := ByteArray.toList_mk s.data.toList
theorem ba_inj {s t : ByteArray} (h : s.toList = t.toList) : s = t := by
  rw [baL, baL] at h
  obtain ⟨⟨a⟩⟩ := s
  obtain ⟨⟨b⟩⟩ := t
  simp at h
  rw [h]
theorem ba_ne {s t : ByteArray} (h : ¬ s = t) : (s.toList == t.toList) = false := by
  rw [beq_eq_false_iff_ne]
  exact fun e => h (ba_inj e)
theorem ba_ne' {s t : ByteArray} (h : ¬ s = t) : ¬ s.toList = t.toList := fun e => h (ba_inj e)
section
variable {B s : Nat} {N : List Kl} {w : World}
end
end Go.Proofs.YtkkfkjjmmdpafaaDoor
namespace Go.Proofs.YtkkfkjjmmdpafaaDoor
open Go.RowKit
set_option linter.unusedVariables false

theorem find_first {N : List Kl} {k : Nat} {nm : ByteArray} (hk : k < N.length) (h : (gk N k).nm = nm) (hn : ∀ j, j < k → ¬ (gk N j).nm = nm) : findZ N nm = k := by
  rcases findZ_cases N nm with ⟨-, h2⟩ | ⟨j, h1, h2, ⟨y, h3, h4⟩, h5⟩
  · have := h2 (gk N k) (by unfold gk; rw [List.getD_eq_getElem?_getD, List.getElem?_eq_getElem hk]; exact List.getElem_mem hk)
    exact absurd h this
  · have hj : (gk N j).nm = nm := by unfold gk; rw [List.getD_eq_getElem?_getD, h3]; exact h4
    have h6 : ¬ j < k := fun h => hn j h hj
    have h7 : ¬ k < j := fun hlt => h5 k (gk N k) hlt (by unfold gk; rw [List.getD_eq_getElem?_getD, List.getElem?_eq_getElem hk]; rfl) h
    rw [h2]
    omega
theorem find_none {N : List Kl} {nm : ByteArray} (hn : ∀ j, j < N.length → ¬ (gk N j).nm = nm) : findZ N nm = -1 := by
  rcases findZ_cases N nm with ⟨h1, -⟩ | ⟨j, h1, h2, ⟨y, h3, h4⟩, h5⟩
  · exact h1
  · exact absurd (by unfold gk; rw [List.getD_eq_getElem?_getD, h3]; exact h4) (hn j h1)
theorem rowK_at {w : World} {A : Option Addr} {n c : Nat} {L : List KlV} (h : ShK.Row w (.slice A n c) L) (hl : 0 < L.length) : ∃ b o, A = some ⟨b, o, none⟩ ∧ ∀ W, Ext w W → ∀ (k : Nat) (y : KlV), L[k]? = some y → AtK W b (o + k * 7) y ∧ NestK W y := by
  obtain ⟨b, o, hA, hat⟩ := h.at hl
  refine ⟨b, o, hA, fun W e k y hy => ?_⟩
  have hk := (List.getElem?_eq_some_iff.1 hy).1
  have h := hat W e k hk
  rw [show ShK.el L k = y by rw [ShK.el_get hk]; exact (List.getElem?_eq_some_iff.1 hy).2, show ShK.n = 7 from rfl] at h
  exact ⟨AtK.of h.1, h.2⟩
theorem gk_map {L : List KlV} {k : Nat} {y : KlV} (hy : L[k]? = some y) : gk (L.map (·.k)) k = y.k := by
  unfold gk
  rw [List.getD_eq_getElem?_getD, List.getElem?_map, hy]
  rfl
set_option maxRecDepth 100000 in
theorem rfind_any {w : World} {v : Value} {L : List KlV} (h : ShK.Row w v L) (hl : L.length * 136 ≤ 140737488351232) (nm : ByteArray) : Calls Tryd.prog 45 #[v, .string nm] w fun e w' => e = .returned (.int .i64 (findZ (L.map (·.k)) nm)) ∧ w' = w := by
  obtain ⟨A, c, rfl, hc, hm, -⟩ := h.cut
  have HR := Lib.hid h
  obtain ⟨n, hn⟩ : ∃ n, L.length = n := ⟨_, rfl⟩
  have HN := Lib.hid hn
  rw [hn] at hc HR hl ⊢
  unfold maxLen at hm
  obtain ⟨f, hf⟩ : ∃ f, findZ (L.map (·.k)) nm = f := ⟨_, rfl⟩
  have HF := Lib.hid hf
  rw [hf]
  clear h hn hf
  go_enter Tryd.func45, Tryd.ntmps45
  go_wp2_with fail
  go_loopw [5] (fun iv wr => ∃ k : Nat, iv = .int .i64 k ∧ k ≤ n ∧ wr = w ∧ Hid (∀ j, j < k → ¬ (gk (L.map (·.k)) j).nm = nm)) (fun iv _ => n - (intOf iv).toNat)
  case atStart => exact ⟨0, rfl, by omega, rfl, Lib.hid (fun j h => by omega)⟩
  case round =>
    obtain ⟨k, rfl, hk, rfl, HJ⟩ := hrel
    rename World => wr
    by_cases hlt : k < n
    · have hltz : (k : Int) < (n : Int) := by omega
      have hkl : k < L.length := by have := HN.out; omega
      obtain ⟨b, o, rfl, hat⟩ := rowK_at HR.out (by omega)
      obtain ⟨y, hy⟩ : ∃ y, L[k]? = some y := ⟨L[k], List.getElem?_eq_getElem hkl⟩
      obtain ⟨⟨-, y1, -⟩, -⟩ := hat wr (Ext.refl wr) k y hy
      have HG := Lib.hid (gk_map hy)
      clear hat hy
      by_cases hs : y.k.nm = nm
      · have hfk : f = k := by rw [← HF.out]; exact find_first (by rw [List.length_map]; exact hkl) (by rw [HG.out]; exact hs) HJ.out
        subst hfk
        rw [hs] at y1
        clear hs hkl
        go_wp2
        go_ret
        exact ⟨rfl, rfl⟩
      · have q1 := ba_ne' hs
        have q2 := ba_ne hs
        have HJ2 : Hid (∀ j, j < k + 1 → ¬ (gk (L.map (·.k)) j).nm = nm) := Lib.hid fun j hj => by
          by_cases e : j = k
          · rw [e, HG.out]; exact hs
          · exact HJ.out j (by omega)
        clear hs hkl
        go_wp2_with fail
        go_roundw
        case rel => exact ⟨k + 1, by go_num, by omega, by first | rfl | trivial, HJ2⟩
        case measure => first | (simp [intOf]; omega) | simp [intOf]
    · have hltz : ¬ (k : Int) < (n : Int) := by omega
      have hfk : f = -1 := by rw [← HF.out]; exact find_none (fun j hj => HJ.out j (by rw [List.length_map, HN.out] at hj; omega))
      subst hfk
      go_wp2
      go_ret
      exact ⟨rfl, rfl⟩
end Go.Proofs.YtkkfkjjmmdpafaaDoor
