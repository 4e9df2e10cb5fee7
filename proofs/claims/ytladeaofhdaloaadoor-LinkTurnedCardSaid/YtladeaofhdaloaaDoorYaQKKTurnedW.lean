/- LinkTurned, walked. -/
import Derived.Test.YtladeaofhdaloaaDoorYaQ
import Derived.Test.YtladeaofhdaloaaDoorYaL
import Derived.Test.YtladeaofhdaloaaDoorYaQLkTy
import Derived.BigQuiet
namespace Go.Proofs.YtladeaofhdaloaaDoor
open Go.RowKit
set_option linter.unusedVariables false

theorem newF_turned {K : List Kl} (hd : ∀ i k, k < i → i < K.length → ¬ (gk K i).nm = (gk K k).nm) : newF K.reverse = newF K ∧ setZ nlt K.reverse = setZ nlt K := by
  have hp : K.Pairwise (fun a b => nlt a.nm b.nm = true ∨ nlt b.nm a.nm = true) := by
    rw [List.pairwise_iff_getElem]
    intro i j hi hj hij
    have h1 := hd j i hij hj
    have e1 : gk K i = K[i] := by unfold gk; rw [List.getD_eq_getElem?_getD, List.getElem?_eq_getElem hi]; rfl
    have e2 : gk K j = K[j] := by unfold gk; rw [List.getD_eq_getElem?_getD, List.getElem?_eq_getElem hj]; rfl
    rw [e1, e2] at h1
    cases a : nlt K[i].nm K[j].nm
    · cases b : nlt K[j].nm K[i].nm
      · exact absurd (nlt_tot a b).symm h1
      · exact .inr rfl
    · exact .inl rfl
  have hs : setZ nlt K.reverse = setZ nlt K := by
    unfold setZ
    rw [sortZ_turned (f := fun a b : Kl => nlt a.nm b.nm) ⟨fun a => nlt_irr _, fun a b d h1 h2 => bl_tr _ _ _ h1 h2, fun a b d h1 h2 => nlt_ntr h1 h2⟩ (List.reverse_perm K).symm hp]
  refine ⟨?_, hs⟩
  unfold newF
  rw [hs, List.length_reverse]
theorem rowKW' {W0 w : World} {v : Value} {l : List KlV} (h : (ShKW W0).Row w v l) (e : Ext W0 w) : ShK.Row w v l := by
  obtain ⟨A, c, h1, h2, h3, h4, h6, h7⟩ := h
  exact ⟨A, c, h1, h2, h3, h4, h6, fun x hx => Shp.Row.ext (h7 x hx) e⟩
theorem rev_take {l : List KlV} {i j n : Nat} {x : KlV} (hn : l.length = n) (hij : i + 1 + j = n) (hx : l[i]? = some x) : l.reverse.take (j + 1) = l.reverse.take j ++ [x] := by
  have h : l.reverse[j]? = some x := by
    rw [List.getElem?_reverse (by omega)]
    rw [show l.length - 1 - j = i by omega]
    exact hx
  rw [List.take_add_one, h]
  rfl
set_option maxRecDepth 100000 in
theorem len_nil (w : World) : Calls Tryd.prog 15 #[.pointer none] w fun e w' => e = .returned (.int .i64 0) ∧ w' = w := by
  go_enter Tryd.func15, Tryd.ntmps15
  go_wp2
  go_ret
  exact ⟨rfl, rfl⟩
set_option maxRecDepth 100000 in
set_option maxHeartbeats 4000000 in
theorem linkTurned_walk (w : World) (hB : Blt w) (v : Value) (l : List KlV) (h : ShK.Row w v l) (hl : l.length * 136 ≤ 140737488351232) (hk : ∀ x ∈ l, KlOk x) :
    Calls Tryd.prog 9 #[v] w fun e w' => e = .returned (.bool true) ∧ Ext w w' := by
  have HB := Lib.hid hB
  have HH := Lib.hid (fun W (e : Ext w W) => heads_any (h.ext e) hl hk)
  have HK := Lib.hid hk
  have HL := Lib.hid hl
  obtain ⟨A, cp, rfl, -⟩ := h.cut
  have HR := Lib.hid h
  have HAW := Lib.hid (fun W (e : Ext w W) => awake_any W (hB.ext e))
  obtain ⟨n, hn⟩ : ∃ n, l.length = n := ⟨_, rfl⟩
  have HN := Lib.hid hn
  rw [hn] at HH HR ⊢
  obtain ⟨K, hK⟩ : ∃ K, l.map (·.k) = K := ⟨_, rfl⟩
  rw [hK] at HH
  have HKL := Lib.hid hK
  clear h hl hk hB hn hK
  have hcl : n ≤ 140737488351232 := by have := HN.out; have := HL.out; omega
  have hn136 : n * 136 ≤ 140737488351232 := by have := HL.out; rw [HN.out] at this; exact this
  obtain ⟨b0, hb0⟩ : ∃ b0, w.heap.size = b0 := ⟨_, rfl⟩
  have HB0 := Lib.hid hb0
  clear hb0
  go_enter Tryd.func9, Tryd.ntmps9
  go_wp2_with fail
  go_loopw [3, 4] (fun bv iv wr => ∃ (j : Nat) (iz : Int) (A' : Option Addr) (c' : Nat), iv = .int .i64 iz ∧ iz + 1 + j = n ∧ j ≤ n ∧ bv = .slice A' j c' ∧ Hid ((ShKW w).Own b0 wr (.slice A' j c') (l.reverse.take j)) ∧ Hid (∀ i k, n ≤ i + j → i < n → k < i → ¬ (gk K i).nm = (gk K k).nm) ∧ Hid (Ext w wr)) (fun _ iv _ => (intOf iv + 1).toNat)
  case atStart => exact ⟨0, _, none, 0, rfl, by omega, by omega, rfl, Lib.hid (by simpa using Shp.Own.nil _ _ _), Lib.hid (fun i k h1 h2 => by omega), Lib.hid (Ext.refl w)⟩
  case round =>
    obtain ⟨j, iz, A', c', rfl, hij, hjn, rfl, HO, HD, HX⟩ := hrel
    rename World => wr
    by_cases hneg : 0 ≤ iz
    · obtain ⟨i, rfl⟩ : ∃ i : Nat, iz = i := ⟨iz.toNat, by omega⟩
      have hin : (i : Int) < (n : Int) := by omega
      have hi0 : ¬ (i : Int) < 0 := by omega
      have hil : i < l.length := by have := HN.out; omega
      obtain ⟨b, o, hA, hat⟩ := HR.out.at (by have := HN.out; omega)
      subst hA
      obtain ⟨x, hx⟩ : ∃ x, l[i]? = some x := ⟨l[i], List.getElem?_eq_getElem hil⟩
      have HAT : Hid (∀ (W : World), Ext w W → ∀ (k : Nat) (y : KlV), l[k]? = some y → AtK W b (o + k * 7) y) := Lib.hid fun W e k y hy => by
        have hk := (List.getElem?_eq_some_iff.1 hy).1
        have h := (hat W e k hk).1
        rw [show ShK.el l k = y by rw [ShK.el_get hk]; exact (List.getElem?_eq_some_iff.1 hy).2, show ShK.n = 7 from rfl] at h
        exact AtK.of h
      have HGK : Hid (∀ (k : Nat) (y : KlV), l[k]? = some y → gk K k = y.k) := Lib.hid fun k y hy => by
        rw [← HKL.out]
        unfold gk
        rw [List.getD_eq_getElem?_getD, List.getElem?_map, hy]
        rfl
      have ha := HAT.out wr HX.out i x hx
      unfold AtK at ha
      obtain ⟨y0, y1, y2, y3, y4, y5, y6⟩ := ha
      have HNE : Hid (NestK w x) := Lib.hid (HR.out.low x (List.mem_of_getElem? hx))
      have HRT : Hid (l.reverse.take (j + 1) = l.reverse.take j ++ [x]) := Lib.hid (rev_take HN.out (by omega) hx)
      have HLJ : Hid ((l.reverse.take j).length = j) := Lib.hid (by rw [List.length_take, List.length_reverse, HN.out]; omega)
      have HX1 := Lib.hid hx
      have HRN : Hid ((ShKW w).Row (wr.alloc (.cells #[.slice x.vp.A x.vp.n x.vp.c, .string x.k.nm, .string x.k.sup, .bool x.k.inf, .slice x.vi.A x.vi.n x.vi.c, .slice x.vf.A x.vf.n x.vf.c, .slice x.vm.A x.vm.n x.vm.c] 36)) (.slice (some ⟨wr.heap.size, 0, none⟩) 1 1) [x]) := Lib.hid (Shp.Row.single (S := ShKW w) (T := 36) (heap_alloc_new wr _) HNE.out)
      have HO1 := Lib.hid (HO.out.ext ((Ext.refl wr).alloc (.cells #[.slice x.vp.A x.vp.n x.vp.c, .string x.k.nm, .string x.k.sup, .bool x.k.inf, .slice x.vi.A x.vi.n x.vi.c, .slice x.vf.A x.vf.n x.vf.c, .slice x.vm.A x.vm.n x.vm.c] 36)))
      have HBW : Hid (b0 ≤ (wr.alloc (.cells #[.slice x.vp.A x.vp.n x.vp.c, .string x.k.nm, .string x.k.sup, .bool x.k.inf, .slice x.vi.A x.vi.n x.vi.c, .slice x.vf.A x.vf.n x.vf.c, .slice x.vm.A x.vm.n x.vm.c] 36)).heap.size) := Lib.hid (by have := HX.out.size; have := HB0.out; simp; omega)
      have hj1 : (j + 1) * 136 ≤ 140737488355328 := by omega
      have HLOW := Lib.hid (fun g hg => HO.out.low g hg)
      clear hat hx hil HO
      go_wp2_with (at_builtin; go_loud (refine (ShKW w).wpList_app _ rfl _ _ b0 22 (.agg klv0.vals) 136 rfl Tryd.underlying22 infoK sizeK (by omega) _ (l.reverse.take j) rfl HO1.out _ [x] rfl HRN.out (fun e he => by rw [List.mem_singleton.1 he]; exact HNE.out) (by rw [HLJ.out]; exact hj1) HBW.out ?_); go_loud (intro v8 w8 o8 g8 b8); go_loud (clear b8); go_loud (rw [← HRT.out] at o8); go_loud (obtain ⟨A8, c8, e8, hc8, hm8⟩ := o8.slice); go_loud (have hl8 : (l.reverse.take (j + 1)).length = j + 1 := by (rw [HRT.out, List.length_append, HLJ.out, List.length_singleton])); go_loud (rw [hl8] at e8 hc8); go_loud (subst e8); go_loud (clear hl8); go_loud (have O8 := Lib.hid o8); go_loud (have X8 := Lib.hid ((HX.out.alloc (.cells #[.slice x.vp.A x.vp.n x.vp.c, .string x.k.nm, .string x.k.sup, .bool x.k.inf, .slice x.vi.A x.vi.n x.vi.c, .slice x.vf.A x.vf.n x.vf.c, .slice x.vm.A x.vm.n x.vm.c] 36)).grown g8 (fun g hg => by rw [HB0.out]; exact HLOW.out g hg))); go_loud (clear o8 g8))
      go_wp2_with fail
      go_loopw [5] (fun kv wq => ∃ k : Nat, kv = .int .i64 k ∧ k ≤ i ∧ Hid (∀ k', k' < k → ¬ (gk K i).nm = (gk K k').nm) ∧ Hid (Ext w8 wq)) (fun kv _ => i - (intOf kv).toNat)
      case atStart => exact ⟨0, rfl, by omega, Lib.hid (fun k' h => by omega), Lib.hid (Ext.refl _)⟩
      case round =>
        obtain ⟨k, rfl, hk, HK', HXq⟩ := hrel
        rename World => wq
        by_cases hlt : k < i
        · have hltz : (k : Int) < (i : Int) := by omega
          have hkn : (k : Int) < (n : Int) := by omega
          have hkl : k < l.length := by have := HN.out; omega
          obtain ⟨y, hy⟩ : ∃ y, l[k]? = some y := ⟨l[k], List.getElem?_eq_getElem hkl⟩
          have hax := HAT.out wq (X8.out.trans HXq.out) i x HX1.out
          have hay := HAT.out wq (X8.out.trans HXq.out) k y hy
          have p1 : wq.cell? ⟨b, o + i * 7 + 1, none⟩ = some (.string x.k.nm) := hax.2.1
          have p2 : wq.cell? ⟨b, o + k * 7 + 1, none⟩ = some (.string y.k.nm) := hay.2.1
          have HGX := Lib.hid (HGK.out i x HX1.out)
          have HGY := Lib.hid (HGK.out k y hy)
          have HXD : Hid (∀ m, Ext w (wq.drewN m)) := Lib.hid fun m => (X8.out.trans HXq.out).drewN m
          have HQD : Hid (∀ m, Ext w8 (wq.drewN m)) := Lib.hid fun m => HXq.out.drewN m
          obtain ⟨n1, hn1⟩ : ∃ n1, x.k.nm = n1 := ⟨_, rfl⟩
          obtain ⟨n2, hn2⟩ : ∃ n2, y.k.nm = n2 := ⟨_, rfl⟩
          rw [hn1] at p1
          rw [hn2] at p2
          have HN1 := Lib.hid hn1
          have HN2 := Lib.hid hn2
          clear hax hay hkl hy hn1 hn2 y0 y1 y2 y3 y4 y5 y6
          by_cases hs : n1 = n2
          · subst hs
            go_wp2_with fail
            go_quiet (fail)
            go_wp2_with fail
            refine (HAW.out _ (HXD.out _)).mono ?_
            rintro e w9 ⟨rfl, x9⟩
            go_wp2
            go_ret
            exact ⟨rfl, (HXD.out _).trans x9⟩
          · have q1 := ba_ne' hs
            have q2 := ba_ne hs
            have HK2 : Hid (∀ k', k' < k + 1 → ¬ (gk K i).nm = (gk K k').nm) := Lib.hid fun k' h => by
              by_cases e : k' = k
              · rw [e, HGX.out, HGY.out, HN1.out, HN2.out]; exact hs
              · exact HK'.out k' (by omega)
            clear hs
            go_wp2_with fail
            go_quiet (fail)
            go_wp2_with fail
            go_roundw
            case rel => exact ⟨k + 1, by go_num, by omega, HK2, Lib.hid (HQD.out _)⟩
            case measure => first | (simp [intOf]; omega) | simp [intOf]
        · have hltz : ¬ (k : Int) < (i : Int) := by omega
          have hki : k = i := by omega
          subst hki
          have HD2 : Hid (∀ i' k', n ≤ i' + (j + 1) → i' < n → k' < i' → ¬ (gk K i').nm = (gk K k').nm) := Lib.hid fun i' k' h1 h2 h3 => by
            by_cases e : i' = k
            · subst e; exact HK'.out k' h3
            · exact HD.out i' k' (by omega) h2 h3
          have O9 := Lib.hid (O8.out.ext HXq.out)
          have X9 := Lib.hid (X8.out.trans HXq.out)
          clear y0 y1 y2 y3 y4 y5 y6
          go_wp2_with fail
          go_roundw
          case rel => exact ⟨j + 1, (k : Int) - 1, A8, c8, by first | rfl | go_num, by omega, by omega, rfl, O9, HD2, X9⟩
          case measure => first | (simp [intOf]; omega) | simp [intOf]
    · have hjn2 : j = n := by omega
      subst hjn2
      have hizn : iz = -1 := by omega
      subst hizn
      have hrow := HO.out.row
      rw [List.take_of_length_le (by rw [List.length_reverse, HN.out]; exact Nat.le_refl _)] at hrow
      have HRB := Lib.hid (fun W (e : Ext wr W) => rowKW' (hrow.ext e) (HX.out.trans e))
      have htn := newF_turned (K := K) (fun i k h1 h2 => HD.out i k (by omega) (by rw [← HKL.out, List.length_map, HN.out] at h2; exact h2) h1)
      have HTN := Lib.hid htn
      have HKB : Hid (∀ y ∈ l.reverse, KlOk y) := Lib.hid fun y hy => HK.out y (List.mem_reverse.1 hy)
      have HLB : Hid (l.reverse.length = j) := Lib.hid (by rw [List.length_reverse, HN.out])
      clear hrow htn HO HD
      go_wp2_with fail
      refine (HH.out _ HX.out).mono ?_
      rintro e w1 ⟨A1, c1, L1, rfl, o1, k1, nl1, x1⟩
      have hlen1 : L1.length * 136 ≤ 140737488351232 := by
        have h1 := congrArg List.length k1
        rw [List.length_map] at h1
        rw [h1, ← HKL.out, List.length_map]
        exact HL.out
      have hnw := newH_any (HB.out.ext (HX.out.trans x1)) o1.row hlen1 (by rw [k1, ← HKL.out]; exact map_ok rfl HK.out) nl1
      rw [k1] at hnw
      have HNW := Lib.hid hnw
      have Y1 := Lib.hid x1
      clear hnw o1 k1 nl1 x1 hlen1
      go_wp2_with fail
      refine HNW.out.mono ?_
      rintro e w2 ⟨x2, hr⟩
      have Y2 := Lib.hid (Y1.out.trans x2)
      clear HNW x2 Y1
      have hh2 := heads_any (HRB.out w2 Y2.out) (by rw [HLB.out]; exact hn136) HKB.out
      rw [HLB.out, show l.reverse.map (·.k) = K.reverse by rw [List.map_reverse, HKL.out]] at hh2
      have HH2 := Lib.hid hh2
      clear hh2
      rcases hr with ⟨nm, er, hf, rfl⟩ | ⟨hf, s, rfl, hs⟩
      · have HF := Lib.hid hf
        have her := newF_err hf
        clear hf
        go_wp2_with fail
        refine HH2.out.mono ?_
        rintro e w3 ⟨A3, c3, L3, rfl, o3, k3, nl3, x3⟩
        have hlen3 : L3.length * 136 ≤ 140737488351232 := by
          have h1 := congrArg List.length k3
          rw [List.length_map] at h1
          rw [h1, List.length_reverse, ← HKL.out, List.length_map]
          exact HL.out
        have hnw := newH_any (HB.out.ext (HX.out.trans (Y2.out.trans x3))) o3.row hlen3 (by rw [k3, ← HKL.out, ← List.map_reverse]; exact map_ok rfl HKB.out) nl3
        rw [k3] at hnw
        have HNW := Lib.hid hnw
        have Y3 := Lib.hid (Y2.out.trans x3)
        clear hnw o3 k3 nl3 x3 hlen3
        go_wp2_with fail
        refine HNW.out.mono ?_
        rintro e w4 ⟨x4, hr⟩
        have Y4 := Lib.hid (HX.out.trans (Y3.out.trans x4))
        clear HNW x4 Y3 Y2
        rcases hr with ⟨nm2, er2, hf2, rfl⟩ | ⟨hf2, s2, rfl, hs2⟩
        · rw [HTN.out.1, HF.out] at hf2
          injection hf2 with hf2
          injection hf2 with e1 e2
          subst e1 e2
          go_wp2_with fail
          go_loopw [12] (fun iv wr => iv = .int .i64 0 ∧ Hid (Ext w4 wr)) (fun _ _ => 0)
          case atStart => exact ⟨rfl, Lib.hid (Ext.refl _)⟩
          case round =>
            obtain ⟨rfl, HXL⟩ := hrel
            rename World => wl
            have h00 : ¬ (0 : Int) < 0 := by omega
            go_wp2_with fail
            refine (len_nil _).mono ?_
            rintro e w5 ⟨rfl, rfl⟩
            go_wp2_with fail
            refine (HAW.out _ (Y4.out.trans HXL.out)).mono ?_
            rintro e w6 ⟨rfl, x6⟩
            go_wp2
            go_ret
            exact ⟨rfl, (Y4.out.trans HXL.out).trans x6⟩
        · rw [HTN.out.1, HF.out] at hf2
          cases hf2
      · have HF := Lib.hid hf
        have HS := Lib.hid hs
        clear hf hs
        go_wp2_with fail
        refine HH2.out.mono ?_
        rintro e w3 ⟨A3, c3, L3, rfl, o3, k3, nl3, x3⟩
        have hlen3 : L3.length * 136 ≤ 140737488351232 := by
          have h1 := congrArg List.length k3
          rw [List.length_map] at h1
          rw [h1, List.length_reverse, ← HKL.out, List.length_map]
          exact HL.out
        have hnw := newH_any (HB.out.ext (HX.out.trans (Y2.out.trans x3))) o3.row hlen3 (by rw [k3, ← HKL.out, ← List.map_reverse]; exact map_ok rfl HKB.out) nl3
        rw [k3] at hnw
        have HNW := Lib.hid hnw
        have Y3 := Lib.hid (Y2.out.trans x3)
        have Z3 := Lib.hid x3
        clear hnw o3 k3 nl3 x3 hlen3
        go_wp2_with fail
        refine HNW.out.mono ?_
        rintro e w4 ⟨x4, hr⟩
        have Y4 := Lib.hid (HX.out.trans (Y3.out.trans x4))
        have Z4 := Lib.hid (Z3.out.trans x4)
        clear HNW x4 Y3 Y2 Z3
        rcases hr with ⟨nm2, er2, hf2, rfl⟩ | ⟨hf2, t, rfl, hs2⟩
        · rw [HTN.out.1, HF.out] at hf2
          cases hf2
        rw [HTN.out.2] at hs2
        have HS1 := Lib.hid (HS.out.ext Z4.out)
        have HS2 := Lib.hid hs2
        clear hs2 hf2 HS
        obtain ⟨N, hN⟩ : ∃ N, setZ nlt K = N := ⟨_, rfl⟩
        rw [hN] at HS1 HS2
        have hm72 : N.length ≤ 72 := HS1.out.n72
        have HLE := Lib.hid (fun W (e : Ext w4 W) => sLen (HS1.out.ext e))
        obtain ⟨m, hm⟩ : ∃ m, N.length = m := ⟨_, rfl⟩
        have HM := Lib.hid hm
        rw [hm] at HLE hm72
        clear hm hN HTN HF
        go_wp2_with fail
        go_loopw [12] (fun iv wr => ∃ k : Nat, iv = .int .i64 k ∧ k ≤ m ∧ Hid (Ext w4 wr)) (fun iv _ => m - (intOf iv).toNat)
        case atStart => exact ⟨0, rfl, by omega, Lib.hid (Ext.refl _)⟩
        case round =>
          obtain ⟨k, rfl, hk, HXL⟩ := hrel
          rename World => wl
          by_cases hlt : k < m
          · have hltz : (k : Int) < (m : Int) := by omega
            have G1 := Lib.hid (fun W (e : Ext w4 W) => sName (HS1.out.ext e) k)
            have G2 := Lib.hid (fun W (e : Ext w4 W) => sName (HS2.out.ext e) k)
            have G3 := Lib.hid (fun W (e : Ext w4 W) => sSuper (HS1.out.ext e) k)
            have G4 := Lib.hid (fun W (e : Ext w4 W) => sSuper (HS2.out.ext e) k)
            have G5 := Lib.hid (fun W (e : Ext w4 W) => sAbove (HS1.out.ext e) k)
            have G6 := Lib.hid (fun W (e : Ext w4 W) => sAbove (HS2.out.ext e) k)
            obtain ⟨nm, hnm⟩ : ∃ nm, nameZ N k = nm := ⟨_, rfl⟩
            obtain ⟨su, hsu⟩ : ∃ su, superZ N k = su := ⟨_, rfl⟩
            obtain ⟨ab, hab⟩ : ∃ ab, aboveZ N k = ab := ⟨_, rfl⟩
            rw [hnm] at G1 G2
            rw [hsu] at G3 G4
            rw [hab] at G5 G6
            clear hnm hsu hab
            go_wp2_with fail
            refine (HLE.out _ HXL.out).mono ?_
            rintro e w5 ⟨rfl, rfl⟩
            go_wp2_with fail
            refine (G1.out _ HXL.out).mono ?_
            rintro e v12_1 ⟨rfl, x12_1⟩
            have Z12_1 := Lib.hid ((HXL.out).trans x12_1)
            clear x12_1
            go_wp2_with fail
            refine (G2.out _ Z12_1.out).mono ?_
            rintro e v12_2 ⟨rfl, x12_2⟩
            have Z12_2 := Lib.hid ((Z12_1.out).trans x12_2)
            clear x12_2
            go_wp2_with fail
            refine (G3.out _ Z12_2.out).mono ?_
            rintro e v12_3 ⟨rfl, x12_3⟩
            have Z12_3 := Lib.hid ((Z12_2.out).trans x12_3)
            clear x12_3
            go_wp2_with fail
            refine (G4.out _ Z12_3.out).mono ?_
            rintro e v12_4 ⟨rfl, x12_4⟩
            have Z12_4 := Lib.hid ((Z12_3.out).trans x12_4)
            clear x12_4
            go_wp2_with fail
            refine (G5.out _ (Z12_4.out)).mono ?_
            rintro e w7 ⟨v7, rfl, o7, x7⟩
            have X7 := Lib.hid ((Z12_4.out).trans x7)
            have O7 := Lib.hid o7.row
            clear x7 o7
            go_wp2_with fail
            refine (G6.out _ X7.out).mono ?_
            rintro e w8 ⟨v8, rfl, o8, x8⟩
            have X8 := Lib.hid (X7.out.trans x8)
            have hei := eqInts_any v7 v8 ab ab w8 (O7.out.ext x8) o8.row
            rw [show decide (ab = ab) = true from decide_eq_true rfl] at hei
            have HEI := Lib.hid hei
            clear x8 o8 hei
            go_wp2_with fail
            refine HEI.out.mono ?_
            rintro e w9 ⟨rfl, m9, rfl⟩
            have X9 := Lib.hid (X8.out.drewN m9)
            go_wp2_with fail
            go_roundw
            case rel => exact ⟨k + 1, by go_num, by omega, X9⟩
            case measure => first | (simp [intOf]; omega) | simp [intOf]
          · have hltz : ¬ (k : Int) < (m : Int) := by omega
            go_wp2_with fail
            refine (HLE.out _ HXL.out).mono ?_
            rintro e w5 ⟨rfl, rfl⟩
            go_wp2_with fail
            refine (HAW.out _ (Y4.out.trans HXL.out)).mono ?_
            rintro e w6 ⟨rfl, x6⟩
            go_wp2
            go_ret
            exact ⟨rfl, (Y4.out.trans HXL.out).trans x6⟩
end Go.Proofs.YtladeaofhdaloaaDoor
