/- LinkSteps, walked. -/
import Derived.Test.YtladeaofhdaloaaDoorYaQ
import Derived.Test.YtladeaofhdaloaaDoorYaL
import Derived.Test.YtladeaofhdaloaaDoorYaQLkIf
namespace Go.Proofs.YtladeaofhdaloaaDoor
open Go.RowKit
set_option linter.unusedVariables false

theorem rowI_at {w : World} {A : Option Addr} {n c : Nat} {l : List Int} (h : Row w .i64 (.slice A n c) l) (hl : 0 < l.length) : ∃ b o, A = some ⟨b, o, none⟩ ∧ ∀ W, Ext w W → ∀ j, j < l.length → W.cell? ⟨b, o + j, none⟩ = some (.int .i64 (gi l j)) := by
  obtain ⟨A', c', e1, -, -, -, -, h6⟩ := h
  obtain ⟨b, o, h7, hb, hx⟩ := h6 hl
  injection e1 with e1
  exact ⟨b, o, e1.trans h7, fun W e j hj => (e.cell (p := ⟨b, o + j, none⟩) hb).trans (hx j hj)⟩
theorem dec_nat (y : Nat) : decide (y = 0) = ((y : Int) == 0) := by
  by_cases h : y = 0
  · simp [h]
  · have h1 : ¬ (y : Int) = 0 := by omega
    simp [h]
theorem any_take {P : Int → Bool} {U : List Int} {k : Nat} (hk : k < U.length) : (U.take (k + 1)).any P = ((U.take k).any P || P (gi U k)) := by
  rw [List.take_succ_eq_append_getElem hk, List.any_append]
  simp [gi, hk]
set_option maxRecDepth 100000 in
set_option maxHeartbeats 4000000 in
theorem linkSteps_walk (w : World) (hB : Blt w) (v : Value) (l : List KlV) (h : ShK.Row w v l) (hl : l.length * 136 ≤ 140737488351232) (hk : ∀ x ∈ l, KlOk x) (a : Int) (ha : B64 a) (b : Int) (hb : B64 b) :
    Calls Tryd.prog 7 #[v, .int .i64 a, .int .i64 b] w fun e w' => e = .returned (.bool true) ∧ Ext w w' := by
  have HB := Lib.hid hB
  have HH := Lib.hid (fun W (e : Ext w W) => heads_any (h.ext e) hl hk)
  have HK := Lib.hid hk
  have HL := Lib.hid hl
  obtain ⟨A, cp, rfl, -⟩ := h.cut
  have HR := Lib.hid h
  have HAW := Lib.hid (fun W (e : Ext w W) => awake_any W (hB.ext e))
  obtain ⟨n, hn⟩ : ∃ n, l.length = n := ⟨_, rfl⟩
  have HN := Lib.hid hn
  rw [hn] at HH HR ⊢
  obtain ⟨K, hK⟩ : ∃ K, l.map (·.k) = K := ⟨_, rfl⟩
  rw [hK] at HH
  have HKL := Lib.hid hK
  clear h hl hk hB hn hK
  go_enter Tryd.func7, Tryd.ntmps7
  go_wp2_with fail
  refine (HH.out _ (Ext.refl w)).mono ?_
  rintro e w1 ⟨A1, c1, L1, rfl, o1, k1, nl1, x1⟩
  have hnw := newH_any (HB.out.ext ((Ext.refl w).trans x1)) o1.row (by
    have h1 := congrArg List.length k1
    rw [List.length_map] at h1
    rw [h1, ← HKL.out, List.length_map]
    exact HL.out) (by rw [k1, ← HKL.out]; exact map_ok rfl HK.out) nl1
  rw [k1] at hnw
  have HNW := Lib.hid hnw
  have X1' := Lib.hid ((Ext.refl w).trans x1)
  have Y1' := Lib.hid x1
  clear hnw o1 k1 nl1 x1
  go_wp2_with fail
  refine HNW.out.mono ?_
  rintro e w2 ⟨x2, hr⟩
  have X2 := Lib.hid (X1'.out.trans x2)
  have YX2 := Lib.hid (Y1'.out.trans x2)
  clear HNW x2 X1' Y1'
  rcases hr with ⟨nm, er, hf, rfl⟩ | ⟨hf, s, rfl, hs⟩
  · have her := newF_err hf
    have hne : ¬ er = 0 := by omega
    clear hf her
    go_wp2_with fail
    refine (HAW.out _ X2.out).mono ?_
    rintro e w3 ⟨rfl, x3⟩
    go_wp2
    go_ret
    exact ⟨rfl, X2.out.trans x3⟩
  · have HF := Lib.hid hf
    have HS := Lib.hid hs
    clear hf hs
    obtain ⟨N, hN⟩ : ∃ N, setZ nlt K = N := ⟨_, rfl⟩
    rw [hN] at HS
    have HNN := Lib.hid hN
    clear hN
    obtain ⟨m, hm⟩ : ∃ m, N.length = m := ⟨_, rfl⟩
    have HM := Lib.hid hm
    have hm8 : 8 ≤ m := by rw [← hm]; exact HS.out.n8
    have hm72 : m ≤ 72 := by rw [← hm]; exact HS.out.n72
    have HLE := Lib.hid (fun W (e : Ext w2 W) => sLen (HS.out.ext e))
    rw [hm] at HLE
    clear hm
    obtain ⟨x, hx, lx⟩ := bring_nat a (n := m) (by omega)
    have Hx := Lib.hid (fun W => bring_any a (m : Int) W ha.1 ha.2 (by omega) (by omega))
    rw [hx] at Hx
    clear hx
    obtain ⟨y, hy, ly⟩ := bring_nat b (n := m) (by omega)
    have Hy := Lib.hid (fun W => bring_any b (m : Int) W hb.1 hb.2 (by omega) (by omega))
    rw [hy] at Hy
    clear hy
    clear ha hb YX2
    go_wp2_with fail
    refine (HLE.out _ (Ext.refl _)).mono ?_
    rintro e w3 ⟨rfl, rfl⟩
    go_wp2_with fail
    refine (Hx.out _).mono ?_
    rintro e w3 ⟨rfl, rfl⟩
    go_wp2_with fail
    refine (HLE.out _ (Ext.refl _)).mono ?_
    rintro e w3 ⟨rfl, rfl⟩
    go_wp2_with fail
    refine (Hy.out _).mono ?_
    rintro e w3 ⟨rfl, rfl⟩
    have hmx : x < N.length := by have := HM.out; omega
    have HIF := Lib.hid (fun W (e : Ext w3 W) => sIfs (HS.out.ext e) x)
    have HSU := Lib.hid (fun W (e : Ext w3 W) => sSuper (HS.out.ext e) x)
    rw [show ifsZ N x = ifsI N x from by unfold ifsZ; rw [inN_nat hmx]; rfl] at HIF
    rw [show superZ N x = supI N x from by unfold superZ; rw [inN_nat hmx]; rfl] at HSU
    have HSH := Lib.hid (HS.out.short x hmx)
    have hsb : -1 ≤ supI N x ∧ supI N x < 72 := by
      have h1 := supI_lt HS.out.n8 x
      have h2 := (HS.out.gr x hmx).1
      have h3 := HS.out.n72
      unfold supV at h2
      refine ⟨?_, by omega⟩
      split at h2 <;> omega
    by_cases exy : x = y
    · subst exy
      obtain ⟨I, hI⟩ : ∃ I, ifsI N x = I := ⟨_, rfl⟩
      have HI := Lib.hid hI
      rw [hI] at HIF HSH
      obtain ⟨q, hq⟩ : ∃ q, I.length = q := ⟨_, rfl⟩
      have HQ := Lib.hid hq
      rw [hq] at HSH
      have hq2 : q ≤ 1000000 := HSH.out
      clear hI hq
      go_wp2_with fail
      refine (HIF.out _ (Ext.refl _)).mono ?_
      rintro e w4 ⟨v4, rfl, o4, x4⟩
      obtain ⟨A4, c4, e4, hc4, hm4, -⟩ := id o4.row
      rw [HQ.out] at e4 hc4
      subst e4
      have O4 := Lib.hid o4
      have X4 := Lib.hid x4
      unfold maxLen at hm4
      clear o4 x4
      go_wp2_with fail
      refine (HSU.out _ X4.out).mono ?_
      rintro e w5 ⟨rfl, x5⟩
      have X5 := Lib.hid (X4.out.trans x5)
      have O5 := Lib.hid (O4.out.ext x5)
      clear x5 X4 O4
      by_cases hsu : 0 ≤ supI N x
      · have HUU : Hid (upsI N x = I ++ [supI N x]) := Lib.hid (by unfold upsI; rw [if_pos hsu, HI.out])
        obtain ⟨su, hsv⟩ : ∃ su, supI N x = su := ⟨_, rfl⟩
        rw [hsv] at hsu hsb HSU HUU ⊢
        clear hsv
        go_wp2_with fail
        refine (HSU.out _ X5.out).mono ?_
        rintro e w6 ⟨rfl, x6⟩
        have X6 := Lib.hid (X5.out.trans (x6.alloc (.cells #[.int .i64 su] 3)))
        have O6 := Lib.hid (O5.out.ext (x6.alloc (.cells #[.int .i64 su] 3)))
        have HLW : Hid (w3.heap.size ≤ (w6.alloc (.cells #[.int .i64 su] 3)).heap.size) := Lib.hid X6.out.size
        have HR6 := Lib.hid (Row.built1 w6 .i64 3 su (by simp [Lit.wf, IntKind.min, IntKind.max, IntKind.signed, IntKind.bits]; omega))
        clear x6 X5 O5
        go_wp2_with (at_builtin; go_loud (refine wpList_app _ rfl _ _ w3.heap.size 48 3 _ 8 .i64 rfl Tryd.underlying48 infoI rfl (by omega) _ I rfl O6.out _ [su] rfl HR6.out (by rw [HQ.out]; simp; omega) HLW.out ?_); intro v9 W9 o9 g9 b9; clear b9; obtain ⟨A9, c9, e9, hc9, hm9, -⟩ := id o9.row; rw [List.length_append, HQ.out, List.length_singleton] at e9 hc9; subst e9; have X9 := Lib.hid (X6.out.grown g9 O6.out.low); have HRW := Lib.hid o9.row; clear o9 g9; unfold maxLen at hm9)
        obtain ⟨U, hU⟩ : ∃ U, I ++ [su] = U := ⟨_, rfl⟩
        obtain ⟨un, hun⟩ : ∃ un, q + 1 = un := ⟨_, rfl⟩
        have HUL : Hid (U.length = un) := Lib.hid (by rw [← hU, List.length_append, HQ.out, ← hun]; rfl)
        rw [hU] at HRW HUU
        rw [hun] at HRW hc9 ⊢
        have HU := Lib.hid HUU.out.symm
        have HUB : Hid (un ≤ 1000001) := Lib.hid (by omega)
        clear hU hun X6 O6 HLW HR6 HUU
        have HX9 : Hid (∀ W, Ext W9 W → Ext w W) := Lib.hid fun W e => X2.out.trans (X9.out.trans e)
        have HPU : Hid (∀ u ∈ U, belowZ N x u = true) := Lib.hid fun u hu => HS.out.ups_below x hmx u (by rw [← HU.out]; exact hu)
        have hend : belowZ N x x = (decide (x = x) || decide (x = 0) || U.any (fun u => belowZ N u x)) := by rw [HU.out]; exact HS.out.step x hmx x
        have HBW : Hid (∀ i j : Int, ∀ W, Ext W9 W → Calls Tryd.prog 32 #[.pointer (some ⟨s, 0, none⟩), .int .i64 i, .int .i64 j] W fun e w' => e = .returned (.bool (belowZ N i j)) ∧ Ext W w') := Lib.hid fun i j W e => sBelow (HS.out.ext (X9.out.trans e)) i j
        have HAX : Hid (∀ W, Ext W9 W → Calls Tryd.prog 14 #[] W fun e w' => e = .returned (.bool true) ∧ Ext W w') := Lib.hid fun W e => HAW.out W (HX9.out W e)
        have hun : un ≤ 1000001 := HUB.out
        have HE0 := Lib.hid hend
        obtain ⟨bb, hbb⟩ : ∃ bb, belowZ N x x = bb := ⟨_, rfl⟩
        rw [hbb] at HE0
        have hxy := HBW.out x x
        rw [hbb] at hxy
        have HXY := Lib.hid hxy
        clear hend hbb hxy HS HF HAW HLE Hx Hy HIF HSU HU X2 HUB HNN HM HB HK HL HR HN HH HKL
        have HE : Hid (bb = (true || U.any (fun u => belowZ N u x))) := Lib.hid (by rw [HE0.out]; simp)
        go_wp2_with fail
        go_loopw [13, 14] (fun wy iv wr => ∃ (k : Nat) (b : Bool), iv = .int .i64 k ∧ k ≤ un ∧ wy = .bool b ∧ Hid (b = (true || (U.take k).any (fun u => belowZ N u x))) ∧ Hid (Ext W9 wr)) (fun _ iv _ => un - (intOf iv).toNat)
        case atStart => exact ⟨0, _, rfl, by omega, rfl, Lib.hid (by first | (simp; done) | (simp; exact fun h => absurd h hd1)), Lib.hid (Ext.refl _)⟩
        case round =>
          obtain ⟨k, b, rfl, hk, rfl, HBE, HX⟩ := hrel
          rename World => wr
          skip
          by_cases hlt : k < un
          · have hltz : (k : Int) < (un : Int) := by omega
            have hkl : k < U.length := by have := HUL.out; omega
            obtain ⟨bl, o, rfl, hat⟩ := rowI_at HRW.out (by have := HUL.out; omega)
            have HAT := Lib.hid (fun W (e : Ext W9 W) => hat W e k hkl)
            have HAN := Lib.hid (any_take (P := fun u => belowZ N u x) hkl)
            have hbu := HPU.out (gi U k) (by unfold gi; rw [List.getD_eq_getElem?_getD, List.getElem?_eq_getElem hkl]; exact List.getElem_mem hkl)
            obtain ⟨u, hu⟩ : ∃ u, gi U k = u := ⟨_, rfl⟩
            rw [hu] at HAT HAN hbu
            have hb1 := HBW.out x u
            rw [hbu] at hb1
            have HB1 := Lib.hid hb1
            have hbq := HBW.out u x
            obtain ⟨b2, hb2⟩ : ∃ b2, belowZ N u x = b2 := ⟨_, rfl⟩
            rw [hb2] at hbq HAN
            have HB2 := Lib.hid hbq
            have HNX : Hid ((b || b2) = (true || (U.take (k + 1)).any (fun u => belowZ N u x))) := Lib.hid (by rw [HAN.out, HBE.out, Bool.or_assoc])
            have y0 := HAT.out wr HX.out
            clear hat hkl hbu hu hb2 HAN hb1 hbq
            go_wp2_with fail
            refine (HB1.out _ HX.out).mono ?_
            rintro e w6 ⟨rfl, x6⟩
            have X6 := Lib.hid (HX.out.trans x6)
            have y1 := HAT.out w6 X6.out
            clear x6 y0
            cases b
            · go_wp2_with fail
              refine (HB2.out _ X6.out).mono ?_
              rintro e w7 ⟨rfl, x7⟩
              have X7 := Lib.hid (X6.out.trans x7)
              clear x7 y1
              go_wp2_with fail
              go_roundw
              case rel => exact ⟨k + 1, _, by go_num, by omega, rfl, Lib.hid ((show b2 = (false || b2) from rfl).trans HNX.out), X7⟩
              case measure => first | (simp [intOf]; omega) | simp [intOf]
            · go_wp2_with fail
              go_roundw
              case rel => exact ⟨k + 1, _, by go_num, by omega, rfl, Lib.hid ((show true = (true || b2) from rfl).trans HNX.out), X6⟩
              case measure => first | (simp [intOf]; omega) | simp [intOf]
          · have hltz : ¬ (k : Int) < (un : Int) := by omega
            have hbe : b = bb := by
              have h1 := HBE.out
              rw [List.take_of_length_le (by have := HUL.out; omega)] at h1
              rw [h1, HE.out]
            subst hbe
            go_wp2_with fail
            refine (HXY.out _ HX.out).mono ?_
            rintro e w6 ⟨rfl, x6⟩
            have X6 := Lib.hid (HX.out.trans x6)
            clear x6
            cases b
            all_goals
              go_wp2_with fail
              refine (HAX.out _ X6.out).mono ?_
              rintro e w7 ⟨rfl, x7⟩
              go_wp2
              go_ret
              exact ⟨rfl, HX9.out _ (X6.out.trans x7)⟩
      · have HU : Hid (I = upsI N x) := Lib.hid (by unfold upsI; rw [if_neg hsu, HI.out, List.append_nil])
        obtain ⟨U, hU⟩ : ∃ U, I = U := ⟨_, rfl⟩
        obtain ⟨un, hun⟩ : ∃ un, q = un := ⟨_, rfl⟩
        have HUL : Hid (U.length = un) := Lib.hid (by rw [← hU, HQ.out, hun])
        have HRW := Lib.hid O5.out.row
        rw [hU] at HRW HU
        rw [hun] at HRW hc4 ⊢
        obtain ⟨W9, hW9⟩ : ∃ W9, w5 = W9 := ⟨_, rfl⟩
        rw [hW9] at HRW X5 ⊢
        have X9 := X5
        have HUB : Hid (un ≤ 1000001) := Lib.hid (by omega)
        obtain ⟨A9, hA9⟩ : ∃ A9, A4 = A9 := ⟨_, rfl⟩
        obtain ⟨c9, hc9⟩ : ∃ c9, c4 = c9 := ⟨_, rfl⟩
        rw [hA9, hc9] at HRW ⊢
        clear hU hun O5 hW9 X5 hA9
        subst hc9
        have HX9 : Hid (∀ W, Ext W9 W → Ext w W) := Lib.hid fun W e => X2.out.trans (X9.out.trans e)
        have HPU : Hid (∀ u ∈ U, belowZ N x u = true) := Lib.hid fun u hu => HS.out.ups_below x hmx u (by rw [← HU.out]; exact hu)
        have hend : belowZ N x x = (decide (x = x) || decide (x = 0) || U.any (fun u => belowZ N u x)) := by rw [HU.out]; exact HS.out.step x hmx x
        have HBW : Hid (∀ i j : Int, ∀ W, Ext W9 W → Calls Tryd.prog 32 #[.pointer (some ⟨s, 0, none⟩), .int .i64 i, .int .i64 j] W fun e w' => e = .returned (.bool (belowZ N i j)) ∧ Ext W w') := Lib.hid fun i j W e => sBelow (HS.out.ext (X9.out.trans e)) i j
        have HAX : Hid (∀ W, Ext W9 W → Calls Tryd.prog 14 #[] W fun e w' => e = .returned (.bool true) ∧ Ext W w') := Lib.hid fun W e => HAW.out W (HX9.out W e)
        have hun : un ≤ 1000001 := HUB.out
        have HE0 := Lib.hid hend
        obtain ⟨bb, hbb⟩ : ∃ bb, belowZ N x x = bb := ⟨_, rfl⟩
        rw [hbb] at HE0
        have hxy := HBW.out x x
        rw [hbb] at hxy
        have HXY := Lib.hid hxy
        clear hend hbb hxy HS HF HAW HLE Hx Hy HIF HSU HU X2 HUB HNN HM HB HK HL HR HN HH HKL
        have HE : Hid (bb = (true || U.any (fun u => belowZ N u x))) := Lib.hid (by rw [HE0.out]; simp)
        go_wp2_with fail
        go_loopw [13, 14] (fun wy iv wr => ∃ (k : Nat) (b : Bool), iv = .int .i64 k ∧ k ≤ un ∧ wy = .bool b ∧ Hid (b = (true || (U.take k).any (fun u => belowZ N u x))) ∧ Hid (Ext W9 wr)) (fun _ iv _ => un - (intOf iv).toNat)
        case atStart => exact ⟨0, _, rfl, by omega, rfl, Lib.hid (by first | (simp; done) | (simp; exact fun h => absurd h hd1)), Lib.hid (Ext.refl _)⟩
        case round =>
          obtain ⟨k, b, rfl, hk, rfl, HBE, HX⟩ := hrel
          rename World => wr
          skip
          by_cases hlt : k < un
          · have hltz : (k : Int) < (un : Int) := by omega
            have hkl : k < U.length := by have := HUL.out; omega
            obtain ⟨bl, o, rfl, hat⟩ := rowI_at HRW.out (by have := HUL.out; omega)
            have HAT := Lib.hid (fun W (e : Ext W9 W) => hat W e k hkl)
            have HAN := Lib.hid (any_take (P := fun u => belowZ N u x) hkl)
            have hbu := HPU.out (gi U k) (by unfold gi; rw [List.getD_eq_getElem?_getD, List.getElem?_eq_getElem hkl]; exact List.getElem_mem hkl)
            obtain ⟨u, hu⟩ : ∃ u, gi U k = u := ⟨_, rfl⟩
            rw [hu] at HAT HAN hbu
            have hb1 := HBW.out x u
            rw [hbu] at hb1
            have HB1 := Lib.hid hb1
            have hbq := HBW.out u x
            obtain ⟨b2, hb2⟩ : ∃ b2, belowZ N u x = b2 := ⟨_, rfl⟩
            rw [hb2] at hbq HAN
            have HB2 := Lib.hid hbq
            have HNX : Hid ((b || b2) = (true || (U.take (k + 1)).any (fun u => belowZ N u x))) := Lib.hid (by rw [HAN.out, HBE.out, Bool.or_assoc])
            have y0 := HAT.out wr HX.out
            clear hat hkl hbu hu hb2 HAN hb1 hbq
            go_wp2_with fail
            refine (HB1.out _ HX.out).mono ?_
            rintro e w6 ⟨rfl, x6⟩
            have X6 := Lib.hid (HX.out.trans x6)
            have y1 := HAT.out w6 X6.out
            clear x6 y0
            cases b
            · go_wp2_with fail
              refine (HB2.out _ X6.out).mono ?_
              rintro e w7 ⟨rfl, x7⟩
              have X7 := Lib.hid (X6.out.trans x7)
              clear x7 y1
              go_wp2_with fail
              go_roundw
              case rel => exact ⟨k + 1, _, by go_num, by omega, rfl, Lib.hid ((show b2 = (false || b2) from rfl).trans HNX.out), X7⟩
              case measure => first | (simp [intOf]; omega) | simp [intOf]
            · go_wp2_with fail
              go_roundw
              case rel => exact ⟨k + 1, _, by go_num, by omega, rfl, Lib.hid ((show true = (true || b2) from rfl).trans HNX.out), X6⟩
              case measure => first | (simp [intOf]; omega) | simp [intOf]
          · have hltz : ¬ (k : Int) < (un : Int) := by omega
            have hbe : b = bb := by
              have h1 := HBE.out
              rw [List.take_of_length_le (by have := HUL.out; omega)] at h1
              rw [h1, HE.out]
            subst hbe
            go_wp2_with fail
            refine (HXY.out _ HX.out).mono ?_
            rintro e w6 ⟨rfl, x6⟩
            have X6 := Lib.hid (HX.out.trans x6)
            clear x6
            cases b
            all_goals
              go_wp2_with fail
              refine (HAX.out _ X6.out).mono ?_
              rintro e w7 ⟨rfl, x7⟩
              go_wp2
              go_ret
              exact ⟨rfl, HX9.out _ (X6.out.trans x7)⟩
    · have hd1 : ¬ (x : Int) = (y : Int) := by omega
      obtain ⟨d, hd2⟩ : ∃ d, ((y : Int) == 0) = d := ⟨_, rfl⟩
      have HD0 : Hid (decide (y = 0) = d) := Lib.hid (by rw [← hd2]; exact dec_nat y)
      have HXN := Lib.hid exy
      clear exy
      obtain ⟨I, hI⟩ : ∃ I, ifsI N x = I := ⟨_, rfl⟩
      have HI := Lib.hid hI
      rw [hI] at HIF HSH
      obtain ⟨q, hq⟩ : ∃ q, I.length = q := ⟨_, rfl⟩
      have HQ := Lib.hid hq
      rw [hq] at HSH
      have hq2 : q ≤ 1000000 := HSH.out
      clear hI hq
      go_wp2_with fail
      refine (HIF.out _ (Ext.refl _)).mono ?_
      rintro e w4 ⟨v4, rfl, o4, x4⟩
      obtain ⟨A4, c4, e4, hc4, hm4, -⟩ := id o4.row
      rw [HQ.out] at e4 hc4
      subst e4
      have O4 := Lib.hid o4
      have X4 := Lib.hid x4
      unfold maxLen at hm4
      clear o4 x4
      go_wp2_with fail
      refine (HSU.out _ X4.out).mono ?_
      rintro e w5 ⟨rfl, x5⟩
      have X5 := Lib.hid (X4.out.trans x5)
      have O5 := Lib.hid (O4.out.ext x5)
      clear x5 X4 O4
      by_cases hsu : 0 ≤ supI N x
      · have HUU : Hid (upsI N x = I ++ [supI N x]) := Lib.hid (by unfold upsI; rw [if_pos hsu, HI.out])
        obtain ⟨su, hsv⟩ : ∃ su, supI N x = su := ⟨_, rfl⟩
        rw [hsv] at hsu hsb HSU HUU ⊢
        clear hsv
        go_wp2_with fail
        refine (HSU.out _ X5.out).mono ?_
        rintro e w6 ⟨rfl, x6⟩
        have X6 := Lib.hid (X5.out.trans (x6.alloc (.cells #[.int .i64 su] 3)))
        have O6 := Lib.hid (O5.out.ext (x6.alloc (.cells #[.int .i64 su] 3)))
        have HLW : Hid (w3.heap.size ≤ (w6.alloc (.cells #[.int .i64 su] 3)).heap.size) := Lib.hid X6.out.size
        have HR6 := Lib.hid (Row.built1 w6 .i64 3 su (by simp [Lit.wf, IntKind.min, IntKind.max, IntKind.signed, IntKind.bits]; omega))
        clear x6 X5 O5
        go_wp2_with (at_builtin; go_loud (refine wpList_app _ rfl _ _ w3.heap.size 48 3 _ 8 .i64 rfl Tryd.underlying48 infoI rfl (by omega) _ I rfl O6.out _ [su] rfl HR6.out (by rw [HQ.out]; simp; omega) HLW.out ?_); intro v9 W9 o9 g9 b9; clear b9; obtain ⟨A9, c9, e9, hc9, hm9, -⟩ := id o9.row; rw [List.length_append, HQ.out, List.length_singleton] at e9 hc9; subst e9; have X9 := Lib.hid (X6.out.grown g9 O6.out.low); have HRW := Lib.hid o9.row; clear o9 g9; unfold maxLen at hm9)
        obtain ⟨U, hU⟩ : ∃ U, I ++ [su] = U := ⟨_, rfl⟩
        obtain ⟨un, hun⟩ : ∃ un, q + 1 = un := ⟨_, rfl⟩
        have HUL : Hid (U.length = un) := Lib.hid (by rw [← hU, List.length_append, HQ.out, ← hun]; rfl)
        rw [hU] at HRW HUU
        rw [hun] at HRW hc9 ⊢
        have HU := Lib.hid HUU.out.symm
        have HUB : Hid (un ≤ 1000001) := Lib.hid (by omega)
        clear hU hun X6 O6 HLW HR6 HUU
        have HX9 : Hid (∀ W, Ext W9 W → Ext w W) := Lib.hid fun W e => X2.out.trans (X9.out.trans e)
        have HPU : Hid (∀ u ∈ U, belowZ N x u = true) := Lib.hid fun u hu => HS.out.ups_below x hmx u (by rw [← HU.out]; exact hu)
        have hend : belowZ N x y = (decide (x = y) || decide (y = 0) || U.any (fun u => belowZ N u y)) := by rw [HU.out]; exact HS.out.step x hmx y
        have HBW : Hid (∀ i j : Int, ∀ W, Ext W9 W → Calls Tryd.prog 32 #[.pointer (some ⟨s, 0, none⟩), .int .i64 i, .int .i64 j] W fun e w' => e = .returned (.bool (belowZ N i j)) ∧ Ext W w') := Lib.hid fun i j W e => sBelow (HS.out.ext (X9.out.trans e)) i j
        have HAX : Hid (∀ W, Ext W9 W → Calls Tryd.prog 14 #[] W fun e w' => e = .returned (.bool true) ∧ Ext W w') := Lib.hid fun W e => HAW.out W (HX9.out W e)
        have hun : un ≤ 1000001 := HUB.out
        have HE0 := Lib.hid hend
        obtain ⟨bb, hbb⟩ : ∃ bb, belowZ N x y = bb := ⟨_, rfl⟩
        rw [hbb] at HE0
        have hxy := HBW.out x y
        rw [hbb] at hxy
        have HXY := Lib.hid hxy
        clear hend hbb hxy HS HF HAW HLE Hx Hy HIF HSU HU X2 HUB HNN HM HB HK HL HR HN HH HKL
        have HE : Hid (bb = (d || U.any (fun u => belowZ N u y))) := Lib.hid (by rw [HE0.out, HD0.out]; simp [HXN.out])
        go_wp2_with fail
        go_loopw [13, 14] (fun wy iv wr => ∃ (k : Nat) (b : Bool), iv = .int .i64 k ∧ k ≤ un ∧ wy = .bool b ∧ Hid (b = (d || (U.take k).any (fun u => belowZ N u y))) ∧ Hid (Ext W9 wr)) (fun _ iv _ => un - (intOf iv).toNat)
        case atStart => exact ⟨0, _, rfl, by omega, rfl, Lib.hid (by first | (simp; done) | (simp; exact fun h => absurd h hd1)), Lib.hid (Ext.refl _)⟩
        case round =>
          obtain ⟨k, b, rfl, hk, rfl, HBE, HX⟩ := hrel
          rename World => wr
          clear hd1 hd2
          by_cases hlt : k < un
          · have hltz : (k : Int) < (un : Int) := by omega
            have hkl : k < U.length := by have := HUL.out; omega
            obtain ⟨bl, o, rfl, hat⟩ := rowI_at HRW.out (by have := HUL.out; omega)
            have HAT := Lib.hid (fun W (e : Ext W9 W) => hat W e k hkl)
            have HAN := Lib.hid (any_take (P := fun u => belowZ N u y) hkl)
            have hbu := HPU.out (gi U k) (by unfold gi; rw [List.getD_eq_getElem?_getD, List.getElem?_eq_getElem hkl]; exact List.getElem_mem hkl)
            obtain ⟨u, hu⟩ : ∃ u, gi U k = u := ⟨_, rfl⟩
            rw [hu] at HAT HAN hbu
            have hb1 := HBW.out x u
            rw [hbu] at hb1
            have HB1 := Lib.hid hb1
            have hbq := HBW.out u y
            obtain ⟨b2, hb2⟩ : ∃ b2, belowZ N u y = b2 := ⟨_, rfl⟩
            rw [hb2] at hbq HAN
            have HB2 := Lib.hid hbq
            have HNX : Hid ((b || b2) = (d || (U.take (k + 1)).any (fun u => belowZ N u y))) := Lib.hid (by rw [HAN.out, HBE.out, Bool.or_assoc])
            have y0 := HAT.out wr HX.out
            clear hat hkl hbu hu hb2 HAN hb1 hbq
            go_wp2_with fail
            refine (HB1.out _ HX.out).mono ?_
            rintro e w6 ⟨rfl, x6⟩
            have X6 := Lib.hid (HX.out.trans x6)
            have y1 := HAT.out w6 X6.out
            clear x6 y0
            cases b
            · go_wp2_with fail
              refine (HB2.out _ X6.out).mono ?_
              rintro e w7 ⟨rfl, x7⟩
              have X7 := Lib.hid (X6.out.trans x7)
              clear x7 y1
              go_wp2_with fail
              go_roundw
              case rel => exact ⟨k + 1, _, by go_num, by omega, rfl, Lib.hid ((show b2 = (false || b2) from rfl).trans HNX.out), X7⟩
              case measure => first | (simp [intOf]; omega) | simp [intOf]
            · go_wp2_with fail
              go_roundw
              case rel => exact ⟨k + 1, _, by go_num, by omega, rfl, Lib.hid ((show true = (true || b2) from rfl).trans HNX.out), X6⟩
              case measure => first | (simp [intOf]; omega) | simp [intOf]
          · have hltz : ¬ (k : Int) < (un : Int) := by omega
            have hbe : b = bb := by
              have h1 := HBE.out
              rw [List.take_of_length_le (by have := HUL.out; omega)] at h1
              rw [h1, HE.out]
            subst hbe
            go_wp2_with fail
            refine (HXY.out _ HX.out).mono ?_
            rintro e w6 ⟨rfl, x6⟩
            have X6 := Lib.hid (HX.out.trans x6)
            clear x6
            cases b
            all_goals
              go_wp2_with fail
              refine (HAX.out _ X6.out).mono ?_
              rintro e w7 ⟨rfl, x7⟩
              go_wp2
              go_ret
              exact ⟨rfl, HX9.out _ (X6.out.trans x7)⟩
      · have HU : Hid (I = upsI N x) := Lib.hid (by unfold upsI; rw [if_neg hsu, HI.out, List.append_nil])
        obtain ⟨U, hU⟩ : ∃ U, I = U := ⟨_, rfl⟩
        obtain ⟨un, hun⟩ : ∃ un, q = un := ⟨_, rfl⟩
        have HUL : Hid (U.length = un) := Lib.hid (by rw [← hU, HQ.out, hun])
        have HRW := Lib.hid O5.out.row
        rw [hU] at HRW HU
        rw [hun] at HRW hc4 ⊢
        obtain ⟨W9, hW9⟩ : ∃ W9, w5 = W9 := ⟨_, rfl⟩
        rw [hW9] at HRW X5 ⊢
        have X9 := X5
        have HUB : Hid (un ≤ 1000001) := Lib.hid (by omega)
        obtain ⟨A9, hA9⟩ : ∃ A9, A4 = A9 := ⟨_, rfl⟩
        obtain ⟨c9, hc9⟩ : ∃ c9, c4 = c9 := ⟨_, rfl⟩
        rw [hA9, hc9] at HRW ⊢
        clear hU hun O5 hW9 X5 hA9
        subst hc9
        have HX9 : Hid (∀ W, Ext W9 W → Ext w W) := Lib.hid fun W e => X2.out.trans (X9.out.trans e)
        have HPU : Hid (∀ u ∈ U, belowZ N x u = true) := Lib.hid fun u hu => HS.out.ups_below x hmx u (by rw [← HU.out]; exact hu)
        have hend : belowZ N x y = (decide (x = y) || decide (y = 0) || U.any (fun u => belowZ N u y)) := by rw [HU.out]; exact HS.out.step x hmx y
        have HBW : Hid (∀ i j : Int, ∀ W, Ext W9 W → Calls Tryd.prog 32 #[.pointer (some ⟨s, 0, none⟩), .int .i64 i, .int .i64 j] W fun e w' => e = .returned (.bool (belowZ N i j)) ∧ Ext W w') := Lib.hid fun i j W e => sBelow (HS.out.ext (X9.out.trans e)) i j
        have HAX : Hid (∀ W, Ext W9 W → Calls Tryd.prog 14 #[] W fun e w' => e = .returned (.bool true) ∧ Ext W w') := Lib.hid fun W e => HAW.out W (HX9.out W e)
        have hun : un ≤ 1000001 := HUB.out
        have HE0 := Lib.hid hend
        obtain ⟨bb, hbb⟩ : ∃ bb, belowZ N x y = bb := ⟨_, rfl⟩
        rw [hbb] at HE0
        have hxy := HBW.out x y
        rw [hbb] at hxy
        have HXY := Lib.hid hxy
        clear hend hbb hxy HS HF HAW HLE Hx Hy HIF HSU HU X2 HUB HNN HM HB HK HL HR HN HH HKL
        have HE : Hid (bb = (d || U.any (fun u => belowZ N u y))) := Lib.hid (by rw [HE0.out, HD0.out]; simp [HXN.out])
        go_wp2_with fail
        go_loopw [13, 14] (fun wy iv wr => ∃ (k : Nat) (b : Bool), iv = .int .i64 k ∧ k ≤ un ∧ wy = .bool b ∧ Hid (b = (d || (U.take k).any (fun u => belowZ N u y))) ∧ Hid (Ext W9 wr)) (fun _ iv _ => un - (intOf iv).toNat)
        case atStart => exact ⟨0, _, rfl, by omega, rfl, Lib.hid (by first | (simp; done) | (simp; exact fun h => absurd h hd1)), Lib.hid (Ext.refl _)⟩
        case round =>
          obtain ⟨k, b, rfl, hk, rfl, HBE, HX⟩ := hrel
          rename World => wr
          clear hd1 hd2
          by_cases hlt : k < un
          · have hltz : (k : Int) < (un : Int) := by omega
            have hkl : k < U.length := by have := HUL.out; omega
            obtain ⟨bl, o, rfl, hat⟩ := rowI_at HRW.out (by have := HUL.out; omega)
            have HAT := Lib.hid (fun W (e : Ext W9 W) => hat W e k hkl)
            have HAN := Lib.hid (any_take (P := fun u => belowZ N u y) hkl)
            have hbu := HPU.out (gi U k) (by unfold gi; rw [List.getD_eq_getElem?_getD, List.getElem?_eq_getElem hkl]; exact List.getElem_mem hkl)
            obtain ⟨u, hu⟩ : ∃ u, gi U k = u := ⟨_, rfl⟩
            rw [hu] at HAT HAN hbu
            have hb1 := HBW.out x u
            rw [hbu] at hb1
            have HB1 := Lib.hid hb1
            have hbq := HBW.out u y
            obtain ⟨b2, hb2⟩ : ∃ b2, belowZ N u y = b2 := ⟨_, rfl⟩
            rw [hb2] at hbq HAN
            have HB2 := Lib.hid hbq
            have HNX : Hid ((b || b2) = (d || (U.take (k + 1)).any (fun u => belowZ N u y))) := Lib.hid (by rw [HAN.out, HBE.out, Bool.or_assoc])
            have y0 := HAT.out wr HX.out
            clear hat hkl hbu hu hb2 HAN hb1 hbq
            go_wp2_with fail
            refine (HB1.out _ HX.out).mono ?_
            rintro e w6 ⟨rfl, x6⟩
            have X6 := Lib.hid (HX.out.trans x6)
            have y1 := HAT.out w6 X6.out
            clear x6 y0
            cases b
            · go_wp2_with fail
              refine (HB2.out _ X6.out).mono ?_
              rintro e w7 ⟨rfl, x7⟩
              have X7 := Lib.hid (X6.out.trans x7)
              clear x7 y1
              go_wp2_with fail
              go_roundw
              case rel => exact ⟨k + 1, _, by go_num, by omega, rfl, Lib.hid ((show b2 = (false || b2) from rfl).trans HNX.out), X7⟩
              case measure => first | (simp [intOf]; omega) | simp [intOf]
            · go_wp2_with fail
              go_roundw
              case rel => exact ⟨k + 1, _, by go_num, by omega, rfl, Lib.hid ((show true = (true || b2) from rfl).trans HNX.out), X6⟩
              case measure => first | (simp [intOf]; omega) | simp [intOf]
          · have hltz : ¬ (k : Int) < (un : Int) := by omega
            have hbe : b = bb := by
              have h1 := HBE.out
              rw [List.take_of_length_le (by have := HUL.out; omega)] at h1
              rw [h1, HE.out]
            subst hbe
            go_wp2_with fail
            refine (HXY.out _ HX.out).mono ?_
            rintro e w6 ⟨rfl, x6⟩
            have X6 := Lib.hid (HX.out.trans x6)
            clear x6
            cases b
            all_goals
              go_wp2_with fail
              refine (HAX.out _ X6.out).mono ?_
              rintro e w7 ⟨rfl, x7⟩
              go_wp2
              go_ret
              exact ⟨rfl, HX9.out _ (X6.out.trans x7)⟩
end Go.Proofs.YtladeaofhdaloaaDoor
