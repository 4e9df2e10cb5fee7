/- LinkCommon, walked. -/
import Derived.Test.YtladeaofhdaloaaDoorYaQ
import Derived.Test.YtladeaofhdaloaaDoorYaL
import Derived.Test.YtladeaofhdaloaaDoorYaQLkIf
namespace Go.Proofs.YtladeaofhdaloaaDoor
open Go.RowKit
set_option linter.unusedVariables false

theorem com_way {g : Gr} (h : g.Ok) {x c j : Nat} (hx : x < g.n) {p : List Nat} (hp : g.chain x = p ++ g.chain j) (hc : c ∈ g.chain x) (hcp : c ∉ p) (hj : j < g.n) (hne : j ≠ c) : ∃ j', g.sup j = some j' ∧ j' < g.n ∧ g.chain x = (p ++ [j]) ++ g.chain j' ∧ c ∉ p ++ [j] ∧ (g.chain j').length < (g.chain j).length := by
  have he := h.chain_eq j
  have hcj : c ∈ g.chain j := by
    rw [hp] at hc
    rcases List.mem_append.1 hc with h1 | h1
    · exact absurd h1 hcp
    · exact h1
  cases hs : g.sup j with
  | none =>
    rw [he, hs] at hcj
    exact absurd (List.mem_singleton.1 hcj).symm hne
  | some j' =>
    rw [hs] at he
    refine ⟨j', rfl, h.in_ j j' (Gr.sup_ups hs), by rw [hp, he]; simp, fun hm => ?_, by rw [he]; simp⟩
    rcases List.mem_append.1 hm with h1 | h1
    · exact hcp h1
    · exact hne (List.mem_singleton.1 h1).symm
set_option maxRecDepth 100000 in
set_option maxHeartbeats 4000000 in
theorem linkCommon_walk (w : World) (hB : Blt w) (v : Value) (l : List KlV) (h : ShK.Row w v l) (hl : l.length * 136 ≤ 140737488351232) (hk : ∀ x ∈ l, KlOk x) (a : Int) (ha : B64 a) (b : Int) (hb : B64 b) :
    Calls Tryd.prog 8 #[v, .int .i64 a, .int .i64 b] w fun e w' => e = .returned (.bool true) ∧ Ext w w' := by
  have HB := Lib.hid hB
  have HH := Lib.hid (fun W (e : Ext w W) => heads_any (h.ext e) hl hk)
  have HK := Lib.hid hk
  have HL := Lib.hid hl
  obtain ⟨A, cp, rfl, -⟩ := h.cut
  have HR := Lib.hid h
  have HAW := Lib.hid (fun W (e : Ext w W) => awake_any W (hB.ext e))
  obtain ⟨n, hn⟩ : ∃ n, l.length = n := ⟨_, rfl⟩
  have HN := Lib.hid hn
  rw [hn] at HH HR ⊢
  obtain ⟨K, hK⟩ : ∃ K, l.map (·.k) = K := ⟨_, rfl⟩
  rw [hK] at HH
  have HKL := Lib.hid hK
  clear h hl hk hB hn hK
  go_enter Tryd.func8, Tryd.ntmps8
  go_wp2_with fail
  refine (HH.out _ (Ext.refl w)).mono ?_
  rintro e w1 ⟨A1, c1, L1, rfl, o1, k1, nl1, x1⟩
  have hnw := newH_any (HB.out.ext ((Ext.refl w).trans x1)) o1.row (by
    have h1 := congrArg List.length k1
    rw [List.length_map] at h1
    rw [h1, ← HKL.out, List.length_map]
    exact HL.out) (by rw [k1, ← HKL.out]; exact map_ok rfl HK.out) nl1
  rw [k1] at hnw
  have HNW := Lib.hid hnw
  have X1' := Lib.hid ((Ext.refl w).trans x1)
  have Y1' := Lib.hid x1
  clear hnw o1 k1 nl1 x1
  go_wp2_with fail
  refine HNW.out.mono ?_
  rintro e w2 ⟨x2, hr⟩
  have X2 := Lib.hid (X1'.out.trans x2)
  have YX2 := Lib.hid (Y1'.out.trans x2)
  clear HNW x2 X1' Y1'
  rcases hr with ⟨nm, er, hf, rfl⟩ | ⟨hf, s, rfl, hs⟩
  · have her := newF_err hf
    have hne : ¬ er = 0 := by omega
    clear hf her
    go_wp2_with fail
    refine (HAW.out _ X2.out).mono ?_
    rintro e w3 ⟨rfl, x3⟩
    go_wp2
    go_ret
    exact ⟨rfl, X2.out.trans x3⟩
  · have HF := Lib.hid hf
    have HS := Lib.hid hs
    clear hf hs
    obtain ⟨N, hN⟩ : ∃ N, setZ nlt K = N := ⟨_, rfl⟩
    rw [hN] at HS
    have HNN := Lib.hid hN
    clear hN
    obtain ⟨m, hm⟩ : ∃ m, N.length = m := ⟨_, rfl⟩
    have HM := Lib.hid hm
    have hm8 : 8 ≤ m := by rw [← hm]; exact HS.out.n8
    have hm72 : m ≤ 72 := by rw [← hm]; exact HS.out.n72
    have HLE := Lib.hid (fun W (e : Ext w2 W) => sLen (HS.out.ext e))
    rw [hm] at HLE
    clear hm
    obtain ⟨x, hx, lx⟩ := bring_nat a (n := m) (by omega)
    have Hx := Lib.hid (fun W => bring_any a (m : Int) W ha.1 ha.2 (by omega) (by omega))
    rw [hx] at Hx
    clear hx
    obtain ⟨y, hy, ly⟩ := bring_nat b (n := m) (by omega)
    have Hy := Lib.hid (fun W => bring_any b (m : Int) W hb.1 hb.2 (by omega) (by omega))
    rw [hy] at Hy
    clear hy
    clear ha hb YX2
    go_wp2_with fail
    refine (HLE.out _ (Ext.refl _)).mono ?_
    rintro e w3 ⟨rfl, rfl⟩
    go_wp2_with fail
    refine (Hx.out _).mono ?_
    rintro e w3 ⟨rfl, rfl⟩
    go_wp2_with fail
    refine (HLE.out _ (Ext.refl _)).mono ?_
    rintro e w3 ⟨rfl, rfl⟩
    go_wp2_with fail
    refine (Hy.out _).mono ?_
    rintro e w3 ⟨rfl, rfl⟩
    have hok := HS.out.ok
    have hmx : x < N.length := by have := HM.out; omega
    have hmy : y < N.length := by have := HM.out; omega
    obtain ⟨c, h1, h2, hcn, hcx, hcy⟩ := hok.common_ab hmx hmy
    have k1 : commonZ N x y = c := by unfold commonZ; rw [inN_nat hmx, inN_nat hmy]; simp [h1]
    have k2 : commonZ N y x = c := by unfold commonZ; rw [inN_nat hmx, inN_nat hmy]; simp [h2]
    have k3 : commonZ N x x = x := by unfold commonZ; rw [inN_nat hmx]; simp [hok.common_self hmx]
    have k4 : belowZ N x c = true := (below_iff hmx c).2 (hok.chain_ab hmx hcx)
    have k5 : belowZ N y c = true := (below_iff hmy c).2 (hok.chain_ab hmy hcy)
    have hco : ∀ i j : Int, ∀ W, Ext w3 W → Calls Tryd.prog 34 #[.pointer (some ⟨s, 0, none⟩), .int .i64 i, .int .i64 j] W fun e w' => e = .returned (.int .i64 (commonZ N i j)) ∧ Ext W w' := fun i j W e => sCommon (HS.out.ext e) i j
    have hbe : ∀ i j : Int, ∀ W, Ext w3 W → Calls Tryd.prog 32 #[.pointer (some ⟨s, 0, none⟩), .int .i64 i, .int .i64 j] W fun e w' => e = .returned (.bool (belowZ N i j)) ∧ Ext W w' := fun i j W e => sBelow (HS.out.ext e) i j
    have HCO := Lib.hid hco
    have g1 := hco x y
    rw [k1] at g1
    have g2 := hco y x
    rw [k2] at g2
    have g3 := hco x x
    rw [k3] at g3
    have g4 := hbe x c
    rw [k4] at g4
    have g5 := hbe y c
    rw [k5] at g5
    have G1 := Lib.hid g1
    have G2 := Lib.hid g2
    have G3 := Lib.hid g3
    have G4 := Lib.hid g4
    have G5 := Lib.hid g5
    have HSU := Lib.hid (fun i W (e : Ext w3 W) => sSuper (HS.out.ext e) i)
    have HX3 : Hid (∀ W, Ext w3 W → Ext w W) := Lib.hid fun W e => X2.out.trans e
    have HAX : Hid (∀ W, Ext w3 W → Calls Tryd.prog 14 #[] W fun e w' => e = .returned (.bool true) ∧ Ext W w') := Lib.hid fun W e => HAW.out W (HX3.out W e)
    have HOK := Lib.hid hok
    have HC1 := Lib.hid h1
    have HCX := Lib.hid hcx
    have HGR := Lib.hid (fun j (hj : j < N.length) => (HS.out.gr j hj).1)
    have HNX := Lib.hid hmx
    have HNY := Lib.hid hmy
    clear g1 g2 g3 g4 g5 k1 k2 k3 k4 k5 hco hbe hok h1 h2 hcn hcx hcy hmx hmy HS HF HLE Hx Hy X2 HAW HM HB HK HL HR HN HH HKL HNN
    go_wp2_with fail
    refine (G1.out _ (Ext.refl _)).mono ?_
    rintro e v4_1 ⟨rfl, x4_1⟩
    have Z4_1 := Lib.hid (((Ext.refl _)).trans x4_1)
    clear x4_1
    go_wp2_with fail
    refine (G4.out _ Z4_1.out).mono ?_
    rintro e v4_2 ⟨rfl, x4_2⟩
    have Z4_2 := Lib.hid ((Z4_1.out).trans x4_2)
    clear x4_2
    go_wp2_with fail
    refine (G5.out _ Z4_2.out).mono ?_
    rintro e v4_3 ⟨rfl, x4_3⟩
    have Z4_3 := Lib.hid ((Z4_2.out).trans x4_3)
    clear x4_3
    go_wp2_with fail
    refine (G3.out _ Z4_3.out).mono ?_
    rintro e v4_4 ⟨rfl, x4_4⟩
    have Z4_4 := Lib.hid ((Z4_3.out).trans x4_4)
    clear x4_4
    go_wp2_with fail
    refine (G2.out _ Z4_4.out).mono ?_
    rintro e v4_5 ⟨rfl, x4_5⟩
    have Z4_5 := Lib.hid ((Z4_4.out).trans x4_5)
    clear x4_5
    go_wp2_with fail
    go_loopw [13] (fun iv wr => ∃ (j : Nat) (p : List Nat), iv = .int .i64 j ∧ j < N.length ∧ Hid ((grK N).chain x = p ++ (grK N).chain j) ∧ Hid (c ∉ p) ∧ Hid (Ext w3 wr)) (fun iv _ => ((grK N).chain (intOf iv).toNat).length)
    case atStart => exact ⟨x, [], rfl, HNX.out, Lib.hid rfl, Lib.hid (by simp), Lib.hid (Z4_5.out)⟩
    case round =>
      obtain ⟨j, p, rfl, hj, HP, HCP, HX⟩ := hrel
      rename World => wr
      by_cases hjc : j = c
      · subst hjc
        go_wp2_with fail
        refine (HAX.out _ HX.out).mono ?_
        rintro e w7 ⟨rfl, x7⟩
        go_wp2
        go_ret
        exact ⟨rfl, HX3.out _ (HX.out.trans x7)⟩
      · have hnz : ¬ (j : Int) = (c : Int) := by omega
        have hj0 : ¬ (j : Int) < 0 := by omega
        obtain ⟨j', hs, hj', hp', hcp', hlt⟩ := com_way HOK.out HNX.out HP.out HCX.out HCP.out hj hjc
        obtain ⟨r, hr, -, -, -, -⟩ := HOK.out.common_ab (x := j) (y := y) hj HNY.out
        have hrj : ¬ (r : Int) = (j : Int) := fun e => by
          have e : r = j := by omega
          rw [e] at hr
          exact HOK.out.common_way HNX.out HNY.out hj HC1.out p _ (by rw [HP.out, HOK.out.chain_eq j]) HCP.out hjc hr
        have g6 := HCO.out j y
        rw [show commonZ N j y = r by unfold commonZ; rw [inN_nat hj, inN_nat HNY.out]; simp [hr]] at g6
        have g7 := HSU.out j
        rw [show superZ N j = j' by unfold superZ; rw [inN_nat hj]; simp only [if_true, Int.toNat_natCast]; rw [HGR.out j hj]; unfold supV; rw [hs]] at g7
        have G6 := Lib.hid g6
        have G7 := Lib.hid g7
        have HP' := Lib.hid hp'
        have HCP' := Lib.hid hcp'
        have HLT := Lib.hid hlt
        have HJ' := Lib.hid hj'
        clear g6 g7 hs hj' hp' hcp' hlt hr hjc
        go_wp2_with fail
        refine (G6.out _ HX.out).mono ?_
        rintro e w8 ⟨rfl, x8⟩
        have X8 := Lib.hid (HX.out.trans x8)
        clear x8
        go_wp2_with fail
        refine (G7.out _ X8.out).mono ?_
        rintro e w9 ⟨rfl, x9⟩
        have X9 := Lib.hid (X8.out.trans x9)
        clear x9
        go_wp2_with fail
        go_roundw
        case rel => exact ⟨j', p ++ [j], rfl, HJ'.out, HP', HCP', X9⟩
        case measure => first | (simpa [intOf] using HLT.out) | (simp [intOf]; exact HLT.out)
end Go.Proofs.YtladeaofhdaloaaDoor
