/- Several texts of this proof, one behind the other. -/
import Derived.Test.YtkkfkjjmmdpafaaDoorYdF
import Derived.Test.YtkkfkjjmmdpafaaDoorYdI
import Derived.Deep.RegionHeld3
import Derived.Deep.RegionLaw
import Derived.Deep.QuietTactic
import Derived.Test.YtkkfkjjmmdpafaaDoorYdH
import Derived.OwnWalk
namespace Go.Proofs.YtkkfkjjmmdpafaaDoor
open Go.RowKit Go.Maps Go.WideMaps
set_option linter.unusedVariables false

def Ga (b0 : Nat) (w : World) (N : List Kl) (wr : World) : Prop := ∃ v D ns, SetAt b0 (b0 + 1) b0 v D wr ns ∧ kls ns = N ∧ Raw ns ∧ KeptT b0 w wr
theorem Ga.add {b0 : Nat} {w W : World} {N : List Kl} (h : Ga b0 w N W) (hN : N.length ≤ 71) (nd : Nd) (hr : nd.is = [] ∧ nd.vs = sl0 ∧ nd.ab = [] ∧ nd.va = sl0 ∧ nd.ln = 0 ∧ (N.length < 8 → nd.su = supI [] N.length)) (hz : nd.k.nm.size ≤ 140737488351232) (hn : NdOk b0 W nd) :
    Calls Tryd.prog 61 #[.pointer (some ⟨b0 + 1, 0, none⟩), .agg nd.vals] W fun e w' => e = .returned (.tuple #[]) ∧ Ga b0 w (N ++ [nd.k]) w' ∧ KeptT b0 W w' := by
  obtain ⟨v, D, ns, h1, h2, h3, h4⟩ := h
  have hlen : ns.length = N.length := by rw [← h2]; simp [kls]
  refine (add_any h1 hn hz (by omega) (by have := h1.bm; have := h1.lt.2; omega)).mono ?_
  rintro e w' ⟨rfl, k, v', D', h5⟩
  refine ⟨rfl, ⟨v', D', _, h5, by rw [← h2]; simp [kls], h3.snoc (by rw [hlen]; exact hr), h4.trans k⟩, k⟩
theorem Ga.ext {b0 : Nat} {w W W' : World} {N : List Kl} (h : Ga b0 w N W) (e : Ext W W') : Ga b0 w N W' := by
  obtain ⟨v, D, ns, h1, h2, h3, h4⟩ := h
  exact ⟨v, D, ns, h1.ext e, h2, h3, h4.trans (KeptT.ext e)⟩
theorem SetAt.keptC {B s m : Nat} {v : Sl} {D : DataW Unit} {w w' : World} {ns : List Nd} {row : Option Nat} (h : SetAt B s m v D w ns) (hg : w.grownBy w' row) (hr : ∀ g, row = some g → ∃ c z, w.heap[g]? = some (.cells c 36 z)) : SetAt B s m v D w' ns := by
  have hr2 : ∀ g, row = some g → ∃ o, w.heap[g]? = some o ∧ (∀ c z, o ≠ .cells c ShS.T z) ∧ (∀ c z, o ≠ .cells c 3 z) := fun g hq => by
    obtain ⟨c, z, h1⟩ := hr g hq
    refine ⟨_, h1, fun c z e => ?_, fun c z e => ?_⟩
    · injection e with _ e _; exact absurd e (by decide)
    · injection e with _ e _; exact absurd e (by decide)
  refine ⟨h.bs, h.bm, ?_, h.own.kept hg (fun g hv e => ?_) (fun _ _ h => h), h.map.kept hg (fun e => ?_), h.num, fun x hx => (h.ok x hx).kept hg hr2⟩
  · refine (hg.block s (lt_of_get h.blk) (fun e => ?_)).trans h.blk
    obtain ⟨c, z, h1⟩ := hr s e.symm
    rw [h.blk] at h1
    injection h1 with h1
    injection h1 with _ e _
    exact absurd e (by decide)
  · obtain ⟨c, z, h1⟩ := hr g e
    exact Shp.Own.ne h.own h1 (by decide) hv
  · obtain ⟨c, z, h1⟩ := hr m e.symm
    obtain ⟨es, clock, hb, _⟩ := h.map
    rw [hb] at h1
    cases h1
theorem ownW_some {W0 : World} {B : Nat} {w : World} {A : Option Addr} {n c : Nat} {l : List KlV} (h : (ShKW W0).Own B w (.slice A n c) l) (hl : 0 < l.length) : ∃ g, A = some ⟨g, 0, none⟩ := by
  rcases h.1.2 with ⟨h1, h2⟩ | ⟨g, cap, cur, h1, _⟩
  · omega
  · injection h1 with e1 e2 e3
    exact ⟨g, e1⟩
theorem built_su (k : Nat) (h : k < 8) : (if (k : Int) = 0 then (-1 : Int) else if (k : Int) = 1 then 0 else 1) = supI [] (builtZ.take k).length := by
  rcases k with _ | _ | _ | _ | _ | _ | _ | _ | k
  all_goals first | rfl | omega
set_option maxRecDepth 100000 in
set_option maxHeartbeats 4000000 in
theorem gather_any {w : World} {v : Value} {l : List KlV} (hb : Blt w) (h : ShK.Row w v l) (hl : l.length ≤ 64)
    (hz : ∀ x ∈ l, x.k.nm.size ≤ 140737488351232 ∧ x.k.sup.size ≤ 140737488351232 ∧ (∀ y ∈ x.k.ifs, y.size ≤ 140737488351232) ∧ x.k.ifs.length * 16 ≤ 140737488351232) (hnil : ∀ x ∈ l, x.vp = sl0 ∧ x.vf = sl0 ∧ x.vm = sl0) :
    Calls Tryd.prog 40 #[v] w fun e w' => ∃ s m g c D ns, e = .returned (.pointer (some ⟨s, 0, none⟩)) ∧ SetAt w.heap.size s m ⟨some ⟨g, 0, none⟩, ns.length, c⟩ D w' ns ∧ kls ns = builtZ ++ (sortZ cbK l).map (·.k) ∧ Told ns ∧ (∀ x ∈ ns, x.ab = [] ∧ x.va = sl0 ∧ x.ln = 0) ∧ Ext w w' := by
  have hmm := @run_makeMap Tryd.prog
  obtain ⟨b0, hb0⟩ : ∃ b0, w.heap.size = b0 := ⟨_, rfl⟩
  obtain ⟨W1, hW1⟩ : ∃ W1, (w.alloc (.map #[] 0)).alloc (.cells #[.slice none 0 0, .map (some w.heap.size)] 69) = W1 := ⟨_, rfl⟩
  have HE1 : Hid (Ext w W1) := Lib.hid (by rw [← hW1]; exact ((Ext.refl w).alloc _).alloc _)
  have hs0 := SetAt.new w
  rw [hW1, hb0] at hs0
  have HG0 : Hid (Ga b0 w (builtZ.take 0) W1) := Lib.hid ⟨_, _, _, hs0, rfl, Raw.nil, KeptT.ext HE1.out⟩
  have HB := Lib.hid hb
  have HB0 := Lib.hid hb0
  have HR := Lib.hid h
  have HZ := Lib.hid hz
  have HNIL := Lib.hid hnil
  have hB1 := hb.ext HE1.out
  have y0 := hB1.2 0 (by omega)
  have y1 := hB1.2 1 (by omega)
  have y2 := hB1.2 2 (by omega)
  have y3 := hB1.2 3 (by omega)
  have y4 := hB1.2 4 (by omega)
  have y5 := hB1.2 5 (by omega)
  have y6 := hB1.2 6 (by omega)
  have y7 := hB1.2 7 (by omega)
  obtain ⟨n, hn⟩ : ∃ n, l.length = n := ⟨_, rfl⟩
  have HN := Lib.hid hn
  rw [hn] at hl
  clear hs0 hb h hz hnil hB1 hn
  rw [hb0]
  go_enter Tryd.func40, Tryd.ntmps40
  go_upto_region 2 with fail
  rw [hb0] at hW1
  rw [hW1]
  clear hW1 hb0 hmm
  go_wp2_with fail
  go_loopw [17] (fun iv wr => ∃ k : Nat, iv = .int .i64 k ∧ k ≤ 8 ∧ Hid (Ga b0 w (builtZ.take k) wr)) (fun iv _ => 8 - (intOf iv).toNat)
  case atStart => exact ⟨0, rfl, by omega, HG0⟩
  case round =>
    obtain ⟨k, rfl, hk, HG⟩ := hrel
    rename World => wr
    clear HG0
    by_cases hlt : k < 8
    · have hltz : (k : Int) < 8 := by omega
      have hix := fun W => idx8 W k hlt
      have HS := Lib.hid (fun W => supB_any W (k : Int))
      have HA := Lib.hid (HG.out.add (by simp [builtZ]; omega) ⟨⟨bnm k, ⟨#[]⟩, false, []⟩, sl0, (if (k : Int) = 0 then -1 else if (k : Int) = 1 then 0 else 1), [], sl0, [], sl0, 0⟩ ⟨rfl, rfl, rfl, rfl, rfl, fun _ => built_su k hlt⟩ (by have := bnm_size k hlt; simp only; omega) (NdOk.bare _ _ _))
      have HSN := Lib.hid (built_snoc k hlt)
      obtain ⟨nm, hnm⟩ : ∃ nm, bnm k = nm := ⟨_, rfl⟩
      rw [hnm] at hix HA HSN
      obtain ⟨su, hsu⟩ : ∃ su : Int, (if (k : Int) = 0 then -1 else if (k : Int) = 1 then 0 else 1) = su := ⟨_, rfl⟩
      rw [hsu] at HA HS
      clear hnm hsu
      go_wp2_with fail
      refine (HS.out _).mono ?_
      rintro e w5 ⟨rfl, rfl⟩
      go_wp2_with fail
      refine HA.out.mono ?_
      rintro e w6 ⟨rfl, hg6, -⟩
      have HG6 : Hid (Ga b0 w (builtZ.take (k + 1)) w6) := Lib.hid (by rw [HSN.out]; exact hg6)
      clear hg6 HA HS hix HSN
      go_wp2_with fail
      go_roundw
      case rel => exact ⟨k + 1, by go_num, by omega, HG6⟩
      case measure => first | (simp [intOf]; omega) | simp [intOf]
    · have hltz : ¬ (k : Int) < 8 := by omega
      have hk8 : k = 8 := by omega
      subst hk8
      have HG1 : Hid (Ga b0 w builtZ wr) := Lib.hid (by have := HG.out; rwa [show builtZ.take 8 = builtZ from rfl] at this)
      have HX : Hid (Ext w wr) := Lib.hid (by obtain ⟨v', D, ns, h1, h2, h3, h4⟩ := HG1.out; exact h4.toExt (by rw [HB0.out]; exact Nat.le_refl _))
      clear HG y0 y1 y2 y3 y4 y5 y6 y7
      have hc := cloneK_any (HR.out.ext HX.out) (by rw [HN.out]; exact hl)
      rw [HN.out] at hc
      have HC := Lib.hid hc
      clear hc
      go_wp2_with fail
      refine HC.out.mono ?_
      rintro e w7 ⟨A7, c7, rfl, ho7, x7⟩
      have HG7 := Lib.hid (HG1.out.ext x7)
      have hs := sortStable_any (W0 := wr) (w := w7) (B := wr.heap.size) (c := c7) (A := A7) l (by rw [HN.out]; exact hl) (by rw [HN.out]; exact ho7)
      rw [HN.out] at hs
      have HS := Lib.hid hs
      obtain ⟨R, hR⟩ : ∃ R, sortZ cbK l = R := ⟨_, rfl⟩
      have HRR := Lib.hid hR
      have HRL : Hid (R.length = n) := Lib.hid (by rw [← hR, (sortZ_perm cbK l).length_eq, HN.out])
      rw [hR] at HS
      have HOT : Hid (∀ q, (Value.slice A7 n c7).ownBlock = some q → wr.heap.size ≤ q ∧ ∃ c z, w7.heap[q]? = some (.cells c 36 z)) := Lib.hid fun q hq => ⟨Shp.Own.low ho7 q hq, Shp.Own.typed ho7 q hq⟩
      have HX7 := Lib.hid (HX.out.trans x7)
      clear HC ho7 HG1 x7 hs hR
      go_wp2_with fail
      refine HS.out.mono ?_
      rintro e w8 ⟨rfl, ho8, g8⟩
      have HX8 : Hid (Ext w w8) := Lib.hid (HX7.out.grown g8 (fun q hq => Nat.le_trans HX.out.size (HOT.out q hq).1))
      have HG8 : Hid (Ga b0 w builtZ w8) := Lib.hid (by
        obtain ⟨v', D, ns, h1, h2, h3, h4⟩ := HG7.out
        exact ⟨v', D, ns, h1.keptC g8 (fun q hq => (HOT.out q hq).2), h2, h3, KeptT.ext HX8.out⟩)
      have HO8 := Lib.hid ho8
      have HWR : Hid (Ext w wr) := HX
      clear HS HG7 HX7 HOT ho8 g8 HX
      obtain ⟨Bc, hBc⟩ : ∃ Bc, wr.heap.size = Bc := ⟨_, rfl⟩
      rw [hBc] at HO8
      clear hBc
      go_wp2_with fail
      go_loopw [35] (fun iv wr => ∃ k : Nat, iv = .int .i64 k ∧ k ≤ n ∧ Hid (Ga b0 w (builtZ ++ (R.map (·.k)).take k) wr) ∧ Hid (KeptT b0 w8 wr)) (fun iv _ => n - (intOf iv).toNat)
      case atStart => exact ⟨0, rfl, by omega, Lib.hid (by simpa using HG8.out), Lib.hid (KeptT.refl _ _)⟩
      case round =>
        obtain ⟨k, rfl, hk, HG, HK⟩ := hrel
        rename World => wq
        clear HG8
        by_cases hlt : k < n
        · have hltz : (k : Int) < (n : Int) := by omega
          have hkl : k < R.length := by have := HRL.out; omega
          have HOq := Lib.hid (HO8.out.keptT HK.out (show 36 ≠ _ by decide) (show 36 ≠ _ by decide) (fun _ h => h))
          obtain ⟨g, hg⟩ := ownW_some HOq.out (by omega)
          subst hg
          obtain ⟨x, hx⟩ : ∃ x, R[k]? = some x := ⟨R[k], List.getElem?_eq_getElem hkl⟩
          obtain ⟨ha, hn, -⟩ := AtK.cellsW HOq.out k x hx
          have hxl : x ∈ l := by
            have := List.mem_of_getElem? hx
            rw [← HRR.out] at this
            exact (sortZ_perm cbK l).mem_iff.1 this
          obtain ⟨e0, e5, e6⟩ := HNIL.out x hxl
          obtain ⟨z1, z2, z3, z4⟩ := HZ.out x hxl
          have HNE : Hid (ShS.Row w x.vi.v x.k.ifs) := Lib.hid (HR.out.low x hxl)
          unfold AtK at ha
          rw [e0, e5, e6] at ha
          obtain ⟨y0', y1, y2, y3, y4, y5', y6'⟩ := ha
          have y0 : wq.cell? ⟨g, k * 7, none⟩ = some (.slice none 0 0) := y0'
          have y5 : wq.cell? ⟨g, k * 7 + 5, none⟩ = some (.slice none 0 0) := y5'
          have y6 : wq.cell? ⟨g, k * 7 + 6, none⟩ = some (.slice none 0 0) := y6'
          have HTK : Hid ((R.map (·.k)).take (k + 1) = (R.map (·.k)).take k ++ [x.k]) := Lib.hid (by
            have : (R.map (·.k))[k]? = some x.k := by rw [List.getElem?_map, hx]; rfl
            rw [List.take_add_one, this]; rfl)
          have HNLN : Hid ((builtZ ++ (R.map (·.k)).take k).length ≤ 71) := Lib.hid (by have h8 : builtZ.length = 8 := rfl; rw [List.length_append, h8, List.length_take]; omega)
          have HN8 : Hid (¬ (builtZ ++ (R.map (·.k)).take k).length < 8) := Lib.hid (by have h8 : builtZ.length = 8 := rfl; rw [List.length_append, h8]; omega)
          have HKE : Hid (k + 1 ≤ n) := Lib.hid hlt
          have HWE : Hid (Ext w wq) := Lib.hid (by obtain ⟨v', D, ns, h1, h2, h3, h4⟩ := HG.out; exact h4.toExt (by rw [HB0.out]; exact Nat.le_refl _))
          clear e0 e5 e6 hn hxl y0' y5' y6' hx
          go_upto_region 12 with fail
          obtain ⟨W9, hW9⟩ : ∃ W9, wq.alloc (.cells #[.slice none 0 0, .string x.k.nm, .string x.k.sup, .bool x.k.inf, .slice x.vi.A x.vi.n x.vi.c, .slice none 0 0, .slice none 0 0] 36) = W9 := ⟨_, rfl⟩
          rw [hW9]
          have HX9 : Hid (Ext wq W9) := Lib.hid (by rw [← hW9]; exact (Ext.refl _).alloc _)
          have hb9 : W9.heap[wq.heap.size]? = some (.cells #[.slice none 0 0, .string x.k.nm, .string x.k.sup, .bool x.k.inf, .slice x.vi.A x.vi.n x.vi.c, .slice none 0 0, .slice none 0 0] 36 (0, 0)) := by rw [← hW9]; exact heap_alloc_new _ _
          obtain ⟨q9, hq9⟩ : ∃ q9, wq.heap.size = q9 := ⟨_, rfl⟩
          rw [hq9] at hb9 ⊢
          have c0 : W9.cell? ⟨q9, 0, none⟩ = some (.slice none 0 0) := by rw [cell_of_row W9 q9 0 _ _ (0, 0) hb9]; rfl
          have c1 : W9.cell? ⟨q9, 1, none⟩ = some (.string x.k.nm) := by rw [cell_of_row W9 q9 1 _ _ (0, 0) hb9]; rfl
          have c2 : W9.cell? ⟨q9, 2, none⟩ = some (.string x.k.sup) := by rw [cell_of_row W9 q9 2 _ _ (0, 0) hb9]; rfl
          have c3 : W9.cell? ⟨q9, 3, none⟩ = some (.bool x.k.inf) := by rw [cell_of_row W9 q9 3 _ _ (0, 0) hb9]; rfl
          have c4 : W9.cell? ⟨q9, 4, none⟩ = some (.slice x.vi.A x.vi.n x.vi.c) := by rw [cell_of_row W9 q9 4 _ _ (0, 0) hb9]; rfl
          have c5 : W9.cell? ⟨q9, 5, none⟩ = some (.slice none 0 0) := by rw [cell_of_row W9 q9 5 _ _ (0, 0) hb9]; rfl
          have c6 : W9.cell? ⟨q9, 6, none⟩ = some (.slice none 0 0) := by rw [cell_of_row W9 q9 6 _ _ (0, 0) hb9]; rfl
          have HC := Lib.hid (own_any (w := W9) x.k x.vi.A x.vi.n x.vi.c (HNE.out.ext (HWE.out.trans HX9.out)) z1 z2 z3 z4)
          have HA : Hid (∀ A' n' c' w', ShS.Own b0 w' (.slice A' n' c') x.k.ifs → Ext W9 w' → Calls Tryd.prog 61 #[.pointer (some ⟨b0 + 1, 0, none⟩), .agg (⟨x.k, ⟨A', n', c'⟩, 0, [], sl0, [], sl0, 0⟩ : Nd).vals] w' fun e w2 => e = .returned (.tuple #[]) ∧ Ga b0 w ((builtZ ++ (R.map (·.k)).take k) ++ [x.k]) w2 ∧ KeptT b0 w' w2) := Lib.hid fun A' n' c' w' ho e =>
            (HG.out.ext (HX9.out.trans e)).add HNLN.out ⟨x.k, ⟨A', n', c'⟩, 0, [], sl0, [], sl0, 0⟩ ⟨rfl, rfl, rfl, rfl, rfl, fun h => absurd h HN8.out⟩ z1 ⟨ho, Own.nil _ _ _ _, Own.nil _ _ _ _⟩
          have HLE : Hid (b0 ≤ W9.heap.size) := Lib.hid (by have := (HWE.out.trans HX9.out).size; have := HB0.out; omega)
          clear hW9 hb9 hq9 z1 z2 z3 z4 y0 y1 y2 y3 y4 y5 y6
          go_wp2_with fail
          refine HC.out.mono ?_
          rintro e w10 ⟨A', n', c', rfl, ho10, x10⟩
          have HA2 := Lib.hid (HA.out A' n' c' w10 (Shp.Own.base' ho10 HLE.out) x10)
          have HX10 := Lib.hid (HX9.out.trans x10)
          clear HA HC ho10 x10 c0 c1 c2 c3 c4 c5 c6
          go_wp2_with fail
          refine HA2.out.mono ?_
          rintro e w11 ⟨rfl, hg11, hk11⟩
          have HG11 : Hid (Ga b0 w (builtZ ++ (R.map (·.k)).take (k + 1)) w11) := Lib.hid (by rw [HTK.out, ← List.append_assoc]; exact hg11)
          have HK11 : Hid (KeptT b0 w8 w11) := Lib.hid ((HK.out.trans (KeptT.ext HX10.out)).trans hk11)
          clear hg11 hk11 HA2
          go_wp2_with fail
          go_roundw
          case rel => exact ⟨k + 1, by go_num, HKE.out, HG11, HK11⟩
          case measure => first | (simp [intOf]; omega) | simp [intOf]
        · have hltz : ¬ (k : Int) < (n : Int) := by omega
          have hkn : k = n := by omega
          subst hkn
          obtain ⟨vv, D, ns0, h1, h2, h3, h4⟩ := HG.out
          have h2 : kls ns0 = builtZ ++ R.map (·.k) := by rw [h2, List.take_of_length_le (by rw [List.length_map, HRL.out]; exact Nat.le_refl _)]
          have hb8 : builtZ.length = 8 := rfl
          have hnl : ns0.length = 8 + k := by
            have : (kls ns0).length = 8 + k := by rw [h2, List.length_append, List.length_map, HRL.out, hb8]
            simpa [kls] using this
          obtain ⟨g, hv, hc, hbg, hgw⟩ := h1.g (by omega)
          obtain ⟨c3, hc3⟩ : ∃ c3, vv.c = c3 := ⟨_, rfl⟩
          obtain ⟨n3, hn3⟩ : ∃ n3, ns0.length = n3 := ⟨_, rfl⟩
          rw [hc3, hn3] at hv
          rw [hc3, hn3] at hc
          rw [hn3] at hnl
          subst hv
          have HXE : Hid (Ext w wq) := Lib.hid (h4.toExt (by rw [HB0.out]; exact Nat.le_refl _))
          obtain ⟨N, hN⟩ : ∃ N, builtZ ++ R.map (·.k) = N := ⟨_, rfl⟩
          have HNB := Lib.hid hN
          rw [hN] at h2
          have HH0 : Hid (Half N 8 ns0) := Lib.hid (by rw [← hN]; exact Half.start h3 (h2.trans hN.symm))
          have HNL : Hid (N.length = n3) := Lib.hid (by rw [← h2, ← hn3]; simp [kls])
          have HSZ : Hid (∀ (i : Nat) (y : Kl), 8 ≤ i → N[i]? = some y → y.sup.size ≤ 140737488351232 ∧ (∀ z ∈ y.ifs, z.size ≤ 140737488351232) ∧ y.ifs.length * 16 ≤ 140737488351232) := Lib.hid fun i y hi hy => by
            rw [← hN, List.getElem?_append_right (by rw [hb8]; exact hi), List.getElem?_map] at hy
            obtain ⟨x, hx, rfl⟩ := Option.map_eq_some_iff.1 hy
            have hm := List.mem_of_getElem? hx
            rw [← HRR.out] at hm
            obtain ⟨-, z2, z3, z4⟩ := HZ.out x ((sortZ_perm cbK l).mem_iff.1 hm)
            exact ⟨z2, z3, z4⟩
          have HS0 := Lib.hid h1
          have HKN := Lib.hid h2
          have HL0 := Lib.hid hn3
          have hn72 : n3 ≤ 72 := by omega
          have hn8 : 8 ≤ n3 := by omega
          clear h1 h2 h3 h4 hnl hn3 hc3 hN hb8 hc HG HK hlt hltz
          go_wp2_with fail
          go_loopw [9] (fun iv wr => ∃ (k : Nat) (ns : List Nd), iv = .int .i64 k ∧ 8 ≤ k ∧ k ≤ n3 ∧ Hid (SetAt b0 (b0 + 1) b0 ⟨some ⟨g, 0, none⟩, n3, c3⟩ D wr ns) ∧ Hid (kls ns = N) ∧ Hid (Half N k ns) ∧ Hid (Ext w wr)) (fun iv _ => n3 - (intOf iv).toNat)
          case atStart => exact ⟨8, ns0, rfl, by omega, hn8, HS0, HKN, HH0, HXE⟩
          case round =>
            obtain ⟨i, ns, rfl, hi8, hin, HS, HKS, HH, HX⟩ := hrel
            rename World => wa
            clear HS0 HKN HH0 HXE HL0
            have c0 := HS.out.c0
            dsimp only at c0
            by_cases hlt : i < n3
            · have hltz : (i : Int) < (n3 : Int) := by omega
              have hil : i < ns.length := by
                have : ns.length = n3 := by rw [← HNL.out, ← HKS.out]; simp [kls]
                omega
              obtain ⟨x, hx⟩ : ∃ x, ns[i]? = some x := ⟨ns[i], List.getElem?_eq_getElem hil⟩
              have hgk : N[i]? = some x.k := by rw [← HKS.out]; unfold kls; rw [List.getElem?_map, hx]; rfl
              obtain ⟨z2, z3, z4⟩ := HSZ.out i x.k hi8 hgk
              have hgi : gk N i = x.k := by unfold gk; rw [List.getD_eq_getElem?_getD, hgk]; rfl
              obtain ⟨d0, d1, d2, d3, d4, d7, d8, d9, d10⟩ := HS.out.get.node i x hx
              have HC := Lib.hid (named_any HS.out.get x.k.sup z2)
              rw [show ns.map (·.k) = N from HKS.out] at HC
              have hsu : findZ N x.k.sup = supI N i := by rw [supI_own hi8, hgi]
              rw [hsu] at HC
              obtain ⟨su, hsu2⟩ : ∃ su, supI N i = su := ⟨_, rfl⟩
              rw [hsu2] at HC
              obtain ⟨h1, h2, h3, -, h5⟩ := HH.out i x hx
              obtain ⟨h5, h6⟩ := h5 (Nat.le_refl _)
              obtain ⟨hgl, hbg, cs, zz, hgc⟩ := HS.out.low
              have hfr : wa.frozen? ⟨g, i * 11 + 7, none⟩ = false := by
                rcases HS.out.own.1.2 with ⟨e1, _⟩ | ⟨g', cap, cur, e1, _, e2, _⟩
                · cases e1
                · injection e1 with e1
                  injection e1 with e1
                  injection e1 with e1
                  subst e1
                  simp [World.frozen?, e2]
              have hel : ShN.el ns i = x := by
                rw [ShN.el_get hil]
                exact (List.getElem?_eq_some_iff.1 hx).2
              have hset := HS.out.put i 7 hil (by decide) (.int .i64 su) ⟨x.k, x.vi, su, x.is, x.vs, x.ab, x.va, x.ln⟩ (by rw [hel]; rfl) (by rw [hel]) (by have h := HS.out.ok x (List.mem_of_getElem? hx); exact ⟨h.vi, h.vs, h.va⟩)
              obtain ⟨W2, hW2⟩ : ∃ W2, wa.setCell ⟨g, i * 11 + 7, none⟩ (.int .i64 su) = W2 := ⟨_, rfl⟩
              have hset2 := hset
              rw [hW2] at hset2
              obtain ⟨x1, hx1⟩ : ∃ x1 : Nd, (⟨x.k, x.vi, su, x.is, x.vs, x.ab, x.va, x.ln⟩ : Nd) = x1 := ⟨_, rfl⟩
              rw [hx1] at hset2
              obtain ⟨ns1, hns1⟩ : ∃ ns1, ns.set i x1 = ns1 := ⟨_, rfl⟩
              rw [hns1] at hset2
              have HS2 := Lib.hid hset2
              have hx1i : ns1[i]? = some x1 := by rw [← hns1, List.getElem?_set]; simp [hil]
              have HI0 : Hid (InI b0 g n3 c3 W2 ns1 i x1 sl0 ((ifsI N i).take 0) W2) := Lib.hid (InI.start hset2 hx1i (by rw [← hx1]; exact h5) (by rw [← hx1]; exact h6))
              have HX2 : Hid (Ext w W2) := Lib.hid (by rw [← hW2]; exact HX.out.set_ (by rw [HB0.out]; exact hbg) _)
              obtain ⟨-, -, -, -, f4', -⟩ := hset2.get.node i x1 hx1i
              have f4 : W2.cell? ⟨g, i * 11 + 4, none⟩ = some (.slice x.vi.A x.vi.n x.vi.c) := by rw [f4', ← hx1]
              obtain ⟨iA, hiA⟩ : ∃ iA, x.vi.A = iA := ⟨_, rfl⟩
              obtain ⟨ic, hic⟩ : ∃ ic, x.vi.c = ic := ⟨_, rfl⟩
              rw [hiA, hic] at f4
              have hvi := (HS2.out.ok x1 (List.mem_of_getElem? hx1i)).vi
              have hm : x.vi.n = x.k.ifs.length := by
                obtain ⟨A', c', e1, _⟩ := hvi.slice
                rw [← hx1] at e1
                injection e1
              obtain ⟨m, hm2⟩ : ∃ m, x.vi.n = m := ⟨_, rfl⟩
              rw [hm2] at hm f4
              have HVI : Hid (x.vi.v = .slice iA m ic) := Lib.hid (by unfold Sl.v; rw [hiA, hic, hm2])
              have HM := Lib.hid hm
              have HZ3 := Lib.hid z3
              have hm16 : m * 16 ≤ 140737488351232 := by rw [hm]; exact z4
              have HX1 := Lib.hid hx1
              have HN1 := Lib.hid hns1
              have HX1I := Lib.hid hx1i
              have HGK := Lib.hid hgi
              have HSU := Lib.hid hsu2
              have HXI := Lib.hid hx
              have HGL : Hid (g < W2.heap.size ∧ b0 ≤ g ∧ b0 ≤ W2.heap.size) := Lib.hid ⟨hset2.low.1, hbg, by have := HX2.out.size; have := HB0.out; omega⟩
              have HKS1 : Hid (kls ns1 = N) := Lib.hid (by rw [← hns1, ← HKS.out]; unfold kls; rw [List.map_set]; exact set_same (by rw [List.getElem?_map, hx, ← hx1]; rfl))
              clear h1 h2 h3 h5 h6 hset hset2 hx1 hns1 hx1i hgk hgi hsu hsu2 hel hvi hm hm2 f4' hiA hic z2 z3 z4 hx hgl hbg hgc
              go_upto_region 18 with fail
              go_wp2_with fail
              refine HC.out.mono ?_
              rintro e w0 ⟨rfl, rfl⟩
              clear HC
              go_upto_region 19 with fail
              clear hW2 d0 d1 d2 d3 d4 d7 d8 d9 d10 c0 hfr
              go_wp2_with fail
              go_loopw [76] (fun iv wr => ∃ (q : Nat) (A : Option Addr) (c : Nat), iv = .int .i64 q ∧ q ≤ m ∧ Hid (InI b0 g n3 c3 W2 ns1 i x1 ⟨A, q, c⟩ ((ifsI N i).take q) wr)) (fun iv _ => m - (intOf iv).toNat)
              case atStart => exact ⟨0, none, 0, rfl, by omega, HI0⟩
              case round =>
                obtain ⟨q, A, c, rfl, hq, HI⟩ := hrel
                rename World => wb
                clear HI0
                by_cases hlq : q < m
                · have hlqz : (q : Int) < (m : Int) := by omega
                  have hse := HI.out.set HS2.out HGL.out.2.2 HX1I.out
                  have hxm : x1.wi ((ifsI N i).take q) ⟨A, q, c⟩ ∈ ns1.set i (x1.wi ((ifsI N i).take q) ⟨A, q, c⟩) := by
                    refine List.mem_of_getElem? (i := i) ?_
                    rw [List.getElem?_set, if_pos rfl, if_pos (List.getElem?_eq_some_iff.1 HX1I.out).1]
                  have hvi := (hse.ok _ hxm).vi
                  have hvk : (x1.wi ((ifsI N i).take q) ⟨A, q, c⟩).k.ifs = x.k.ifs := by rw [← HX1.out]; rfl
                  have hvv : (x1.wi ((ifsI N i).take q) ⟨A, q, c⟩).vi = x.vi := by rw [← HX1.out]; rfl
                  rw [hvk, hvv] at hvi
                  have hql : q < x.k.ifs.length := by rw [← HM.out]; exact hlq
                  obtain ⟨y, hy⟩ : ∃ y, x.k.ifs[q]? = some y := ⟨x.k.ifs[q], List.getElem?_eq_getElem hql⟩
                  rw [HVI.out] at hvi
                  obtain ⟨bi, oi, hA, hat⟩ := rowS_at hvi.row (by omega)
                  subst hA
                  have y0 := hat wb (Ext.refl _) q hql
                  have hgs : gs x.k.ifs q = y := by unfold gs; rw [ShS.el_get hql]; exact (List.getElem?_eq_some_iff.1 hy).2
                  rw [hgs] at y0
                  have hyz := HZ3.out y (List.mem_of_getElem? hy)
                  obtain ⟨A', cN, e1, hmc, hmm2⟩ := hvi.slice
                  have hmc2 : m ≤ ic := by injection e1 with _ e2 e3; omega
                  have HE3 : Hid (∀ W, Ext wb W → SetAt b0 (b0 + 1) b0 ⟨some ⟨g, 0, none⟩, n3, c3⟩ D W (ns1.set i (x1.wi ((ifsI N i).take q) ⟨A, q, c⟩))) := Lib.hid fun W e => hse.ext e
                  have HKS2 : Hid (kls (ns1.set i (x1.wi ((ifsI N i).take q) ⟨A, q, c⟩)) = N) := Lib.hid (by
                    rw [← HKS1.out]; unfold kls; rw [List.map_set]; exact set_same (by rw [List.getElem?_map, HX1I.out]; rfl))
                  have HNM : Hid (∀ W, Ext wb W → Calls Tryd.prog 60 #[.pointer (some ⟨b0 + 1, 0, none⟩), .string y] W fun e w' => e = .returned (.int .i64 (findZ N y)) ∧ w' = W) := Lib.hid fun W e => by
                    have h := named_any (HE3.out W e).get y hyz
                    rw [show (ns1.set i (x1.wi ((ifsI N i).take q) ⟨A, q, c⟩)).map (·.k) = N from HKS2.out] at h
                    exact h
                  have hfz := findZ_b (N := N) (by rw [HNL.out]; exact hn72) y
                  have HTK : Hid ((ifsI N i).take (q + 1) = (ifsI N i).take q ++ [findZ N y]) := Lib.hid (by
                    have : (ifsI N i)[q]? = some (findZ N y) := by unfold ifsI; rw [List.getElem?_map, HGK.out, hy]; rfl
                    rw [List.take_add_one, this]; rfl)
                  obtain ⟨f, hf⟩ : ∃ f, findZ N y = f := ⟨_, rfl⟩
                  rw [hf] at HNM HTK hfz
                  have j8 : ∀ W, Ext wb W → W.cell? ⟨g, i * 11 + 8, none⟩ = some (.slice A q c) := fun W e => by
                    obtain ⟨-, -, -, -, -, -, h8, -⟩ := (HE3.out W e).get.node i (x1.wi ((ifsI N i).take q) ⟨A, q, c⟩) (by rw [List.getElem?_set, if_pos rfl, if_pos (List.getElem?_eq_some_iff.1 HX1I.out).1])
                    exact h8
                  have w0 := j8 wb.drew (Ext.refl _).drew
                  have w1 := j8 (wb.alloc (.cells #[.int .i64 f] 3)) ((Ext.refl _).alloc _)
                  have HVS : Hid (Own W2.heap.size (wb.alloc (.cells #[.int .i64 f] 3)).drew 3 .i64 (.slice A q c) ((ifsI N i).take q)) := Lib.hid (HI.out.vs.ext ((Ext.refl _).alloc _).drew)
                  have HQL : Hid (((ifsI N i).take q).length = q) := Lib.hid (by rw [List.length_take]; unfold ifsI; rw [List.length_map, HGK.out]; omega)
                  have HRF : Hid (Row (wb.alloc (.cells #[.int .i64 f] 3)).drew .i64 (.slice (some ⟨wb.heap.size, 0, none⟩) 1 1) [f]) := Lib.hid ((own_built1 (B := 0) wb 3 .i64 f (by simp [Lit.wf, IntKind.min, IntKind.max, IntKind.signed, IntKind.bits]; omega) (Nat.zero_le _)).ext (Ext.refl _).drew).row
                  have HBD : Hid ((((ifsI N i).take q).length + [f].length) * 8 ≤ 140737488355328) := Lib.hid (by rw [HQL.out, List.length_singleton]; omega)
                  have HWS : Hid (W2.heap.size ≤ (wb.alloc (.cells #[.int .i64 f] 3)).drew.heap.size) := Lib.hid (Nat.le_trans HI.out.gr.size ((Ext.refl wb).alloc (.cells #[.int .i64 f] 3)).drew.size)
                  have dx : Ext wb wb.drew := (Ext.refl _).drew
                  have HST : Hid (∀ (A' : Option Addr) (c' : Nat) (w4 : World), Own W2.heap.size w4 3 .i64 (.slice A' (q + 1) c') ((ifsI N i).take q ++ [f]) → (wb.alloc (.cells #[.int .i64 f] 3)).drew.grownBy w4 (Value.slice A q c).ownBlock → InI b0 g n3 c3 W2 ns1 i x1 ⟨A', q + 1, c'⟩ ((ifsI N i).take (q + 1)) (w4.setCell ⟨g, i * 11 + 8, none⟩ (.slice A' (q + 1) c')) ∧ w4.cell? ⟨g, i * 11 + 8, none⟩ = some (.slice A q c) ∧ w4.frozen? ⟨g, i * 11 + 8, none⟩ = false) := Lib.hid fun A' c' w4 ho hg => by
                    rw [HTK.out]
                    exact HI.out.step (v' := ⟨A', q + 1, c'⟩) HGL.out.1 (List.getElem?_eq_some_iff.1 HX1I.out).1 ((Ext.refl _).alloc _).drew ho hg
                  clear hse hxm hvi hvk hvv hql hy hat hgs hyz e1 hmm2 hf j8
                  go_wp2_with fail
                  go_region_law (first
                    | ((refine step_callL rfl 60 _ _ rfl #[.pointer (some ⟨b0 + 1, 0, none⟩), .string y] (by simp [go_sem]) (by simp [go_sem]) ?_); ((with_reducible refine (HNM.out _ (by assumption)).mono ?_); rintro e y1 ⟨rfl, rfl⟩); refine ⟨_, rfl, ?_⟩)
                    | ((refine step_appI rfl _ _ W2.heap.size 48 3 _ 8 .i64 rfl Tryd.underlying48 infoI rfl (by omega) (.slice A q c) ((ifsI N i).take q) rfl HVS.out (.slice (some ⟨wb.heap.size, 0, none⟩) 1 1) [f] rfl HRF.out HBD.out HWS.out ?_); intro v4 w4 o4 g4 b4; obtain ⟨A4, c4, e4, hc4, hm4, -⟩ := id o4.row; rw [List.length_append, HQL.out, List.length_singleton] at e4; subst e4; obtain ⟨o5, y8, yf⟩ := HST.out A4 c4 w4 o4 g4; have O5 := Lib.hid o5; clear o4 g4 b4 o5)
                    | fail)
                  all_goals
                    go_wp2_with fail
                    go_roundw
                    case rel => exact ⟨q + 1, A4, c4, by go_num, by omega, O5⟩
                    case measure => first | (simp [intOf]; omega) | simp [intOf]
                · have hlqz : ¬ (q : Int) < (m : Int) := by omega
                  have hqm : q = m := by omega
                  subst hqm
                  have HSE : Hid (SetAt b0 (b0 + 1) b0 ⟨some ⟨g, 0, none⟩, n3, c3⟩ D wb (ns.set i ⟨x.k, x.vi, supI N i, ifsI N i, ⟨A, q, c⟩, x.ab, x.va, x.ln⟩)) := Lib.hid (by
                    have h := HI.out.set HS2.out HGL.out.2.2 HX1I.out
                    have hlen : (ifsI N i).length ≤ q := by unfold ifsI; rw [List.length_map, HGK.out, HM.out]; exact Nat.le_refl _
                    rw [← HN1.out, List.set_set, ← HX1.out, List.take_of_length_le hlen] at h
                    rw [HSU.out]
                    exact h)
                  have HXE : Hid (Ext w wb) := Lib.hid (HX2.out.grown HI.out.gr (fun b e => by injection e with e; have := HGL.out.2.1; have := HB0.out; omega))
                  have HHE := Lib.hid (HH.out.step (vs := ⟨A, q, c⟩) HXI.out)
                  have HKE : Hid (kls (ns.set i ⟨x.k, x.vi, supI N i, ifsI N i, ⟨A, q, c⟩, x.ab, x.va, x.ln⟩) = N) := Lib.hid (by
                    rw [← HKS.out]; unfold kls; rw [List.map_set]; exact set_same (by rw [List.getElem?_map, HXI.out]; rfl))
                  clear HI HS2
                  go_wp2_with fail
                  go_roundw
                  case rel => exact ⟨i + 1, _, by go_num, by omega, by omega, HSE, HKE, HHE, HXE⟩
                  case measure => first | (simp [intOf]; omega) | simp [intOf]
            · have hltz : ¬ (i : Int) < (n3 : Int) := by omega
              have hin3 : i = n3 := by omega
              subst hin3
              have HF : Hid (SetAt b0 (b0 + 1) b0 ⟨some ⟨g, 0, none⟩, ns.length, c3⟩ D wa ns) := Lib.hid (by
                have : ns.length = i := by rw [← HNL.out, ← HKS.out]; simp [kls]
                rw [this]
                exact HS.out)
              have HD : Hid (Told ns ∧ ∀ x ∈ ns, x.ab = [] ∧ x.va = sl0 ∧ x.ln = 0) := Lib.hid (Half.done (by
                have : ns.length = i := by rw [← HNL.out, ← HKS.out]; simp [kls]
                rw [this]
                exact HH.out) HKS.out)
              go_wp2
              go_ret
              exact ⟨_, rfl, _, _, _, _, _, HF.out, by rw [HKS.out, ← HNB.out, HRR.out], HD.out.1, HD.out.2, HX.out⟩
end Go.Proofs.YtkkfkjjmmdpafaaDoor
namespace Go.Proofs.YtkkfkjjmmdpafaaDoor
open Go.RowKit Go.Maps Go.WideMaps
set_option linter.unusedVariables false

theorem SetAt.ev {B s m g n c : Nat} {D : DataW Unit} {w : World} {ns : List Nd} (h : SetAt B s m ⟨some ⟨g, 0, none⟩, n, c⟩ D w ns) : SetEv s m g n c ns w := fun W e => by
  have h2 := h.ext e
  refine ⟨h2.get, fun i x hx => ?_⟩
  have h3 := h2.ok x (List.mem_of_getElem? hx)
  exact ⟨h3.vs.row, h3.vi.row⟩
theorem ints_back {l : List Int} (h : ∀ u ∈ l, 0 ≤ u) : ints (l.map Int.toNat) = l := by
  unfold ints
  rw [List.map_map]
  refine (List.map_congr_left fun u hu => ?_).trans (List.map_id l)
  have := h u hu
  simp
  omega
theorem told_gr {ns : List Nd} {r : List Kl} (ht : Told ns) (hb : kls ns = builtZ ++ r) (h0 : fltZ (kls ns) = none) : ∀ i x, ns[i]? = some x → x.su = supV (grK (kls ns)) i ∧ x.is = ints ((grK (kls ns)).ifs i) := by
  intro i x hx
  have hf := fltZ_none.1 h0
  have hlt : i < (kls ns).length := by have := (List.getElem?_eq_some_iff.1 hx).1; simpa [kls] using this
  obtain ⟨t1, t2⟩ := ht i x hx
  have h1 : supI (kls ns) i = -1 ∨ 0 ≤ supI (kls ns) i := by
    rcases Nat.lt_or_ge i 8 with h8 | h8
    · rw [hb, sup_built r i h8]
      split
      · exact .inl rfl
      · right; split <;> omega
    · rw [supI_own h8]
      exact .inr (flt2_some (hf i h8 hlt).2.1).1
  have h2 : ∀ u ∈ ifsI (kls ns) i, 0 ≤ u := by
    rcases Nat.lt_or_ge i 8 with h8 | h8
    · rw [hb, (ifs_built r i h8).1]
      intro u hu
      cases hu
    · intro u hu
      obtain ⟨y, hy, rfl⟩ := List.mem_map.1 hu
      exact (flt2_some (hf i h8 hlt).2.1).2 y hy
  refine ⟨?_, ?_⟩
  · rw [t1]
    show _ = (match supN (kls ns) i with | none => -1 | some j => (j : Int))
    unfold supN
    rcases h1 with h1 | h1
    · rw [if_pos (by omega), h1]
    · rw [if_neg (by omega)]
      simp
      omega
  · rw [t2]
    exact (ints_back h2).symm
def Tld (g : Gr) (k : Nat) (ns : List Nd) : Prop := ∀ i x, ns[i]? = some x → i < k → x.ab = ints (g.above i) ∧ x.ln = ((g.chain i).length : Int)
structure SetNew (B s m g n c : Nat) (D : DataW Unit) (N : List Kl) (w : World) (ns : List Nd) : Prop where
  set : SetAt B s m ⟨some ⟨g, 0, none⟩, n, c⟩ D w ns
  kl : kls ns = N
  told : Told ns
  above : Tld (grK N) n ns
def New (l : List KlV) : List Kl := builtZ ++ (sortZ cbK l).map (·.k)
set_option maxRecDepth 100000 in
theorem new_limit {w : World} {A : Option Addr} {n c : Nat} (hn : 64 < n) (hm : n ≤ 140737488355328) : Calls Tryd.prog 12 #[.slice A n c] w fun e w' => e = .returned (.tuple #[.pointer none, .string ⟨#[]⟩, .int .i64 5]) ∧ w' = w := by
  have hz : (64 : Int) < (n : Int) := by omega
  go_enter Tryd.func12, Tryd.ntmps12
  go_wp2
  go_ret3
  exact ⟨rfl, rfl⟩
theorem fltZ_err {N : List Kl} {nm : ByteArray} {er : Int} (h : fltZ N = some (nm, er)) : er = 90 ∨ er = 91 ∨ er = 92 := by
  have one : ∀ k, (ownK N).findSome? (fltC k N) = some (nm, er) → er = 90 ∨ er = 91 ∨ er = 92 := fun k h => by
    obtain ⟨i, -, hi⟩ := List.exists_of_findSome?_eq_some h
    exact flt_err hi
  unfold fltZ at h
  rcases Option.or_eq_some_iff.1 h with h | ⟨-, h⟩
  · exact one 0 h
  rcases Option.or_eq_some_iff.1 h with h | ⟨-, h⟩
  · exact one 1 h
  rcases Option.or_eq_some_iff.1 h with h | ⟨-, h⟩
  · exact one 2 h
  rcases Option.or_eq_some_iff.1 h with h | ⟨-, h⟩
  · exact one 3 h
  · exact one 4 h
def Nd.wa (x : Nd) (ab : List Int) (va : Sl) (ln : Int) : Nd := ⟨x.k, x.vi, x.su, x.is, x.vs, ab, va, ln⟩
theorem kls_set {ns : List Nd} {i : Nat} {x y : Nd} (hx : ns[i]? = some x) (h : y.k = x.k) : kls (ns.set i y) = kls ns := by
  unfold kls
  rw [List.map_set, h]
  exact set_same (by rw [List.getElem?_map, hx]; rfl)
theorem Told.set {ns : List Nd} {i : Nat} {x : Nd} {ab : List Int} {va : Sl} {ln : Int} (h : Told ns) (hx : ns[i]? = some x) : Told (ns.set i (x.wa ab va ln)) := fun j y hy => by
  rw [kls_set (y := x.wa ab va ln) hx rfl]
  rw [List.getElem?_set] at hy
  by_cases hj : i = j
  · subst hj
    rw [if_pos rfl, if_pos (List.getElem?_eq_some_iff.1 hx).1] at hy
    injection hy with hy
    subst hy
    exact h i x hx
  · rw [if_neg hj] at hy
    exact h j y hy
theorem Tld.step {g : Gr} {ns : List Nd} {i : Nat} {x : Nd} {va : Sl} (h : Tld g i ns) (hx : ns[i]? = some x) : Tld g (i + 1) (ns.set i (x.wa (ints (g.above i)) va ((g.chain i).length : Int))) := fun j y hy hlt => by
  rw [List.getElem?_set] at hy
  by_cases hj : i = j
  · subst hj
    rw [if_pos rfl, if_pos (List.getElem?_eq_some_iff.1 hx).1] at hy
    injection hy with hy
    subst hy
    exact ⟨rfl, rfl⟩
  · rw [if_neg hj] at hy
    exact h j y hy (by omega)
theorem SetAt.put2 {B s m g n c : Nat} {D : DataW Unit} {w : World} {ns : List Nd} (h : SetAt B s m ⟨some ⟨g, 0, none⟩, n, c⟩ D w ns) {i : Nat} {x : Nd} (hx : ns[i]? = some x) {ab : List Int} {va : Sl} (ln : Int) (ho : Own B w 3 .i64 va.v ab) :
    SetAt B s m ⟨some ⟨g, 0, none⟩, n, c⟩ D ((w.setCell ⟨g, i * 11 + 9, none⟩ va.v).setCell ⟨g, i * 11 + 10, none⟩ (.int .i64 ln)) (ns.set i (x.wa ab va ln)) := by
  have hil := (List.getElem?_eq_some_iff.1 hx).1
  have hel : ShN.el ns i = x := by
    rw [ShN.el_get hil]
    exact (List.getElem?_eq_some_iff.1 hx).2
  have hok := h.ok x (List.mem_of_getElem? hx)
  have h1 := h.put i 9 hil (by decide) va.v (x.wa ab va x.ln) (by rw [hel]; rfl) (by rw [hel]; rfl) ⟨hok.vi, hok.vs, ho⟩
  have hil2 : i < (ns.set i (x.wa ab va x.ln)).length := by rw [List.length_set]; exact hil
  have hg2 : (ns.set i (x.wa ab va x.ln))[i]? = some (x.wa ab va x.ln) := by rw [List.getElem?_set, if_pos rfl, if_pos hil]
  have hel2 : ShN.el (ns.set i (x.wa ab va x.ln)) i = x.wa ab va x.ln := by
    rw [ShN.el_get hil2]
    exact (List.getElem?_eq_some_iff.1 hg2).2
  have hok2 := h1.ok _ (List.mem_of_getElem? hg2)
  have h2 := h1.put i 10 hil2 (by decide) (.int .i64 ln) (x.wa ab va ln) (by rw [hel2]; rfl) (by rw [hel2]; rfl) ⟨hok2.vi, hok2.vs, hok2.va⟩
  rw [List.set_set] at h2
  exact h2
set_option maxRecDepth 100000 in
set_option maxHeartbeats 4000000 in
theorem new_any {w : World} {v : Value} {l : List KlV} (hb : Blt w) (h : ShK.Row w v l) (hl : l.length ≤ 64)
    (hz : ∀ x ∈ l, x.k.nm.size ≤ 140737488351232 ∧ x.k.sup.size ≤ 140737488351232 ∧ (∀ y ∈ x.k.ifs, y.size ≤ 140737488351232) ∧ x.k.ifs.length * 16 ≤ 140737488351232) (hnil : ∀ x ∈ l, x.vp = sl0 ∧ x.vf = sl0 ∧ x.vm = sl0) :
    Calls Tryd.prog 12 #[v] w fun e w' => Ext w w' ∧ ((∃ nm er, fltZ (New l) = some (nm, er) ∧ e = .returned (.tuple #[.pointer none, .string nm, .int .i64 er])) ∨
      (fltZ (New l) = none ∧ ∃ s m g n c D ns, e = .returned (.tuple #[.pointer (some ⟨s, 0, none⟩), .string ⟨#[]⟩, .int .i64 0]) ∧ SetNew w.heap.size s m g n c D (New l) w' ns)) := by
  have HG := Lib.hid (gather_any hb h hl hz hnil)
  have HZ := Lib.hid hz
  obtain ⟨A, c0, rfl, -, -, -⟩ := h.cut
  obtain ⟨n, hn⟩ : ∃ n, l.length = n := ⟨_, rfl⟩
  have HN := Lib.hid hn
  rw [hn] at hl HG ⊢
  have hlz : ¬ (64 : Int) < (n : Int) := by omega
  obtain ⟨b0, hb0⟩ : ∃ b0, w.heap.size = b0 := ⟨_, rfl⟩
  have HB0 := Lib.hid hb0
  rw [hb0] at HG ⊢
  obtain ⟨N, hN⟩ : ∃ N, New l = N := ⟨_, rfl⟩
  have HNE := Lib.hid hN
  rw [hN]
  obtain ⟨R, hR⟩ : ∃ R, fltZ N = R := ⟨_, rfl⟩
  rw [hR]
  have HR := Lib.hid hR
  clear hb h hz hnil hn hb0 hN hR
  go_enter Tryd.func12, Tryd.ntmps12
  go_wp2_with fail
  refine HG.out.mono ?_
  rintro e w1 ⟨s, m, g, c, D, ns, rfl, hset, hk, ht, h0, hx⟩
  have hk : kls ns = New l := hk
  have hlen : ns.length = 8 + n := by
    have : (kls ns).length = 8 + n := by
      rw [hk]; unfold New
      rw [List.length_append, List.length_map, (sortZ_perm cbK l).length_eq, HN.out]
      rfl
    simpa [kls] using this
  have hsz : SzOk ns := by
    have h1 : ∀ x ∈ ns, x.k.nm.size ≤ 140737488351232 ∧ x.k.sup.size ≤ 140737488351232 ∧ (∀ y ∈ x.k.ifs, y.size ≤ 140737488351232) := fun x hx => by
      have hm : x.k ∈ kls ns := List.mem_map.2 ⟨x, hx, rfl⟩
      rw [hk] at hm
      rcases List.mem_append.1 hm with hm | hm
      · have : ∀ y ∈ builtZ, y.nm.size ≤ 140737488351232 ∧ y.sup.size ≤ 140737488351232 ∧ y.ifs = [] := by decide
        obtain ⟨h1, h2, h3⟩ := this _ hm
        exact ⟨h1, h2, by rw [h3]; intro y hy; cases hy⟩
      · obtain ⟨y, hy, he⟩ := List.mem_map.1 hm
        obtain ⟨z1, z2, z3, -⟩ := HZ.out y ((sortZ_perm cbK l).mem_iff.1 hy)
        rw [← he]
        exact ⟨z1, z2, z3⟩
    exact ⟨fun x hx => (h1 x hx).1, fun x hx => (h1 x hx).2.1, fun x hx => (h1 x hx).2.2⟩
  obtain ⟨n3, hn3⟩ : ∃ n3, ns.length = n3 := ⟨_, rfl⟩
  rw [hn3] at hset hlen
  have hn72 : n3 ≤ 72 := by omega
  have hn8 : 8 ≤ n3 := by omega
  have HFA := Lib.hid (fault_any hset.ev hsz ht hk hn72)
  rw [hk] at HFA
  rw [HNE.out] at HFA hk
  rw [HR.out] at HFA
  have HNL : Hid (N.length = n3) := Lib.hid (by rw [← hk, ← hn3]; simp [kls])
  have HS := Lib.hid hset
  have HK := Lib.hid hk
  have HT := Lib.hid ht
  have HX := Lib.hid hx
  clear HG hset hk ht h0 hx hlen hsz hn3
  go_wp2_with fail
  refine HFA.out.mono ?_
  rintro e w2 ⟨rfl, x2⟩
  have HX2 := Lib.hid (HX.out.trans x2)
  have HS2 := Lib.hid (HS.out.ext x2)
  clear HFA HS HX x2
  rcases R with _ | ⟨nm, er⟩
  · dsimp only [fv]
    have HBN : Hid (N = builtZ ++ (sortZ cbK l).map (·.k)) := Lib.hid (by rw [← HNE.out]; rfl)
    have HOK : Hid (grK N).Ok := Lib.hid (by rw [HBN.out]; exact gr_ok _ (by rw [← HBN.out]; exact HR.out))
    have hs0 := HS2.out.c0
    dsimp only at hs0
    clear hk
    go_wp2_with fail
    go_loopw [26] (fun iv wr => ∃ (k : Nat) (ns : List Nd), iv = .int .i64 k ∧ k ≤ n3 ∧ Hid (SetAt b0 s m ⟨some ⟨g, 0, none⟩, n3, c⟩ D wr ns) ∧ Hid (kls ns = N) ∧ Hid (Told ns) ∧ Hid (Tld (grK N) k ns) ∧ Hid (Ext w wr)) (fun iv _ => n3 - (intOf iv).toNat)
    case atStart => exact ⟨0, ns, rfl, by omega, HS2, HK, HT, Lib.hid (fun i x hx h => by omega), HX2⟩
    case round =>
      obtain ⟨i, ns1, rfl, hin, HS, HK1, HT1, HA, HX⟩ := hrel
      rename World => wa
      clear HS2 HK HT HX2 hs0
      have hs0 := HS.out.c0
      dsimp only at hs0
      have HLN : Hid (ns1.length = n3) := Lib.hid (by rw [← HNL.out, ← HK1.out]; simp [kls])
      by_cases hlt : i < n3
      · have hltz : (i : Int) < (n3 : Int) := by omega
        have hil : i < ns1.length := by have := HLN.out; omega
        obtain ⟨x, hx⟩ : ∃ x, ns1[i]? = some x := ⟨ns1[i], List.getElem?_eq_getElem hil⟩
        have htg := told_gr (r := (sortZ cbK l).map (·.k)) HT1.out (HK1.out.trans HBN.out) (by rw [HK1.out]; exact HR.out)
        rw [HK1.out] at htg
        have hf := fltZ_none.1 (show fltZ (kls ns1) = none by rw [HK1.out]; exact HR.out)
        have hshort := is_short (r := (sortZ cbK l).map (·.k)) HT1.out (HK1.out.trans HBN.out) (by rw [HK1.out, HNL.out]; exact hn72) (fun j h1 h2 => (hf j h1 h2).2.1) (fun j h1 h2 => (hf j h1 h2).2.2.2.1)
        have HC := Lib.hid (climb_any HOK.out HS.out.ev (show (grK N).n = n3 from HNL.out) hn72 (fun j y h => (htg j y h).1) (fun j y h => (htg j y h).2) HLN.out hshort i hlt)
        have HPUT : Hid (∀ (W : World) (va : Sl), Ext wa W → Own b0 W 3 .i64 va.v (ints ((grK N).above i)) → SetAt b0 s m ⟨some ⟨g, 0, none⟩, n3, c⟩ D ((W.setCell ⟨g, i * 11 + 9, none⟩ va.v).setCell ⟨g, i * 11 + 10, none⟩ (.int .i64 ((grK N).chain i).length)) (ns1.set i (x.wa (ints ((grK N).above i)) va (((grK N).chain i).length : Int)))) := Lib.hid fun W va e ho => (HS.out.ext e).put2 hx _ ho
        have HFC : Hid (∀ W, Ext wa W → W.cell? ⟨g, i * 11 + 9, none⟩ = some (.slice x.va.A x.va.n x.va.c) ∧ W.cell? ⟨g, i * 11 + 10, none⟩ = some (.int .i64 x.ln) ∧ W.frozen? ⟨g, i * 11 + 9, none⟩ = false ∧ W.frozen? ⟨g, i * 11 + 10, none⟩ = false) := Lib.hid fun W e => by
          have h := HS.out.ext e
          obtain ⟨-, -, -, -, -, -, -, d9, d10⟩ := h.get.node i x hx
          rcases h.own.1.2 with ⟨e1, _⟩ | ⟨g', cap, cur, e1, _, e2, _⟩
          · cases e1
          · injection e1 with e1
            injection e1 with e1
            injection e1 with e1
            subst e1
            exact ⟨d9, d10, by simp [World.frozen?, e2], by simp [World.frozen?, e2]⟩
        have HAN : Hid (∀ va : Sl, Tld (grK N) (i + 1) (ns1.set i (x.wa (ints ((grK N).above i)) va (((grK N).chain i).length : Int)))) := Lib.hid fun va => HA.out.step hx
        have HKN : Hid (∀ va : Sl, kls (ns1.set i (x.wa (ints ((grK N).above i)) va (((grK N).chain i).length : Int))) = N) := Lib.hid fun va => (kls_set (y := x.wa (ints ((grK N).above i)) va (((grK N).chain i).length : Int)) hx rfl).trans HK1.out
        have HTN : Hid (∀ va : Sl, Told (ns1.set i (x.wa (ints ((grK N).above i)) va (((grK N).chain i).length : Int)))) := Lib.hid fun va => HT1.out.set hx
        have HBW : Hid (b0 ≤ wa.heap.size) := Lib.hid (by have := HX.out.size; have := HB0.out; omega)
        have HBG : Hid (b0 ≤ g) := Lib.hid HS.out.low.2.1
        obtain ⟨ab, hab⟩ : ∃ ab, ints ((grK N).above i) = ab := ⟨_, rfl⟩
        obtain ⟨ln, hln⟩ : ∃ ln, ((grK N).chain i).length = ln := ⟨_, rfl⟩
        rw [hab, hln] at HPUT HAN HKN HTN
        rw [hab, hln] at HC
        clear hx htg hf hshort hil hab hln
        go_wp2_with fail
        refine HC.out.mono ?_
        rintro e w5 ⟨v', rfl, ho5, x5⟩
        obtain ⟨A', c', e4, hc4, hm4, -⟩ := id ho5.row
        obtain ⟨nn, hnn⟩ : ∃ nn, ab.length = nn := ⟨_, rfl⟩
        rw [hnn] at e4
        subst e4
        have HO5 : Hid (Own b0 w5 3 .i64 (.slice A' nn c') ab) := Lib.hid (ho5.base HBW.out)
        have HP5 := Lib.hid (HPUT.out w5 ⟨A', nn, c'⟩ x5 HO5.out)
        unfold Sl.v at HP5
        have HX5 := Lib.hid (HX.out.trans x5)
        obtain ⟨q9, q10, r9, r10⟩ := HFC.out w5 x5
        clear ho5 x5 hc4 hm4 hnn HC HPUT HFC
        go_wp2_with fail
        have HX6 : Hid (Ext w ((w5.setCell ⟨g, i * 11 + 9, none⟩ (.slice A' nn c')).setCell ⟨g, i * 11 + 10, none⟩ (.int .i64 ln))) := Lib.hid ((HX5.out.set_ (by rw [HB0.out]; exact HBG.out) _).set_ (by rw [HB0.out]; exact HBG.out) _)
        go_roundw
        case rel => exact ⟨i + 1, _, by go_num, by omega, HP5, Lib.hid (HKN.out _), Lib.hid (HTN.out _), Lib.hid (HAN.out _), HX6⟩
        case measure => first | (simp [intOf]; omega) | simp [intOf]
      · have hltz : ¬ (i : Int) < (n3 : Int) := by omega
        have hin3 : i = n3 := by omega
        subst hin3
        have HF : Hid (∃ s' m g' n c D ns, (s' = s) ∧ SetNew b0 s' m g' n c D N wa ns) := Lib.hid ⟨s, m, g, _, c, D, ns1, rfl, HS.out, HK1.out, HT1.out, HA.out⟩
        go_wp2
        go_ret3
        obtain ⟨s', m, g', n, c, D, ns, rfl, hF⟩ := HF.out
        exact ⟨HX.out, _, rfl, _, _, _, _, _, _, hF⟩
  · dsimp only [fv]
    have her := fltZ_err HR.out
    rcases her with rfl | rfl | rfl
    all_goals
      go_wp2
      go_ret3
      exact ⟨HX2.out, .inl ⟨_, _, rfl, rfl⟩⟩
end Go.Proofs.YtkkfkjjmmdpafaaDoor
namespace Go.Proofs.YtkkfkjjmmdpafaaDoor
open Go.RowKit Go.Maps Go.WideMaps
set_option linter.unusedVariables false

theorem insZ_mapG {α β : Type} (f : α → β) (p : β → β → Bool) (x : α) : ∀ l : List α, (insZ (fun a b => p (f a) (f b)) x l).map f = insZ p (f x) (l.map f)
  | [] => rfl
  | y :: l => by
    unfold insZ
    simp only [List.map_cons]
    by_cases h : p (f x) (f y) = true
    · rw [if_pos h, if_pos h]; rfl
    · rw [if_neg h, if_neg h, List.map_cons, insZ_mapG f p x l]
theorem sortZ_mapG {α β : Type} (f : α → β) (p : β → β → Bool) (l : List α) : (sortZ (fun a b => p (f a) (f b)) l).map f = sortZ p (l.map f) := by
  unfold sortZ
  have : ∀ (l out : List α), (l.foldl (fun out x => insZ (fun a b => p (f a) (f b)) x out) out).map f = (l.map f).foldl (fun out x => insZ p x out) (out.map f) := by
    intro l
    induction l with
    | nil => intro out; rfl
    | cons x l ih => intro out; rw [List.foldl_cons, ih, insZ_mapG f p x out]; rfl
  exact this l []
theorem new_setZ (l : List KlV) : New l = setZ nlt (l.map (·.k)) := by
  unfold New setZ
  rw [← sortZ_mapG (fun x : KlV => x.k) (fun a b => nlt a.nm b.nm) l]
  rfl
set_option maxRecDepth 100000 in
theorem cloneI_any {w : World} {v : Value} {l : List Int} (h : Row w .i64 v l) (hl : l.length ≤ 1000000) :
    Calls Tryd.prog 53 #[v] w fun e w' => ∃ v', e = .returned v' ∧ Own w.heap.size w' 3 .i64 v' l ∧ Ext w w' := by
  obtain ⟨A, c, rfl, h2, h3, h4, h5, h6⟩ := h
  have hq := fun (W : World) (A : Option Addr) (n c : Nat) => Lib.run_eql_slice_nil (P := Tryd.prog) W 48 3 A n c 0 0 Tryd.underlying48
  rcases A with _ | ad
  · have hc := h4 rfl
    have hl : l = [] := List.eq_nil_of_length_eq_zero (by omega)
    subst hl
    subst hc
    clear h6 h5 h4
    go_enter Tryd.func53, Tryd.ntmps53
    go_wp2
    go_ret
    exact ⟨_, rfl, Own.nil _ _ _ _, Ext.refl _⟩
  · have h : Row w .i64 (.slice (some ad) l.length c) l := ⟨_, _, rfl, h2, h3, h4, h5, h6⟩
    clear h6 h5 h4
    go_enter Tryd.func53, Tryd.ntmps53
    go_wp2_with (at_builtin; go_loud (refine wpList_app _ rfl _ _ w.heap.size 48 3 _ 8 .i64 rfl Tryd.underlying48 infoI rfl (by omega) _ [] rfl (Own.made _ _ _ _ (Nat.le_refl _)) _ l rfl ?hh (by simp; omega) (by simp) ?_))
    case hh => exact h.ext ((Ext.refl _).alloc _)
    intro v' w' ho hg _
    go_wp2
    go_ret
    exact ⟨_, rfl, by simpa using ho, ((Ext.refl _).alloc _).grown hg (fun g hg => by simp [Value.ownBlock] at hg; omega)⟩
section
variable {B s m g n c : Nat} {D : DataW Unit} {N : List Kl} {w : World} {ns : List Nd}
theorem SetNew.ext {w' : World} (h : SetNew B s m g n c D N w ns) (e : Ext w w') : SetNew B s m g n c D N w' ns := ⟨h.set.ext e, h.kl, h.told, h.above⟩
theorem SetNew.len (h : SetNew B s m g n c D N w ns) : ns.length = n ∧ N.length = n := by
  have h1 := h.set.get.len
  exact ⟨h1.symm, by rw [← h.kl]; simp [kls, h1]⟩
theorem SetNew.at (h : SetNew B s m g n c D N w ns) (i : Nat) (hi : i < n) : ∃ x, ns[i]? = some x ∧ x.k = gk N i ∧ x.ab = ints ((grK N).above i) ∧ x.ln = ((grK N).chain i).length := by
  have hl := h.len.1
  obtain ⟨x, hx⟩ : ∃ x, ns[i]? = some x := ⟨ns[i]'(by omega), List.getElem?_eq_getElem (by omega)⟩
  obtain ⟨h1, h2⟩ := h.above i x hx hi
  exact ⟨x, hx, by rw [← h.kl, gk_of hx], h1, h2⟩
set_option maxRecDepth 100000 in
theorem name_in (h : SetNew B s m g n c D N w ns) (h72 : n ≤ 72) (i : Nat) (hi : i < n) (hz : (gk N i).nm.size ≤ 140737488351232) : Calls Tryd.prog 20 #[.pointer (some ⟨s, 0, none⟩), .int .i64 i] w fun e w' => e = .returned (.string (gk N i).nm) ∧ Ext w w' := by
  obtain ⟨x, hx, hk, -, -⟩ := h.at i hi
  obtain ⟨-, x1, -⟩ := h.set.get.node i x hx
  rw [hk] at x1
  have HN := Lib.hid (node_in h.set.get i hi h72)
  have HC := Lib.hid (fun W => sclone_any (gk N i).nm W hz)
  obtain ⟨nm, hnm⟩ : ∃ nm, (gk N i).nm = nm := ⟨_, rfl⟩
  rw [hnm] at HC x1 ⊢
  clear h hx hk hz hnm
  go_enter Tryd.func20, Tryd.ntmps20
  go_wp2_with fail
  refine HN.out.mono ?_
  rintro e w' ⟨rfl, rfl⟩
  go_wp2_with fail
  refine (HC.out _).mono ?_
  rintro e w5 ⟨rfl, x5⟩
  go_wp2
  go_ret
  exact ⟨rfl, x5⟩
theorem above_len (hok : (grK N).Ok) {i : Nat} (hi : i < N.length) : ((grK N).above i).length ≤ N.length := by
  have h := (hok.above_wd i hi).nd
  exact nodup_len h.1 h.2
set_option maxRecDepth 100000 in
theorem above_in (h : SetNew B s m g n c D N w ns) (hok : (grK N).Ok) (h72 : n ≤ 72) (i : Nat) (hi : i < n) : Calls Tryd.prog 30 #[.pointer (some ⟨s, 0, none⟩), .int .i64 i] w fun e w' => ∃ v', e = .returned v' ∧ Own w.heap.size w' 3 .i64 v' (ints ((grK N).above i)) ∧ Ext w w' := by
  obtain ⟨x, hx, hk, hab, -⟩ := h.at i hi
  obtain ⟨-, -, -, -, -, -, -, x9, -⟩ := h.set.get.node i x hx
  have hr : Row w .i64 (.slice x.va.A x.va.n x.va.c) (ints ((grK N).above i)) := by rw [← hab]; exact (h.set.ok x (List.mem_of_getElem? hx)).va.row
  have HN := Lib.hid (node_in h.set.get i hi h72)
  have HC := Lib.hid (cloneI_any hr (by rw [ints_len]; have := above_len hok (i := i) (by rw [h.len.2]; exact hi); have := h.len.2; omega))
  clear h hx hk hr hab
  go_enter Tryd.func30, Tryd.ntmps30
  go_wp2_with fail
  refine HN.out.mono ?_
  rintro e w' ⟨rfl, rfl⟩
  go_wp2_with fail
  refine HC.out.mono ?_
  rintro e w5 ⟨v', rfl, ho, x5⟩
  go_wp2
  go_ret
  exact ⟨_, rfl, ho, x5⟩
set_option maxRecDepth 100000 in
theorem below_in (h : SetNew B s m g n c D N w ns) (h72 : n ≤ 72) (i : Nat) (hi : i < n) (j : Int) : Calls Tryd.prog 32 #[.pointer (some ⟨s, 0, none⟩), .int .i64 i, .int .i64 j] w fun e w' => e = .returned (.bool ((ints ((grK N).above i)).contains j)) ∧ w' = w := by
  obtain ⟨x, hx, hk, hab, -⟩ := h.at i hi
  obtain ⟨-, -, -, -, -, -, -, x9, -⟩ := h.set.get.node i x hx
  have hr : Row w .i64 (.slice x.va.A x.va.n x.va.c) (ints ((grK N).above i)) := by rw [← hab]; exact (h.set.ok x (List.mem_of_getElem? hx)).va.row
  have HN := Lib.hid (node_in h.set.get i hi h72)
  have HC := Lib.hid (contains_any hr j)
  obtain ⟨bb, hbb⟩ : ∃ bb, (ints ((grK N).above i)).contains j = bb := ⟨_, rfl⟩
  rw [hbb] at HC ⊢
  clear h hx hk hr hab hbb
  go_enter Tryd.func32, Tryd.ntmps32
  go_wp2_with fail
  refine HN.out.mono ?_
  rintro e w' ⟨rfl, rfl⟩
  go_wp2_with fail
  refine HC.out.mono ?_
  rintro e w5 ⟨rfl, rfl⟩
  go_wp2
  go_ret
  exact ⟨rfl, rfl⟩
set_option maxRecDepth 100000 in
theorem number_any (h : SetNew B s m g n c D N w ns) (nm : ByteArray) (hz : nm.size ≤ 140737488351232) : Calls Tryd.prog 16 #[.pointer (some ⟨s, 0, none⟩), .string nm] w fun e w' => e = .returned (.tuple #[.int .i64 (if findZ N nm < 0 then 0 else findZ N nm), .bool (decide (0 ≤ findZ N nm))]) ∧ w' = w := by
  have c1 := h.set.get.c1
  have hlk := h.set.get.look nm hz
  rw [show ns.map (·.k) = N from h.kl] at hlk
  obtain ⟨a, ha⟩ : ∃ a : Int, (if findZ N nm < 0 then 0 else findZ N nm) = a := ⟨_, rfl⟩
  obtain ⟨b, hb⟩ : ∃ b, decide (0 ≤ findZ N nm) = b := ⟨_, rfl⟩
  rw [ha, hb] at hlk ⊢
  clear h ha hb
  go_enter Tryd.func16, Tryd.ntmps16
  go_wp2
  go_ret2
  exact ⟨rfl, rfl⟩
end
end Go.Proofs.YtkkfkjjmmdpafaaDoor
