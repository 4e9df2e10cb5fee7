/- Several texts of this proof, one behind the other. -/
import Derived.Test.YtladeaofhdaloaaDoorYaH
import Derived.Test.YtladeaofhdaloaaDoorYaN
import Derived.Deep.RegionHeld3
import Derived.Deep.RegionLaw
import Derived.Deep.QuietTactic
namespace Go.Proofs.YtladeaofhdaloaaDoor
open Go.RowKit Go.Maps Go.WideMaps
set_option linter.unusedVariables false

def Ga (b0 : Nat) (w : World) (N : List Kl) (wr : World) : Prop := ∃ v D ns, SetAt b0 (b0 + 1) b0 v D wr ns ∧ kls ns = N ∧ Raw ns ∧ KeptT b0 w wr
theorem Ga.add {b0 : Nat} {w W : World} {N : List Kl} (h : Ga b0 w N W) (hN : N.length ≤ 71) (nd : Nd) (hr : nd.is = [] ∧ nd.vs = sl0 ∧ nd.ab = [] ∧ nd.va = sl0 ∧ nd.ln = 0 ∧ (N.length < 8 → nd.su = supI [] N.length)) (hz : nd.k.nm.size ≤ 140737488351232) (hn : NdOk b0 W nd) :
    Calls Tryd.prog 61 #[.pointer (some ⟨b0 + 1, 0, none⟩), .agg nd.vals] W fun e w' => e = .returned (.tuple #[]) ∧ Ga b0 w (N ++ [nd.k]) w' ∧ KeptT b0 W w' := by
  obtain ⟨v, D, ns, h1, h2, h3, h4⟩ := h
  have hlen : ns.length = N.length := by rw [← h2]; simp [kls]
  refine (add_any h1 hn hz (by omega) (by have := h1.bm; have := h1.lt.2; omega)).mono ?_
  rintro e w' ⟨rfl, k, v', D', h5⟩
  refine ⟨rfl, ⟨v', D', _, h5, by rw [← h2]; simp [kls], h3.snoc (by rw [hlen]; exact hr), h4.trans k⟩, k⟩
theorem Ga.ext {b0 : Nat} {w W W' : World} {N : List Kl} (h : Ga b0 w N W) (e : Ext W W') : Ga b0 w N W' := by
  obtain ⟨v, D, ns, h1, h2, h3, h4⟩ := h
  exact ⟨v, D, ns, h1.ext e, h2, h3, h4.trans (KeptT.ext e)⟩
theorem SetAt.keptC {B s m : Nat} {v : Sl} {D : DataW Unit} {w w' : World} {ns : List Nd} {row : Option Nat} (h : SetAt B s m v D w ns) (hg : w.grownBy w' row) (hr : ∀ g, row = some g → ∃ c z, w.heap[g]? = some (.cells c 36 z)) : SetAt B s m v D w' ns := by
  have hr2 : ∀ g, row = some g → ∃ o, w.heap[g]? = some o ∧ (∀ c z, o ≠ .cells c ShS.T z) ∧ (∀ c z, o ≠ .cells c 3 z) := fun g hq => by
    obtain ⟨c, z, h1⟩ := hr g hq
    refine ⟨_, h1, fun c z e => ?_, fun c z e => ?_⟩
    · injection e with _ e _; exact absurd e (by decide)
    · injection e with _ e _; exact absurd e (by decide)
  refine ⟨h.bs, h.bm, ?_, h.own.kept hg (fun g hv e => ?_) (fun _ _ h => h), h.map.kept hg (fun e => ?_), h.num, fun x hx => (h.ok x hx).kept hg hr2⟩
  · refine (hg.block s (lt_of_get h.blk) (fun e => ?_)).trans h.blk
    obtain ⟨c, z, h1⟩ := hr s e.symm
    rw [h.blk] at h1
    injection h1 with h1
    injection h1 with _ e _
    exact absurd e (by decide)
  · obtain ⟨c, z, h1⟩ := hr g e
    exact Shp.Own.ne h.own h1 (by decide) hv
  · obtain ⟨c, z, h1⟩ := hr m e.symm
    obtain ⟨es, clock, hb, _⟩ := h.map
    rw [hb] at h1
    cases h1
theorem ownW_some {W0 : World} {B : Nat} {w : World} {A : Option Addr} {n c : Nat} {l : List KlV} (h : (ShKW W0).Own B w (.slice A n c) l) (hl : 0 < l.length) : ∃ g, A = some ⟨g, 0, none⟩ := by
  rcases h.1.2 with ⟨h1, h2⟩ | ⟨g, cap, cur, h1, _⟩
  · omega
  · injection h1 with e1 e2 e3
    exact ⟨g, e1⟩
theorem built_su (k : Nat) (h : k < 8) : (if (k : Int) = 0 then (-1 : Int) else if (k : Int) = 1 then 0 else 1) = supI [] (builtZ.take k).length := by
  rcases k with _ | _ | _ | _ | _ | _ | _ | _ | k
  all_goals first | rfl | omega
set_option maxRecDepth 100000 in
set_option maxHeartbeats 4000000 in
theorem gather_any {w : World} {v : Value} {l : List KlV} (hb : Blt w) (h : ShK.Row w v l) (hl : l.length ≤ 64)
    (hz : ∀ x ∈ l, x.k.nm.size ≤ 140737488351232 ∧ x.k.sup.size ≤ 140737488351232 ∧ (∀ y ∈ x.k.ifs, y.size ≤ 140737488351232) ∧ x.k.ifs.length * 16 ≤ 140737488351232) (hnil : ∀ x ∈ l, x.vp = sl0 ∧ x.vf = sl0 ∧ x.vm = sl0) :
    Calls Tryd.prog 40 #[v] w fun e w' => ∃ s m g c D ns, e = .returned (.pointer (some ⟨s, 0, none⟩)) ∧ SetAt w.heap.size s m ⟨some ⟨g, 0, none⟩, ns.length, c⟩ D w' ns ∧ kls ns = builtZ ++ (sortZ cbK l).map (·.k) ∧ Told ns ∧ (∀ x ∈ ns, x.ab = [] ∧ x.va = sl0 ∧ x.ln = 0) ∧ Ext w w' := by
  have hmm := @run_makeMap Tryd.prog
  obtain ⟨b0, hb0⟩ : ∃ b0, w.heap.size = b0 := ⟨_, rfl⟩
  obtain ⟨W1, hW1⟩ : ∃ W1, (w.alloc (.map #[] 0)).alloc (.cells #[.slice none 0 0, .map (some w.heap.size)] 69) = W1 := ⟨_, rfl⟩
  have HE1 : Hid (Ext w W1) := Lib.hid (by rw [← hW1]; exact ((Ext.refl w).alloc _).alloc _)
  have hs0 := SetAt.new w
  rw [hW1, hb0] at hs0
  have HG0 : Hid (Ga b0 w (builtZ.take 0) W1) := Lib.hid ⟨_, _, _, hs0, rfl, Raw.nil, KeptT.ext HE1.out⟩
  have HB := Lib.hid hb
  have HB0 := Lib.hid hb0
  have HR := Lib.hid h
  have HZ := Lib.hid hz
  have HNIL := Lib.hid hnil
  have hB1 := hb.ext HE1.out
  have y0 := hB1.2 0 (by omega)
  have y1 := hB1.2 1 (by omega)
  have y2 := hB1.2 2 (by omega)
  have y3 := hB1.2 3 (by omega)
  have y4 := hB1.2 4 (by omega)
  have y5 := hB1.2 5 (by omega)
  have y6 := hB1.2 6 (by omega)
  have y7 := hB1.2 7 (by omega)
  obtain ⟨n, hn⟩ : ∃ n, l.length = n := ⟨_, rfl⟩
  have HN := Lib.hid hn
  rw [hn] at hl
  clear hs0 hb h hz hnil hB1 hn
  rw [hb0]
  go_enter Tryd.func40, Tryd.ntmps40
  go_upto_region 2 with fail
  rw [hb0] at hW1
  rw [hW1]
  clear hW1 hb0 hmm
  go_wp2_with fail
  go_loopw [17] (fun iv wr => ∃ k : Nat, iv = .int .i64 k ∧ k ≤ 8 ∧ Hid (Ga b0 w (builtZ.take k) wr)) (fun iv _ => 8 - (intOf iv).toNat)
  case atStart => exact ⟨0, rfl, by omega, HG0⟩
  case round =>
    obtain ⟨k, rfl, hk, HG⟩ := hrel
    rename World => wr
    clear HG0
    by_cases hlt : k < 8
    · have hltz : (k : Int) < 8 := by omega
      have hix := fun W => idx8 W k hlt
      have HS := Lib.hid (fun W => supB_any W (k : Int))
      have HA := Lib.hid (HG.out.add (by simp [builtZ]; omega) ⟨⟨bnm k, ⟨#[]⟩, false, []⟩, sl0, (if (k : Int) = 0 then -1 else if (k : Int) = 1 then 0 else 1), [], sl0, [], sl0, 0⟩ ⟨rfl, rfl, rfl, rfl, rfl, fun _ => built_su k hlt⟩ (by have := bnm_size k hlt; simp only; omega) (NdOk.bare _ _ _))
      have HSN := Lib.hid (built_snoc k hlt)
      obtain ⟨nm, hnm⟩ : ∃ nm, bnm k = nm := ⟨_, rfl⟩
      rw [hnm] at hix HA HSN
      obtain ⟨su, hsu⟩ : ∃ su : Int, (if (k : Int) = 0 then -1 else if (k : Int) = 1 then 0 else 1) = su := ⟨_, rfl⟩
      rw [hsu] at HA HS
      clear hnm hsu
      go_wp2_with fail
      refine (HS.out _).mono ?_
      rintro e w5 ⟨rfl, rfl⟩
      go_wp2_with fail
      refine HA.out.mono ?_
      rintro e w6 ⟨rfl, hg6, -⟩
      have HG6 : Hid (Ga b0 w (builtZ.take (k + 1)) w6) := Lib.hid (by rw [HSN.out]; exact hg6)
      clear hg6 HA HS hix HSN
      go_wp2_with fail
      go_roundw
      case rel => exact ⟨k + 1, by go_num, by omega, HG6⟩
      case measure => first | (simp [intOf]; omega) | simp [intOf]
    · have hltz : ¬ (k : Int) < 8 := by omega
      have hk8 : k = 8 := by omega
      subst hk8
      have HG1 : Hid (Ga b0 w builtZ wr) := Lib.hid (by have := HG.out; rwa [show builtZ.take 8 = builtZ from rfl] at this)
      have HX : Hid (Ext w wr) := Lib.hid (by obtain ⟨v', D, ns, h1, h2, h3, h4⟩ := HG1.out; exact h4.toExt (by rw [HB0.out]; exact Nat.le_refl _))
      clear HG y0 y1 y2 y3 y4 y5 y6 y7
      have hc := cloneK_any (HR.out.ext HX.out) (by rw [HN.out]; exact hl)
      rw [HN.out] at hc
      have HC := Lib.hid hc
      clear hc
      go_wp2_with fail
      refine HC.out.mono ?_
      rintro e w7 ⟨A7, c7, rfl, ho7, x7⟩
      have HG7 := Lib.hid (HG1.out.ext x7)
      have hs := sortStable_any (W0 := wr) (w := w7) (B := wr.heap.size) (c := c7) (A := A7) l (by rw [HN.out]; exact hl) (by rw [HN.out]; exact ho7)
      rw [HN.out] at hs
      have HS := Lib.hid hs
      obtain ⟨R, hR⟩ : ∃ R, sortZ cbK l = R := ⟨_, rfl⟩
      have HRR := Lib.hid hR
      have HRL : Hid (R.length = n) := Lib.hid (by rw [← hR, (sortZ_perm cbK l).length_eq, HN.out])
      rw [hR] at HS
      have HOT : Hid (∀ q, (Value.slice A7 n c7).ownBlock = some q → wr.heap.size ≤ q ∧ ∃ c z, w7.heap[q]? = some (.cells c 36 z)) := Lib.hid fun q hq => ⟨Shp.Own.low ho7 q hq, Shp.Own.typed ho7 q hq⟩
      have HX7 := Lib.hid (HX.out.trans x7)
      clear HC ho7 HG1 x7 hs hR
      go_wp2_with fail
      refine HS.out.mono ?_
      rintro e w8 ⟨rfl, ho8, g8⟩
      have HX8 : Hid (Ext w w8) := Lib.hid (HX7.out.grown g8 (fun q hq => Nat.le_trans HX.out.size (HOT.out q hq).1))
      have HG8 : Hid (Ga b0 w builtZ w8) := Lib.hid (by
        obtain ⟨v', D, ns, h1, h2, h3, h4⟩ := HG7.out
        exact ⟨v', D, ns, h1.keptC g8 (fun q hq => (HOT.out q hq).2), h2, h3, KeptT.ext HX8.out⟩)
      have HO8 := Lib.hid ho8
      have HWR : Hid (Ext w wr) := HX
      clear HS HG7 HX7 HOT ho8 g8 HX
      obtain ⟨Bc, hBc⟩ : ∃ Bc, wr.heap.size = Bc := ⟨_, rfl⟩
      rw [hBc] at HO8
      clear hBc
      go_wp2_with fail
      go_loopw [35] (fun iv wr => ∃ k : Nat, iv = .int .i64 k ∧ k ≤ n ∧ Hid (Ga b0 w (builtZ ++ (R.map (·.k)).take k) wr) ∧ Hid (KeptT b0 w8 wr)) (fun iv _ => n - (intOf iv).toNat)
      case atStart => exact ⟨0, rfl, by omega, Lib.hid (by simpa using HG8.out), Lib.hid (KeptT.refl _ _)⟩
      case round =>
        obtain ⟨k, rfl, hk, HG, HK⟩ := hrel
        rename World => wq
        clear HG8
        by_cases hlt : k < n
        · have hltz : (k : Int) < (n : Int) := by omega
          have hkl : k < R.length := by have := HRL.out; omega
          have HOq := Lib.hid (HO8.out.keptT HK.out (show 36 ≠ _ by decide) (show 36 ≠ _ by decide) (fun _ h => h))
          obtain ⟨g, hg⟩ := ownW_some HOq.out (by omega)
          subst hg
          obtain ⟨x, hx⟩ : ∃ x, R[k]? = some x := ⟨R[k], List.getElem?_eq_getElem hkl⟩
          obtain ⟨ha, hn, -⟩ := AtK.cellsW HOq.out k x hx
          have hxl : x ∈ l := by
            have := List.mem_of_getElem? hx
            rw [← HRR.out] at this
            exact (sortZ_perm cbK l).mem_iff.1 this
          obtain ⟨e0, e5, e6⟩ := HNIL.out x hxl
          obtain ⟨z1, z2, z3, z4⟩ := HZ.out x hxl
          have HNE : Hid (ShS.Row w x.vi.v x.k.ifs) := Lib.hid (HR.out.low x hxl)
          unfold AtK at ha
          rw [e0, e5, e6] at ha
          obtain ⟨y0', y1, y2, y3, y4, y5', y6'⟩ := ha
          have y0 : wq.cell? ⟨g, k * 7, none⟩ = some (.slice none 0 0) := y0'
          have y5 : wq.cell? ⟨g, k * 7 + 5, none⟩ = some (.slice none 0 0) := y5'
          have y6 : wq.cell? ⟨g, k * 7 + 6, none⟩ = some (.slice none 0 0) := y6'
          have HTK : Hid ((R.map (·.k)).take (k + 1) = (R.map (·.k)).take k ++ [x.k]) := Lib.hid (by
            have : (R.map (·.k))[k]? = some x.k := by rw [List.getElem?_map, hx]; rfl
            rw [List.take_add_one, this]; rfl)
          have HNLN : Hid ((builtZ ++ (R.map (·.k)).take k).length ≤ 71) := Lib.hid (by have h8 : builtZ.length = 8 := rfl; rw [List.length_append, h8, List.length_take]; omega)
          have HN8 : Hid (¬ (builtZ ++ (R.map (·.k)).take k).length < 8) := Lib.hid (by have h8 : builtZ.length = 8 := rfl; rw [List.length_append, h8]; omega)
          have HKE : Hid (k + 1 ≤ n) := Lib.hid hlt
          have HWE : Hid (Ext w wq) := Lib.hid (by obtain ⟨v', D, ns, h1, h2, h3, h4⟩ := HG.out; exact h4.toExt (by rw [HB0.out]; exact Nat.le_refl _))
          clear e0 e5 e6 hn hxl y0' y5' y6' hx
          go_upto_region 12 with fail
          obtain ⟨W9, hW9⟩ : ∃ W9, wq.alloc (.cells #[.slice none 0 0, .string x.k.nm, .string x.k.sup, .bool x.k.inf, .slice x.vi.A x.vi.n x.vi.c, .slice none 0 0, .slice none 0 0] 36) = W9 := ⟨_, rfl⟩
          rw [hW9]
          have HX9 : Hid (Ext wq W9) := Lib.hid (by rw [← hW9]; exact (Ext.refl _).alloc _)
          have hb9 : W9.heap[wq.heap.size]? = some (.cells #[.slice none 0 0, .string x.k.nm, .string x.k.sup, .bool x.k.inf, .slice x.vi.A x.vi.n x.vi.c, .slice none 0 0, .slice none 0 0] 36 (0, 0)) := by rw [← hW9]; exact heap_alloc_new _ _
          obtain ⟨q9, hq9⟩ : ∃ q9, wq.heap.size = q9 := ⟨_, rfl⟩
          rw [hq9] at hb9 ⊢
          have c0 : W9.cell? ⟨q9, 0, none⟩ = some (.slice none 0 0) := by rw [cell_of_row W9 q9 0 _ _ (0, 0) hb9]; rfl
          have c1 : W9.cell? ⟨q9, 1, none⟩ = some (.string x.k.nm) := by rw [cell_of_row W9 q9 1 _ _ (0, 0) hb9]; rfl
          have c2 : W9.cell? ⟨q9, 2, none⟩ = some (.string x.k.sup) := by rw [cell_of_row W9 q9 2 _ _ (0, 0) hb9]; rfl
          have c3 : W9.cell? ⟨q9, 3, none⟩ = some (.bool x.k.inf) := by rw [cell_of_row W9 q9 3 _ _ (0, 0) hb9]; rfl
          have c4 : W9.cell? ⟨q9, 4, none⟩ = some (.slice x.vi.A x.vi.n x.vi.c) := by rw [cell_of_row W9 q9 4 _ _ (0, 0) hb9]; rfl
          have c5 : W9.cell? ⟨q9, 5, none⟩ = some (.slice none 0 0) := by rw [cell_of_row W9 q9 5 _ _ (0, 0) hb9]; rfl
          have c6 : W9.cell? ⟨q9, 6, none⟩ = some (.slice none 0 0) := by rw [cell_of_row W9 q9 6 _ _ (0, 0) hb9]; rfl
          have HC := Lib.hid (own_any (w := W9) x.k x.vi.A x.vi.n x.vi.c (HNE.out.ext (HWE.out.trans HX9.out)) z1 z2 z3 z4)
          have HA : Hid (∀ A' n' c' w', ShS.Own b0 w' (.slice A' n' c') x.k.ifs → Ext W9 w' → Calls Tryd.prog 61 #[.pointer (some ⟨b0 + 1, 0, none⟩), .agg (⟨x.k, ⟨A', n', c'⟩, 0, [], sl0, [], sl0, 0⟩ : Nd).vals] w' fun e w2 => e = .returned (.tuple #[]) ∧ Ga b0 w ((builtZ ++ (R.map (·.k)).take k) ++ [x.k]) w2 ∧ KeptT b0 w' w2) := Lib.hid fun A' n' c' w' ho e =>
            (HG.out.ext (HX9.out.trans e)).add HNLN.out ⟨x.k, ⟨A', n', c'⟩, 0, [], sl0, [], sl0, 0⟩ ⟨rfl, rfl, rfl, rfl, rfl, fun h => absurd h HN8.out⟩ z1 ⟨ho, Own.nil _ _ _ _, Own.nil _ _ _ _⟩
          have HLE : Hid (b0 ≤ W9.heap.size) := Lib.hid (by have := (HWE.out.trans HX9.out).size; have := HB0.out; omega)
          clear hW9 hb9 hq9 z1 z2 z3 z4 y0 y1 y2 y3 y4 y5 y6
          go_wp2_with fail
          refine HC.out.mono ?_
          rintro e w10 ⟨A', n', c', rfl, ho10, x10⟩
          have HA2 := Lib.hid (HA.out A' n' c' w10 (Shp.Own.base' ho10 HLE.out) x10)
          have HX10 := Lib.hid (HX9.out.trans x10)
          clear HA HC ho10 x10 c0 c1 c2 c3 c4 c5 c6
          go_wp2_with fail
          refine HA2.out.mono ?_
          rintro e w11 ⟨rfl, hg11, hk11⟩
          have HG11 : Hid (Ga b0 w (builtZ ++ (R.map (·.k)).take (k + 1)) w11) := Lib.hid (by rw [HTK.out, ← List.append_assoc]; exact hg11)
          have HK11 : Hid (KeptT b0 w8 w11) := Lib.hid ((HK.out.trans (KeptT.ext HX10.out)).trans hk11)
          clear hg11 hk11 HA2
          go_wp2_with fail
          go_roundw
          case rel => exact ⟨k + 1, by go_num, HKE.out, HG11, HK11⟩
          case measure => first | (simp [intOf]; omega) | simp [intOf]
        · have hltz : ¬ (k : Int) < (n : Int) := by omega
          have hkn : k = n := by omega
          subst hkn
          obtain ⟨vv, D, ns0, h1, h2, h3, h4⟩ := HG.out
          have h2 : kls ns0 = builtZ ++ R.map (·.k) := by rw [h2, List.take_of_length_le (by rw [List.length_map, HRL.out]; exact Nat.le_refl _)]
          have hb8 : builtZ.length = 8 := rfl
          have hnl : ns0.length = 8 + k := by
            have : (kls ns0).length = 8 + k := by rw [h2, List.length_append, List.length_map, HRL.out, hb8]
            simpa [kls] using this
          obtain ⟨g, hv, hc, hbg, hgw⟩ := h1.g (by omega)
          obtain ⟨c3, hc3⟩ : ∃ c3, vv.c = c3 := ⟨_, rfl⟩
          obtain ⟨n3, hn3⟩ : ∃ n3, ns0.length = n3 := ⟨_, rfl⟩
          rw [hc3, hn3] at hv
          rw [hc3, hn3] at hc
          rw [hn3] at hnl
          subst hv
          have HXE : Hid (Ext w wq) := Lib.hid (h4.toExt (by rw [HB0.out]; exact Nat.le_refl _))
          obtain ⟨N, hN⟩ : ∃ N, builtZ ++ R.map (·.k) = N := ⟨_, rfl⟩
          have HNB := Lib.hid hN
          rw [hN] at h2
          have HH0 : Hid (Half N 8 ns0) := Lib.hid (by rw [← hN]; exact Half.start h3 (h2.trans hN.symm))
          have HNL : Hid (N.length = n3) := Lib.hid (by rw [← h2, ← hn3]; simp [kls])
          have HSZ : Hid (∀ (i : Nat) (y : Kl), 8 ≤ i → N[i]? = some y → y.sup.size ≤ 140737488351232 ∧ (∀ z ∈ y.ifs, z.size ≤ 140737488351232) ∧ y.ifs.length * 16 ≤ 140737488351232) := Lib.hid fun i y hi hy => by
            rw [← hN, List.getElem?_append_right (by rw [hb8]; exact hi), List.getElem?_map] at hy
            obtain ⟨x, hx, rfl⟩ := Option.map_eq_some_iff.1 hy
            have hm := List.mem_of_getElem? hx
            rw [← HRR.out] at hm
            obtain ⟨-, z2, z3, z4⟩ := HZ.out x ((sortZ_perm cbK l).mem_iff.1 hm)
            exact ⟨z2, z3, z4⟩
          have HS0 := Lib.hid h1
          have HKN := Lib.hid h2
          have HL0 := Lib.hid hn3
          have hn72 : n3 ≤ 72 := by omega
          have hn8 : 8 ≤ n3 := by omega
          clear h1 h2 h3 h4 hnl hn3 hc3 hN hb8 hc HG HK hlt hltz
          go_wp2_with fail
          go_loopw [9] (fun iv wr => ∃ (k : Nat) (ns : List Nd), iv = .int .i64 k ∧ 8 ≤ k ∧ k ≤ n3 ∧ Hid (SetAt b0 (b0 + 1) b0 ⟨some ⟨g, 0, none⟩, n3, c3⟩ D wr ns) ∧ Hid (kls ns = N) ∧ Hid (Half N k ns) ∧ Hid (Ext w wr)) (fun iv _ => n3 - (intOf iv).toNat)
          case atStart => exact ⟨8, ns0, rfl, by omega, hn8, HS0, HKN, HH0, HXE⟩
          case round =>
            obtain ⟨i, ns, rfl, hi8, hin, HS, HKS, HH, HX⟩ := hrel
            rename World => wa
            clear HS0 HKN HH0 HXE HL0
            have c0 := HS.out.c0
            dsimp only at c0
            by_cases hlt : i < n3
            · have hltz : (i : Int) < (n3 : Int) := by omega
              have hil : i < ns.length := by
                have : ns.length = n3 := by rw [← HNL.out, ← HKS.out]; simp [kls]
                omega
              obtain ⟨x, hx⟩ : ∃ x, ns[i]? = some x := ⟨ns[i], List.getElem?_eq_getElem hil⟩
              have hgk : N[i]? = some x.k := by rw [← HKS.out]; unfold kls; rw [List.getElem?_map, hx]; rfl
              obtain ⟨z2, z3, z4⟩ := HSZ.out i x.k hi8 hgk
              have hgi : gk N i = x.k := by unfold gk; rw [List.getD_eq_getElem?_getD, hgk]; rfl
              obtain ⟨d0, d1, d2, d3, d4, d7, d8, d9, d10⟩ := HS.out.get.node i x hx
              have HC := Lib.hid (named_any HS.out.get x.k.sup z2)
              rw [show ns.map (·.k) = N from HKS.out] at HC
              have hsu : findZ N x.k.sup = supI N i := by rw [supI_own hi8, hgi]
              rw [hsu] at HC
              obtain ⟨su, hsu2⟩ : ∃ su, supI N i = su := ⟨_, rfl⟩
              rw [hsu2] at HC
              obtain ⟨h1, h2, h3, -, h5⟩ := HH.out i x hx
              obtain ⟨h5, h6⟩ := h5 (Nat.le_refl _)
              obtain ⟨hgl, hbg, cs, zz, hgc⟩ := HS.out.low
              have hfr : wa.frozen? ⟨g, i * 11 + 7, none⟩ = false := by
                rcases HS.out.own.1.2 with ⟨e1, _⟩ | ⟨g', cap, cur, e1, _, e2, _⟩
                · cases e1
                · injection e1 with e1
                  injection e1 with e1
                  injection e1 with e1
                  subst e1
                  simp [World.frozen?, e2]
              have hel : ShN.el ns i = x := by
                rw [ShN.el_get hil]
                exact (List.getElem?_eq_some_iff.1 hx).2
              have hset := HS.out.put i 7 hil (by decide) (.int .i64 su) ⟨x.k, x.vi, su, x.is, x.vs, x.ab, x.va, x.ln⟩ (by rw [hel]; rfl) (by rw [hel]) (by have h := HS.out.ok x (List.mem_of_getElem? hx); exact ⟨h.vi, h.vs, h.va⟩)
              obtain ⟨W2, hW2⟩ : ∃ W2, wa.setCell ⟨g, i * 11 + 7, none⟩ (.int .i64 su) = W2 := ⟨_, rfl⟩
              have hset2 := hset
              rw [hW2] at hset2
              obtain ⟨x1, hx1⟩ : ∃ x1 : Nd, (⟨x.k, x.vi, su, x.is, x.vs, x.ab, x.va, x.ln⟩ : Nd) = x1 := ⟨_, rfl⟩
              rw [hx1] at hset2
              obtain ⟨ns1, hns1⟩ : ∃ ns1, ns.set i x1 = ns1 := ⟨_, rfl⟩
              rw [hns1] at hset2
              have HS2 := Lib.hid hset2
              have hx1i : ns1[i]? = some x1 := by rw [← hns1, List.getElem?_set]; simp [hil]
              have HI0 : Hid (InI b0 g n3 c3 W2 ns1 i x1 sl0 ((ifsI N i).take 0) W2) := Lib.hid (InI.start hset2 hx1i (by rw [← hx1]; exact h5) (by rw [← hx1]; exact h6))
              have HX2 : Hid (Ext w W2) := Lib.hid (by rw [← hW2]; exact HX.out.set_ (by rw [HB0.out]; exact hbg) _)
              obtain ⟨-, -, -, -, f4', -⟩ := hset2.get.node i x1 hx1i
              have f4 : W2.cell? ⟨g, i * 11 + 4, none⟩ = some (.slice x.vi.A x.vi.n x.vi.c) := by rw [f4', ← hx1]
              obtain ⟨iA, hiA⟩ : ∃ iA, x.vi.A = iA := ⟨_, rfl⟩
              obtain ⟨ic, hic⟩ : ∃ ic, x.vi.c = ic := ⟨_, rfl⟩
              rw [hiA, hic] at f4
              have hvi := (HS2.out.ok x1 (List.mem_of_getElem? hx1i)).vi
              have hm : x.vi.n = x.k.ifs.length := by
                obtain ⟨A', c', e1, _⟩ := hvi.slice
                rw [← hx1] at e1
                injection e1
              obtain ⟨m, hm2⟩ : ∃ m, x.vi.n = m := ⟨_, rfl⟩
              rw [hm2] at hm f4
              have HVI : Hid (x.vi.v = .slice iA m ic) := Lib.hid (by unfold Sl.v; rw [hiA, hic, hm2])
              have HM := Lib.hid hm
              have HZ3 := Lib.hid z3
              have hm16 : m * 16 ≤ 140737488351232 := by rw [hm]; exact z4
              have HX1 := Lib.hid hx1
              have HN1 := Lib.hid hns1
              have HX1I := Lib.hid hx1i
              have HGK := Lib.hid hgi
              have HSU := Lib.hid hsu2
              have HXI := Lib.hid hx
              have HGL : Hid (g < W2.heap.size ∧ b0 ≤ g ∧ b0 ≤ W2.heap.size) := Lib.hid ⟨hset2.low.1, hbg, by have := HX2.out.size; have := HB0.out; omega⟩
              have HKS1 : Hid (kls ns1 = N) := Lib.hid (by rw [← hns1, ← HKS.out]; unfold kls; rw [List.map_set]; exact set_same (by rw [List.getElem?_map, hx, ← hx1]; rfl))
              clear h1 h2 h3 h5 h6 hset hset2 hx1 hns1 hx1i hgk hgi hsu hsu2 hel hvi hm hm2 f4' hiA hic z2 z3 z4 hx hgl hbg hgc
              go_upto_region 18 with fail
              go_wp2_with fail
              refine HC.out.mono ?_
              rintro e w0 ⟨rfl, rfl⟩
              clear HC
              go_upto_region 19 with fail
              clear hW2 d0 d1 d2 d3 d4 d7 d8 d9 d10 c0 hfr
              go_wp2_with fail
              go_loopw [76] (fun iv wr => ∃ (q : Nat) (A : Option Addr) (c : Nat), iv = .int .i64 q ∧ q ≤ m ∧ Hid (InI b0 g n3 c3 W2 ns1 i x1 ⟨A, q, c⟩ ((ifsI N i).take q) wr)) (fun iv _ => m - (intOf iv).toNat)
              case atStart => exact ⟨0, none, 0, rfl, by omega, HI0⟩
              case round =>
                obtain ⟨q, A, c, rfl, hq, HI⟩ := hrel
                rename World => wb
                clear HI0
                by_cases hlq : q < m
                · have hlqz : (q : Int) < (m : Int) := by omega
                  have hse := HI.out.set HS2.out HGL.out.2.2 HX1I.out
                  have hxm : x1.wi ((ifsI N i).take q) ⟨A, q, c⟩ ∈ ns1.set i (x1.wi ((ifsI N i).take q) ⟨A, q, c⟩) := by
                    refine List.mem_of_getElem? (i := i) ?_
                    rw [List.getElem?_set, if_pos rfl, if_pos (List.getElem?_eq_some_iff.1 HX1I.out).1]
                  have hvi := (hse.ok _ hxm).vi
                  have hvk : (x1.wi ((ifsI N i).take q) ⟨A, q, c⟩).k.ifs = x.k.ifs := by rw [← HX1.out]; rfl
                  have hvv : (x1.wi ((ifsI N i).take q) ⟨A, q, c⟩).vi = x.vi := by rw [← HX1.out]; rfl
                  rw [hvk, hvv] at hvi
                  have hql : q < x.k.ifs.length := by rw [← HM.out]; exact hlq
                  obtain ⟨y, hy⟩ : ∃ y, x.k.ifs[q]? = some y := ⟨x.k.ifs[q], List.getElem?_eq_getElem hql⟩
                  rw [HVI.out] at hvi
                  obtain ⟨bi, oi, hA, hat⟩ := rowS_at hvi.row (by omega)
                  subst hA
                  have y0 := hat wb (Ext.refl _) q hql
                  have hgs : gs x.k.ifs q = y := by unfold gs; rw [ShS.el_get hql]; exact (List.getElem?_eq_some_iff.1 hy).2
                  rw [hgs] at y0
                  have hyz := HZ3.out y (List.mem_of_getElem? hy)
                  obtain ⟨A', cN, e1, hmc, hmm2⟩ := hvi.slice
                  have hmc2 : m ≤ ic := by injection e1 with _ e2 e3; omega
                  have HE3 : Hid (∀ W, Ext wb W → SetAt b0 (b0 + 1) b0 ⟨some ⟨g, 0, none⟩, n3, c3⟩ D W (ns1.set i (x1.wi ((ifsI N i).take q) ⟨A, q, c⟩))) := Lib.hid fun W e => hse.ext e
                  have HKS2 : Hid (kls (ns1.set i (x1.wi ((ifsI N i).take q) ⟨A, q, c⟩)) = N) := Lib.hid (by
                    rw [← HKS1.out]; unfold kls; rw [List.map_set]; exact set_same (by rw [List.getElem?_map, HX1I.out]; rfl))
                  have HNM : Hid (∀ W, Ext wb W → Calls Tryd.prog 60 #[.pointer (some ⟨b0 + 1, 0, none⟩), .string y] W fun e w' => e = .returned (.int .i64 (findZ N y)) ∧ w' = W) := Lib.hid fun W e => by
                    have h := named_any (HE3.out W e).get y hyz
                    rw [show (ns1.set i (x1.wi ((ifsI N i).take q) ⟨A, q, c⟩)).map (·.k) = N from HKS2.out] at h
                    exact h
                  have hfz := findZ_b (N := N) (by rw [HNL.out]; exact hn72) y
                  have HTK : Hid ((ifsI N i).take (q + 1) = (ifsI N i).take q ++ [findZ N y]) := Lib.hid (by
                    have : (ifsI N i)[q]? = some (findZ N y) := by unfold ifsI; rw [List.getElem?_map, HGK.out, hy]; rfl
                    rw [List.take_add_one, this]; rfl)
                  obtain ⟨f, hf⟩ : ∃ f, findZ N y = f := ⟨_, rfl⟩
                  rw [hf] at HNM HTK hfz
                  have j8 : ∀ W, Ext wb W → W.cell? ⟨g, i * 11 + 8, none⟩ = some (.slice A q c) := fun W e => by
                    obtain ⟨-, -, -, -, -, -, h8, -⟩ := (HE3.out W e).get.node i (x1.wi ((ifsI N i).take q) ⟨A, q, c⟩) (by rw [List.getElem?_set, if_pos rfl, if_pos (List.getElem?_eq_some_iff.1 HX1I.out).1])
                    exact h8
                  have w0 := j8 wb.drew (Ext.refl _).drew
                  have w1 := j8 (wb.alloc (.cells #[.int .i64 f] 3)) ((Ext.refl _).alloc _)
                  have HVS : Hid (Own W2.heap.size (wb.alloc (.cells #[.int .i64 f] 3)).drew 3 .i64 (.slice A q c) ((ifsI N i).take q)) := Lib.hid (HI.out.vs.ext ((Ext.refl _).alloc _).drew)
                  have HQL : Hid (((ifsI N i).take q).length = q) := Lib.hid (by rw [List.length_take]; unfold ifsI; rw [List.length_map, HGK.out]; omega)
                  have HRF : Hid (Row (wb.alloc (.cells #[.int .i64 f] 3)).drew .i64 (.slice (some ⟨wb.heap.size, 0, none⟩) 1 1) [f]) := Lib.hid ((own_built1 (B := 0) wb 3 .i64 f (by simp [Lit.wf, IntKind.min, IntKind.max, IntKind.signed, IntKind.bits]; omega) (Nat.zero_le _)).ext (Ext.refl _).drew).row
                  have HBD : Hid ((((ifsI N i).take q).length + [f].length) * 8 ≤ 140737488355328) := Lib.hid (by rw [HQL.out, List.length_singleton]; omega)
                  have HWS : Hid (W2.heap.size ≤ (wb.alloc (.cells #[.int .i64 f] 3)).drew.heap.size) := Lib.hid (Nat.le_trans HI.out.gr.size ((Ext.refl wb).alloc (.cells #[.int .i64 f] 3)).drew.size)
                  have dx : Ext wb wb.drew := (Ext.refl _).drew
                  have HST : Hid (∀ (A' : Option Addr) (c' : Nat) (w4 : World), Own W2.heap.size w4 3 .i64 (.slice A' (q + 1) c') ((ifsI N i).take q ++ [f]) → (wb.alloc (.cells #[.int .i64 f] 3)).drew.grownBy w4 (Value.slice A q c).ownBlock → InI b0 g n3 c3 W2 ns1 i x1 ⟨A', q + 1, c'⟩ ((ifsI N i).take (q + 1)) (w4.setCell ⟨g, i * 11 + 8, none⟩ (.slice A' (q + 1) c')) ∧ w4.cell? ⟨g, i * 11 + 8, none⟩ = some (.slice A q c) ∧ w4.frozen? ⟨g, i * 11 + 8, none⟩ = false) := Lib.hid fun A' c' w4 ho hg => by
                    rw [HTK.out]
                    exact HI.out.step (v' := ⟨A', q + 1, c'⟩) HGL.out.1 (List.getElem?_eq_some_iff.1 HX1I.out).1 ((Ext.refl _).alloc _).drew ho hg
                  clear hse hxm hvi hvk hvv hql hy hat hgs hyz e1 hmm2 hf j8
                  go_wp2_with fail
                  go_region_law (first
                    | ((refine step_callL rfl 60 _ _ rfl #[.pointer (some ⟨b0 + 1, 0, none⟩), .string y] (by simp [go_sem]) (by simp [go_sem]) ?_); ((with_reducible refine (HNM.out _ (by assumption)).mono ?_); rintro e y1 ⟨rfl, rfl⟩); refine ⟨_, rfl, ?_⟩)
                    | ((refine step_appI rfl _ _ W2.heap.size 48 3 _ 8 .i64 rfl Tryd.underlying48 infoI rfl (by omega) (.slice A q c) ((ifsI N i).take q) rfl HVS.out (.slice (some ⟨wb.heap.size, 0, none⟩) 1 1) [f] rfl HRF.out HBD.out HWS.out ?_); intro v4 w4 o4 g4 b4; obtain ⟨A4, c4, e4, hc4, hm4, -⟩ := id o4.row; rw [List.length_append, HQL.out, List.length_singleton] at e4; subst e4; obtain ⟨o5, y8, yf⟩ := HST.out A4 c4 w4 o4 g4; have O5 := Lib.hid o5; clear o4 g4 b4 o5)
                    | fail)
                  all_goals
                    go_wp2_with fail
                    go_roundw
                    case rel => exact ⟨q + 1, A4, c4, by go_num, by omega, O5⟩
                    case measure => first | (simp [intOf]; omega) | simp [intOf]
                · have hlqz : ¬ (q : Int) < (m : Int) := by omega
                  have hqm : q = m := by omega
                  subst hqm
                  have HSE : Hid (SetAt b0 (b0 + 1) b0 ⟨some ⟨g, 0, none⟩, n3, c3⟩ D wb (ns.set i ⟨x.k, x.vi, supI N i, ifsI N i, ⟨A, q, c⟩, x.ab, x.va, x.ln⟩)) := Lib.hid (by
                    have h := HI.out.set HS2.out HGL.out.2.2 HX1I.out
                    have hlen : (ifsI N i).length ≤ q := by unfold ifsI; rw [List.length_map, HGK.out, HM.out]; exact Nat.le_refl _
                    rw [← HN1.out, List.set_set, ← HX1.out, List.take_of_length_le hlen] at h
                    rw [HSU.out]
                    exact h)
                  have HXE : Hid (Ext w wb) := Lib.hid (HX2.out.grown HI.out.gr (fun b e => by injection e with e; have := HGL.out.2.1; have := HB0.out; omega))
                  have HHE := Lib.hid (HH.out.step (vs := ⟨A, q, c⟩) HXI.out)
                  have HKE : Hid (kls (ns.set i ⟨x.k, x.vi, supI N i, ifsI N i, ⟨A, q, c⟩, x.ab, x.va, x.ln⟩) = N) := Lib.hid (by
                    rw [← HKS.out]; unfold kls; rw [List.map_set]; exact set_same (by rw [List.getElem?_map, HXI.out]; rfl))
                  clear HI HS2
                  go_wp2_with fail
                  go_roundw
                  case rel => exact ⟨i + 1, _, by go_num, by omega, by omega, HSE, HKE, HHE, HXE⟩
                  case measure => first | (simp [intOf]; omega) | simp [intOf]
            · have hltz : ¬ (i : Int) < (n3 : Int) := by omega
              have hin3 : i = n3 := by omega
              subst hin3
              have HF : Hid (SetAt b0 (b0 + 1) b0 ⟨some ⟨g, 0, none⟩, ns.length, c3⟩ D wa ns) := Lib.hid (by
                have : ns.length = i := by rw [← HNL.out, ← HKS.out]; simp [kls]
                rw [this]
                exact HS.out)
              have HD : Hid (Told ns ∧ ∀ x ∈ ns, x.ab = [] ∧ x.va = sl0 ∧ x.ln = 0) := Lib.hid (Half.done (by
                have : ns.length = i := by rw [← HNL.out, ← HKS.out]; simp [kls]
                rw [this]
                exact HH.out) HKS.out)
              go_wp2
              go_ret
              exact ⟨_, rfl, _, _, _, _, _, HF.out, by rw [HKS.out, ← HNB.out, HRR.out], HD.out.1, HD.out.2, HX.out⟩
end Go.Proofs.YtladeaofhdaloaaDoor
