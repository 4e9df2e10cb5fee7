/- Several texts of this proof, one behind the other. -/
import Derived.Test.YtkkfkjjmmdpafaaDoorYcL
import Derived.Test.YtkkfkjjmmdpafaaDoorYcK
import Derived.Test.YtkkfkjjmmdpafaaDoorYcH
import Derived.Maps.Range
namespace Go.Proofs.YtkkfkjjmmdpafaaDoor
open Go.RowKit
set_option linter.unusedVariables false

set_option maxHeartbeats 400000 in
theorem rhas {w : World} {v : Value} {l : List Int} (h : Row w .i64 v l) (x : Int) : Calls Tryd.prog 57 #[v, .int .i64 x] w (Quiet w (.bool (l.contains x))) := by
  obtain ⟨A, c, rfl, hc, hm, ha, hf, hg⟩ := h
  unfold maxLen at hm
  obtain ⟨n, hn⟩ : ∃ n, n = l.length := ⟨_, rfl⟩
  rw [← hn] at hc hg ⊢
  have Hn := Lib.hid hn
  clear hn ha
  go_enter Tryd.func57, Tryd.ntmps57
  go_wp2
  go_loopw [5] (fun i wr => ∃ k m : Nat, k ≤ n ∧ i = .int .i64 k ∧ wr = w.drewN m ∧ Hid (∀ j, j < k → ¬ gi l j = x)) (fun i _ => n - (intOf i).toNat)
  case atStart => exact ⟨0, 0, by omega, rfl, rfl, Lib.hid (fun j h => by omega)⟩
  case round =>
    obtain ⟨k, m, hk, rfl, rfl, HJ⟩ := hrel
    by_cases hlt : k < n
    · obtain ⟨b, o, rfl, hb, hx⟩ := hg (by omega)
      have hy := hx k hlt
      clear hx
      by_cases e : gi l k = x
      · have hin : Hid (l.contains x = true) := Lib.hid (by
          rw [List.contains_iff_mem, ← e]
          unfold gi
          rw [List.getD_eq_getElem?_getD, List.getElem?_eq_getElem (by rw [← Hn.out]; exact hlt)]
          exact List.getElem_mem _)
        rw [e] at hy
        clear e
        go_wp2
        go_ret
        exact ⟨by rw [hin.out]; rfl, _, rfl⟩
      · have HJ2 : Hid (∀ j, j < k + 1 → ¬ gi l j = x) := Lib.hid fun j hj => by
          by_cases e2 : j = k
          · rw [e2]; exact e
          · exact HJ.out j (by omega)
        obtain ⟨y, hyy⟩ : ∃ y, gi l k = y := ⟨_, rfl⟩
        rw [hyy] at hy e
        clear hyy
        go_wp2_with fail
        go_roundw
        case rel => exact ⟨k + 1, m, by omega, by go_num, rfl, HJ2⟩
        case measure => first | (simp [intOf]; omega) | simp [intOf]
    · have hno : Hid (l.contains x = false) := Lib.hid (by
        cases h : l.contains x
        · rfl
        · exfalso
          rw [List.contains_iff_mem] at h
          obtain ⟨j, hj, e⟩ := List.getElem_of_mem h
          refine HJ.out j (by rw [← Hn.out] at hj; omega) ?_
          unfold gi
          rw [List.getD_eq_getElem?_getD, List.getElem?_eq_getElem hj]
          exact e)
      go_wp2
      go_ret
      exact ⟨by rw [hno.out]; rfl, _, rfl⟩
section
variable {s g n c : Nat} {r : List Kl} {L : List KlV} {w w' : World}
set_option maxHeartbeats 400000 in
theorem rHas (h : RfG s g n c r L w) (i : Int) : Calls Tryd.prog 50 #[.pointer (some ⟨s, 0, none⟩), .int .i64 i] w fun e w' => e = .returned (.bool (inN (builtZ ++ r) i)) ∧ w' = w := by
  have d0 := h.c0
  have hmc := h.cap
  have hn72 := h.n72
  rcases in_cases (builtZ ++ r) i with ⟨k, rfl, hk⟩ | hi
  · rw [inN_nat hk]
    rw [h.lenN] at hk
    have hk0 : (0 : Int) ≤ (k : Int) := by omega
    have hk1 : ¬ (k : Int) < 0 := by omega
    have hk2 : (k : Int) < (n : Int) := by omega
    clear h
    go_enter Tryd.func50, Tryd.ntmps50
    go_wp2
    go_ret
    exact ⟨rfl, rfl⟩
  · rw [inN_no hi]
    rw [h.lenN] at hi
    clear h
    rcases hi with hi | hi
    · have hi0 : ¬ 0 ≤ i := by omega
      go_enter Tryd.func50, Tryd.ntmps50
      go_wp2
      go_ret
      exact ⟨rfl, rfl⟩
    · have hi0 : 0 ≤ i := by omega
      have hi1 : ¬ i < 0 := by omega
      have hi2 : ¬ i < (n : Int) := by omega
      go_enter Tryd.func50, Tryd.ntmps50
      go_wp2
      go_ret
      exact ⟨rfl, rfl⟩
set_option maxHeartbeats 400000 in
theorem rSuper (h : RfG s g n c r L w) (i : Int) : Calls Tryd.prog 23 #[.pointer (some ⟨s, 0, none⟩), .int .i64 i] w (Quiet w (.int .i64 (superZ (builtZ ++ r) i))) := by
  have hmc := h.cap
  have hn72 := h.n72
  have HH := rHas h i
  unfold superZ
  rcases in_cases (builtZ ++ r) i with ⟨k, rfl, hk⟩ | hi
  · rw [inN_nat hk] at HH ⊢
    rw [if_pos rfl, Int.toNat_natCast]
    rw [h.lenN] at hk
    obtain ⟨x, -, hxk, hat⟩ := h.at k hk
    have HFQ : Hid (0 < k → ∀ W, Ext w W → Calls Tryd.prog 45 #[.slice (some ⟨g, 0, none⟩) n c, .string x.k.sup] W fun e w' => e = .returned (.int .i64 (supI (builtZ ++ r) k)) ∧ ∃ n, w' = W.drewN n) := Lib.hid fun h0 W e => ((h.ext e).find x.k.sup).mono fun e' w' ⟨h1, h2⟩ => ⟨by rw [h1, hxk, supR r k h0], 0, by rw [h2]; rfl⟩
    have e1 := (hat w (Ext.refl w)).1.2.2.1
    have HD : Hid (∀ q, Ext w (w.drewN q)) := Lib.hid fun q => (Ext.refl w).drewN q
    have e0 := h.c0
    clear h hxk hat
    obtain ⟨su, hsu⟩ : ∃ su, x.k.sup = su := ⟨_, rfl⟩
    rw [hsu] at HFQ e1
    clear hsu
    rcases k with _ | k
    · have hs0 : supI (builtZ ++ r) 0 = -1 := rfl
      rw [hs0]
      have hk0 : ((0 : Nat) : Int) < 1 := by omega
      clear HH HFQ
      go_enter Tryd.func23, Tryd.ntmps23
      go_wp2
      go_ret
      exact ⟨rfl, 0, rfl⟩
    · have HF := Lib.hid (HFQ.out (by omega))
      obtain ⟨z, hz⟩ : ∃ z, k + 1 = z := ⟨_, rfl⟩
      rw [hz] at hk HF HH e1 ⊢
      have hz0 : ¬ (z : Int) < 1 := by omega
      have hz1 : ¬ (z : Int) < 0 := by omega
      have hz2 : (z : Int) < (n : Int) := by omega
      clear hz HFQ
      obtain ⟨u, hu⟩ : ∃ u, supI (builtZ ++ r) z = u := ⟨_, rfl⟩
      rw [hu] at HF ⊢
      clear hu
      have HHH := Lib.hid HH
      clear HH
      go_enter Tryd.func23, Tryd.ntmps23
      go_wp2_with fail
      refine HHH.out.mono ?_
      rintro e y ⟨rfl, rfl⟩
      go_wp2_with fail
      go_quiet (first
        | (go_at_call 45; refine Calls.quiet_of (HF.out _ ?_); exact HD.out _))
      go_wp2
      go_ret
      exact ⟨rfl, _, rfl⟩
  · rw [inN_no hi] at HH ⊢
    rw [if_neg (by simp)]
    rw [h.lenN] at hi
    clear h
    have HHH := Lib.hid HH
    clear HH
    rcases (show i < 1 ∨ ¬ i < 1 by omega) with h1 | h1
    · go_enter Tryd.func23, Tryd.ntmps23
      go_wp2
      go_ret
      exact ⟨rfl, 0, rfl⟩
    · go_enter Tryd.func23, Tryd.ntmps23
      go_wp2_with fail
      refine HHH.out.mono ?_
      rintro e y ⟨rfl, rfl⟩
      go_wp2
      go_ret
      exact ⟨rfl, 0, rfl⟩
end
end Go.Proofs.YtkkfkjjmmdpafaaDoor
namespace Go.Proofs.YtkkfkjjmmdpafaaDoor
open Go.RowKit Go.Maps Go.WideMaps
set_option linter.unusedVariables false
section
variable {B s : Nat} {N : List Kl} {w : World}
theorem SetIs.gr (h : SetIs B s N w) (k : Nat) (hk : k < N.length) : supI N k = supV (grK N) k ∧ ifsI N k = ints ((grK N).ifs k) := by
  obtain ⟨m, g, c, D, ns, h1⟩ := h.get
  obtain ⟨r, hr⟩ := h.bl
  obtain ⟨x, hx, -, h3, h4⟩ := h1.tells k hk
  have h5 := told_gr (r := r) h1.told (h1.kl.trans hr) (by rw [h1.kl]; exact h.flt) k x hx
  rw [h1.kl] at h5
  exact ⟨h3.symm.trans h5.1, h4.symm.trans h5.2⟩
set_option maxRecDepth 100000 in
theorem ifs_in {m g n c : Nat} {D : DataW Unit} {ns : List Nd} (h : SetNew B s m g n c D N w ns) (h72 : n ≤ 72) (k : Nat) (hk : k < n) (hl : (ifsI N k).length ≤ 1000000) : Calls Tryd.prog 25 #[.pointer (some ⟨s, 0, none⟩), .int .i64 k] w fun e w' => ∃ v', e = .returned v' ∧ Own w.heap.size w' 3 .i64 v' (ifsI N k) ∧ Ext w w' := by
  obtain ⟨x, hx, -, -, h4⟩ := h.tells k hk
  obtain ⟨-, -, -, -, -, -, x8, -, -⟩ := h.set.get.node k x hx
  have hr : Row w .i64 (.slice x.vs.A x.vs.n x.vs.c) (ifsI N k) := by rw [← h4]; exact (h.set.ok x (List.mem_of_getElem? hx)).vs.row
  have HN := Lib.hid (node_in h.set.get k hk h72)
  have HC := Lib.hid (cloneI_any hr (by omega))
  clear h hx h4 hr
  go_enter Tryd.func25, Tryd.ntmps25
  go_wp2_with fail
  refine HN.out.mono ?_
  rintro e w' ⟨rfl, rfl⟩
  go_wp2_with fail
  refine HC.out.mono ?_
  rintro e w5 ⟨v', rfl, ho, x5⟩
  go_wp2
  go_ret
  exact ⟨_, rfl, ho, x5⟩
def upsI (N : List Kl) (k : Nat) : List Int := ifsI N k ++ (if 0 ≤ supI N k then [supI N k] else [])
theorem SetIs.ups_mem (h : SetIs B s N w) (k : Nat) (hk : k < N.length) (u : Int) : u ∈ upsI N k ↔ ∃ j : Nat, u = j ∧ j ∈ (grK N).ups k := by
  obtain ⟨h1, h2⟩ := h.gr k hk
  unfold upsI Gr.ups
  rw [h1, h2, List.mem_append]
  unfold supV ints
  constructor
  · rintro (hu | hu)
    · obtain ⟨j, hj, rfl⟩ := List.mem_map.1 hu
      exact ⟨j, rfl, List.mem_append.2 (.inr hj)⟩
    · cases hs : (grK N).sup k with
      | none => rw [hs] at hu; simp at hu
      | some j =>
        rw [hs] at hu
        simp at hu
        exact ⟨j, hu, List.mem_append.2 (.inl (by simp))⟩
  · rintro ⟨j, rfl, hj⟩
    rcases List.mem_append.1 hj with hj | hj
    · right
      have hs : (grK N).sup k = some j := by simpa using hj
      rw [hs]
      simp
    · exact .inl (List.mem_map.2 ⟨j, hj, rfl⟩)
theorem SetIs.step (h : SetIs B s N w) (k : Nat) (hk : k < N.length) (y : Nat) : belowZ N k y = (decide (k = y) || decide (y = 0) || (upsI N k).any (fun u => belowZ N u y)) := by
  rw [Bool.eq_iff_iff, below_iff hk y, h.ok.ab_step hk]
  simp only [Bool.or_eq_true, decide_eq_true_eq, List.any_eq_true]
  constructor
  · rintro (e | e | ⟨u, hu, h1⟩)
    · exact .inl (.inl e)
    · exact .inl (.inr e)
    · exact .inr ⟨u, (h.ups_mem k hk u).2 ⟨u, rfl, hu⟩, (below_iff (h.ok.in_ _ _ hu) y).2 h1⟩
  · rintro ((e | e) | ⟨u, hu, h1⟩)
    · exact .inl e
    · exact .inr (.inl e)
    · obtain ⟨j, rfl, hj⟩ := (h.ups_mem k hk u).1 hu
      exact .inr (.inr ⟨j, hj, (below_iff (h.ok.in_ _ _ hj) y).1 h1⟩)
end
end Go.Proofs.YtkkfkjjmmdpafaaDoor
namespace Go.Proofs.YtkkfkjjmmdpafaaDoor
open Go.RowKit
set_option linter.unusedVariables false

section
variable {s g n c : Nat} {r : List Kl} {L : List KlV} {w w' : World}
set_option maxRecDepth 100000 in
set_option maxHeartbeats 4000000 in
theorem rifs_in (h : RfG s g n c r L w) (i : Nat) (hi : i < n) : Calls Tryd.prog 26 #[.pointer (some ⟨s, 0, none⟩), .int .i64 i] w fun e w' => ∃ v', e = .returned v' ∧ Own w.heap.size w' 3 .i64 v' (ifsI (builtZ ++ r) i) ∧ Ext w w' := by
  have hh := rHas h i
  rw [inN_nat (by rw [h.lenN]; exact hi)] at hh
  have HHH := Lib.hid hh
  clear hh
  obtain ⟨x, hx, hxk, hat⟩ := h.at i hi
  have hn72 := h.n72
  have hin : (i : Int) < (n : Int) := by omega
  have hi0 : ¬ (i : Int) < 0 := by omega
  have hNl : (builtZ ++ r).length ≤ 72 := by rw [h.lenN]; exact hn72
  have hk := h.szs x (List.mem_of_getElem? hx)
  have hifs : ifsI (builtZ ++ r) i = x.k.ifs.map (findZ (builtZ ++ r)) := by unfold ifsI; rw [hxk, ifsR]
  obtain ⟨q, hq⟩ : ∃ q, x.k.ifs.length = q := ⟨_, rfl⟩
  have hvn : x.vi.n = q := by
    obtain ⟨A9, c9, e9, -⟩ := (hat w (Ext.refl w)).2.cut
    injection e9 with _ e9 _
    rw [← hq]; exact e9
  have hqb : q * 16 ≤ 140737488351232 := by rw [← hq]; exact hk.len
  have HAT : Hid (∀ W, Ext w W → W.cell? ⟨s, 0, none⟩ = some (.slice (some ⟨g, 0, none⟩) n c) ∧ W.cell? ⟨g, i * 7 + 2, none⟩ = some (.string x.k.sup) ∧ W.cell? ⟨g, i * 7 + 4, none⟩ = some (.slice x.vi.A q x.vi.c)) := Lib.hid fun W e => by
    obtain ⟨h0, -, h2, -, h4, -⟩ := (hat W e).1
    exact ⟨(h.ext e).c0, h2, by rw [h4, hvn]⟩
  have HNE : Hid (∀ W, Ext w W → ShS.Row W (.slice x.vi.A q x.vi.c) x.k.ifs) := Lib.hid fun W e => by
    have := (hat W e).2
    unfold NestK Sl.v at this
    rw [hvn] at this
    exact this
  have HFD := Lib.hid (fun nm W (e : Ext w W) => (h.ext e).find nm)
  have HWF := Lib.hid (fun nm => wf_find hNl nm)
  have HQ := Lib.hid hq
  have HIF := Lib.hid hifs
  obtain ⟨iA, hiA⟩ : ∃ iA, x.vi.A = iA := ⟨_, rfl⟩
  obtain ⟨ic, hic⟩ : ∃ ic, x.vi.c = ic := ⟨_, rfl⟩
  rw [hiA, hic] at HAT HNE
  clear h hx hxk hat hk hifs hq hvn hiA hic hNl
  go_enter Tryd.func26, Tryd.ntmps26
  go_wp2_with fail
  refine HHH.out.mono ?_
  rintro e y ⟨rfl, hy⟩
  have hy := hy.symm
  subst hy
  go_wp2_with fail
  go_loopw [5, 6] (fun ov iv wr => ∃ (k : Nat) (A' : Option Addr) (c' : Nat), iv = .int .i64 k ∧ k ≤ q ∧ ov = .slice A' k c' ∧ Hid (Own w.heap.size wr 3 .i64 (.slice A' k c') ((x.k.ifs.map (findZ (builtZ ++ r))).take k)) ∧ Hid (Ext w wr)) (fun _ iv _ => q - (intOf iv).toNat)
  case atStart => exact ⟨0, none, 0, rfl, by omega, by first | rfl | (simp), Lib.hid (by simpa using Own.nil _ _ _ _), Lib.hid (Ext.refl w)⟩
  case round =>
    obtain ⟨k, A', c', rfl, hkq, rfl, HO, HX⟩ := hrel
    rename World => wr
    by_cases hlt : k < q
    · have hltz : (k : Int) < (q : Int) := by omega
      have hkl : k < x.k.ifs.length := by have := HQ.out; omega
      obtain ⟨bs, os, hA, hat⟩ := rowS_at (HNE.out w (Ext.refl w)) (by have := HQ.out; omega)
      subst hA
      obtain ⟨y, hy⟩ : ∃ y, x.k.ifs[k]? = some y := ⟨x.k.ifs[k], List.getElem?_eq_getElem hkl⟩
      have hgs : gs x.k.ifs k = y := by unfold gs; rw [ShS.el_get hkl]; exact (List.getElem?_eq_some_iff.1 hy).2
      have HTK : Hid ((x.k.ifs.map (findZ (builtZ ++ r))).take (k + 1) = ((x.k.ifs.map (findZ (builtZ ++ r))).take k) ++ [findZ (builtZ ++ r) y]) := Lib.hid (by
        have : (x.k.ifs.map (findZ (builtZ ++ r)))[k]? = some (findZ (builtZ ++ r) y) := by rw [List.getElem?_map, hy]; rfl
        rw [List.take_add_one, this]; simp)
      have hwf := HWF.out y
      have hfd := HFD.out y
      obtain ⟨f, hf⟩ : ∃ f, findZ (builtZ ++ r) y = f := ⟨_, rfl⟩
      rw [hf] at HTK hwf hfd
      have HF2 := Lib.hid hfd
      have e1 := (Ext.refl wr).drew
      have e2 := (Ext.refl wr).alloc (.cells #[.int .i64 f] 3)
      have HE1 := HX.out.trans e1
      obtain ⟨r0, -, r4⟩ := HAT.out wr HX.out
      obtain ⟨a0, -, a4⟩ := HAT.out wr.drew (HX.out.trans e1)
      obtain ⟨d0, -, d4⟩ := HAT.out _ (HX.out.trans e2)
      have a5 := hat wr.drew (HX.out.trans e1) k hkl
      have d5 := hat _ (HX.out.trans e2) k hkl
      rw [hgs] at a5 d5
      have HLEN : Hid (((x.k.ifs.map (findZ (builtZ ++ r))).take k).length = k) := Lib.hid (by simp only [List.length_take, List.length_map, HQ.out]; omega)
      have HRF : Hid (Row (wr.alloc (.cells #[.int .i64 f] 3)).drew .i64 (.slice (some ⟨wr.heap.size, 0, none⟩) 1 1) [f]) := Lib.hid ((own_built1 (B := 0) wr 3 .i64 f hwf (Nat.zero_le _)).ext (Ext.refl _).drew).row
      have HO2 := Lib.hid (HO.out.ext e2.drew)
      have HWS : Hid (w.heap.size ≤ (wr.alloc (.cells #[.int .i64 f] 3)).drew.heap.size) := Lib.hid (HX.out.trans e2.drew).size
      have HBD : Hid ((((x.k.ifs.map (findZ (builtZ ++ r))).take k).length + [f].length) * 8 ≤ 140737488355328) := Lib.hid (by rw [HLEN.out, List.length_singleton]; omega)
      clear hkl hat hy hgs hwf hfd hf
      go_wp2_with fail
      go_region_law (first
        | ((refine step_callL rfl 45 _ _ rfl #[.slice (some ⟨g, 0, none⟩) n c, .string y] (by simp [go_sem]) (by simp [go_sem]) ?_); ((with_reducible refine (HF2.out _ HE1).mono ?_); rintro e y1 ⟨rfl, rfl⟩); refine ⟨_, rfl, ?_⟩)
        | ((refine step_appI rfl _ _ w.heap.size 48 3 _ 8 .i64 rfl Tryd.underlying48 infoI rfl (by omega) (.slice A' k c') ((x.k.ifs.map (findZ (builtZ ++ r))).take k) rfl HO2.out (.slice (some ⟨wr.heap.size, 0, none⟩) 1 1) [f] rfl HRF.out HBD.out HWS.out ?_); intro v5 w5 o5 g5 b5; obtain ⟨A5, c5, e5, hc5, hm5, -⟩ := id o5.row; rw [List.length_append, HLEN.out, List.length_singleton] at e5; rw [← HTK.out] at o5; subst e5; have O5 := Lib.hid o5; have X5 := Lib.hid ((HX.out.trans e2.drew).grown g5 HO2.out.low); clear o5 g5 b5)
        | fail)
      all_goals
        go_wp2_with fail
        go_roundw
        case rel => exact ⟨k + 1, A5, c5, by go_num, by omega, rfl, O5, X5⟩
        case measure => first | (simp [intOf]; omega) | simp [intOf]
    · have hltz : ¬ (k : Int) < (q : Int) := by omega
      have hkk : k = q := by omega
      subst hkk
      obtain ⟨r0, -, r4⟩ := HAT.out wr HX.out
      have HFN : Hid (Own w.heap.size wr 3 .i64 (.slice A' k c') (ifsI (builtZ ++ r) i)) := Lib.hid (by
        have h := HO.out
        rw [List.take_of_length_le (by rw [List.length_map, HQ.out]; exact Nat.le_refl _)] at h
        rw [HIF.out]; exact h)
      go_wp2
      go_ret
      exact ⟨_, rfl, HFN.out, HX.out⟩
def chR (N : List Kl) (j : Int) : List Nat := if j < 0 then [] else (grK N).chain j.toNat
theorem chR_step {N : List Kl} (h : (grK N).Ok) (k : Nat) : chR N k = k :: chR N (supI N k) := by
  unfold chR
  rw [if_neg (by omega), Int.toNat_natCast, h.chain_eq k]
  show k :: (match supN N k with | none => [] | some j => (grK N).chain j) = _
  unfold supN
  by_cases hs : supI N k < 0
  · rw [if_pos hs, if_pos hs]
  · rw [if_neg hs, if_neg hs]
set_option maxRecDepth 100000 in
set_option maxHeartbeats 4000000 in
theorem rchain (h : RfG s g n c r L w) (hok : (grK (builtZ ++ r)).Ok) (i : Nat) (hi : i < n) : Calls Tryd.prog 54 #[.pointer (some ⟨s, 0, none⟩), .int .i64 i] w fun e w' => ∃ v', e = .returned v' ∧ Own w.heap.size w' 3 .i64 v' (ints ((grK (builtZ ++ r)).chain i)) ∧ Ext w w' := by
  have hn72 := h.n72
  have h8 : 8 ≤ (builtZ ++ r).length := by simp [builtZ]
  have hlen : ((grK (builtZ ++ r)).chain i).length ≤ 72 := by
    have hin : i < (grK (builtZ ++ r)).n := by show i < (builtZ ++ r).length; rw [h.lenN]; exact hi
    have h1 := (hok.chain_all i hin).1
    have h2 := nodup_len h1.1 h1.2
    have h3 : (grK (builtZ ++ r)).n = n := h.lenN
    omega
  obtain ⟨ck, hck⟩ : ∃ ck, (grK (builtZ ++ r)).chain i = ck := ⟨_, rfl⟩
  have HCK : Hid (chR (builtZ ++ r) i = ck) := Lib.hid (by unfold chR; rw [if_neg (by omega), Int.toNat_natCast, hck])
  rw [hck] at hlen ⊢
  have HSU : Hid (∀ (j : Nat) W, j < n → Ext w W → Calls Tryd.prog 23 #[.pointer (some ⟨s, 0, none⟩), .int .i64 j] W (Quiet W (.int .i64 (supI (builtZ ++ r) j)))) := Lib.hid fun j W hj e => by
    have := rSuper (h.ext e) j
    unfold superZ at this
    rwa [inN_nat (by rw [h.lenN]; exact hj), if_pos rfl, Int.toNat_natCast] at this
  have HLT : Hid (∀ j, supI (builtZ ++ r) j < n) := Lib.hid fun j => by have := supI_lt h8 j; rw [h.lenN] at this; exact this
  have HST : Hid (∀ k : Nat, chR (builtZ ++ r) k = k :: chR (builtZ ++ r) (supI (builtZ ++ r) k)) := Lib.hid fun k => chR_step hok k
  have HLEN := Lib.hid hlen
  clear h hck h8 hlen hok
  go_enter Tryd.func54, Tryd.ntmps54
  go_wp2_with fail
  go_loopw [1, 5] (fun iv ov wr => ∃ (p : List Nat) (j : Int) (A' : Option Addr) (q c' : Nat), iv = .int .i64 j ∧ ov = .slice A' q c' ∧ j < n ∧ q ≤ 72 ∧ Hid (p.length = q) ∧ Hid (Own w.heap.size wr 3 .i64 (.slice A' q c') (ints p)) ∧ Hid (ck = p ++ chR (builtZ ++ r) j) ∧ Hid (Ext w wr)) (fun iv _ _ => (chR (builtZ ++ r) (intOf iv)).length)
  case atStart => exact ⟨[], i, none, 0, 0, rfl, rfl, by omega, by omega, Lib.hid rfl, Lib.hid (Own.nil _ _ _ _), Lib.hid HCK.out.symm, Lib.hid (Ext.refl w)⟩
  case round =>
    obtain ⟨p, j, A', q, c', rfl, rfl, hjn, hq, HP, HO, HC, HX⟩ := hrel
    rename World => wr
    by_cases hj : 0 ≤ j
    · obtain ⟨k, rfl⟩ : ∃ k : Nat, j = k := ⟨j.toNat, by omega⟩
      have hkn : k < n := by omega
      have hq1 : Hid (p.length + 1 ≤ 72) := Lib.hid (by
        have h1 := HC.out
        rw [HST.out] at h1
        have h2 := HLEN.out
        rw [h1, List.length_append, List.length_cons] at h2
        omega)
      have hwf : (Lit.int .i64 (k : Int)).wf = true := by
        simp [Lit.wf, IntKind.min, IntKind.max, IntKind.signed, IntKind.bits]; omega
      have e2 := (Ext.refl wr).alloc (.cells #[.int .i64 (k : Int)] 3)
      have HL2 : Hid ((ints p).length = q) := Lib.hid (by rw [show (ints p).length = p.length from List.length_map ..]; exact HP.out)
      have HIN : Hid (ints p ++ [(k : Int)] = ints (p ++ [k])) := Lib.hid (by unfold ints; rw [List.map_append]; rfl)
      have HRF : Hid (Row (wr.alloc (.cells #[.int .i64 (k : Int)] 3)) .i64 (.slice (some ⟨wr.heap.size, 0, none⟩) 1 1) [(k : Int)]) := Lib.hid (own_built1 (B := 0) wr 3 .i64 (k : Int) hwf (Nat.zero_le _)).row
      have HO2 := Lib.hid (HO.out.ext e2)
      have HWS : Hid (w.heap.size ≤ (wr.alloc (.cells #[.int .i64 (k : Int)] 3)).heap.size) := Lib.hid (HX.out.trans e2).size
      have HBD : Hid (((ints p).length + [(k : Int)].length) * 8 ≤ 140737488355328) := Lib.hid (by rw [HL2.out, List.length_singleton]; omega)
      have HX2 := Lib.hid (HX.out.trans e2)
      clear hwf e2
      have hcs : Hid (ck = (p ++ [k]) ++ chR (builtZ ++ r) (supI (builtZ ++ r) k)) := Lib.hid (by rw [HC.out, HST.out]; simp)
      have hms : Hid ((chR (builtZ ++ r) (supI (builtZ ++ r) k)).length < (chR (builtZ ++ r) k).length) := Lib.hid (by rw [HST.out k]; simp)
      have hlt := HLT.out k
      have HF := HSU.out k
      obtain ⟨su, hsu⟩ : ∃ su, supI (builtZ ++ r) k = su := ⟨_, rfl⟩
      rw [hsu] at hcs hms hlt HF
      have HFF := Lib.hid HF
      have HKN := Lib.hid hkn
      clear HF hsu
      go_wp2_with (at_builtin; refine wpList_appK _ rfl _ _ w.heap.size 48 3 _ 8 .i64 rfl Tryd.underlying48 infoI rfl (by omega) (.slice A' q c') (ints p) rfl HO2.out _ [(k : Int)] rfl HRF.out HBD.out HWS.out ?_; intro v5 w5 o5 g5 b5; obtain ⟨A5, c5, e5, hc5, hm5, -⟩ := id o5.row; rw [List.length_append, HL2.out, List.length_singleton] at e5; rw [HIN.out] at o5; subst e5; have O5 := Lib.hid o5; have X5 := Lib.hid (HX2.out.grown g5 HO2.out.low); clear o5 g5 b5)
      refine (HFF.out _ HKN.out X5.out).mono ?_
      rintro e y ⟨rfl, m, rfl⟩
      have O6 := Lib.hid (O5.out.ext ((Ext.refl w5).drewN m))
      have X6 := Lib.hid (X5.out.drewN m)
      go_wp2_with fail
      go_roundw
      case rel => exact ⟨p ++ [k], su, A5, q + 1, c5, rfl, rfl, hlt, by have := HP.out; have := hq1.out; omega, Lib.hid (by rw [List.length_append, HP.out]; rfl), O6, hcs, X6⟩
      case measure => first | exact hms.out | (simp only [intOf]; exact hms.out)
    · have hj2 : j < 0 := by omega
      have HFN : Hid (Own w.heap.size wr 3 .i64 (.slice A' q c') (ints ck)) := Lib.hid (by
        have h1 := HC.out
        rw [show chR (builtZ ++ r) j = [] from if_pos hj2, List.append_nil] at h1
        rw [h1]
        exact HO.out)
      go_wp2
      go_ret
      exact ⟨_, rfl, HFN.out, HX.out⟩
end
end Go.Proofs.YtkkfkjjmmdpafaaDoor
namespace Go.Proofs.YtkkfkjjmmdpafaaDoor
open Go.RowKit
set_option linter.unusedVariables false

theorem ext_grown {w w' : World} (e : Ext w w') (row : Option Nat) : w.grownBy w' row := ⟨e.os, e.tape, e.output, e.size, fun k hk _ => e.block k hk⟩
theorem own_from {W W2 : World} {v v5 : Value} {G : Prop} (hs : W.heap.size ≤ W2.heap.size) (b5 : v5.ownBlock = v.ownBlock ∨ (v5.ownBlock = some W2.heap.size ∧ G)) : ∀ g, v5.ownBlock = some g → W.heap.size ≤ g ∨ v.ownBlock = some g := by
  intro g hg
  rcases b5 with b5 | ⟨b5, -⟩
  · exact .inr (b5 ▸ hg)
  · rw [b5] at hg
    injection hg with hg
    exact .inl (by omega)
def WithE (B : Nat) (W : World) (v : Value) (l : List Nat) (e : Ending) (w' : World) : Prop := ∃ v', e = .returned v' ∧ Own B w' 3 .i64 v' (ints l) ∧ W.grownBy w' v.ownBlock ∧ ∀ g, v'.ownBlock = some g → W.heap.size ≤ g ∨ v.ownBlock = some g
section
variable {s g n c : Nat} {r : List Kl} {L : List KlV} {w w' : World}
set_option maxRecDepth 100000 in
set_option maxHeartbeats 4000000 in
theorem rwith (h : RfG s g n c r L w) (hok : (grK (builtZ ++ r)).Ok) (hif : ∀ k, k < n → ifsI (builtZ ++ r) k = ints ((grK (builtZ ++ r)).ifs k)) :
    ∀ (f B : Nat) (W : World) (l : List Nat) (i : Nat) (v : Value), Ext w W → w.heap.size ≤ B → B ≤ W.heap.size → (grK (builtZ ++ r)).Nd l → i < n → n < l.length + f → Own B W 3 .i64 v (ints l) →
      Calls Tryd.prog 55 #[.pointer (some ⟨s, 0, none⟩), v, .int .i64 i] W (WithE B W v ((grK (builtZ ++ r)).with_ l i)) := by
  have hGN : (grK (builtZ ++ r)).n = n := h.lenN
  have hn72 := h.n72
  intro f
  induction f with
  | zero =>
    intro B W l i v e hwB hB hl hi hf ho
    have := nodup_len hl.1 hl.2
    omega
  | succ f ih =>
    intro B W l i v e hwB hB hl hi hf ho
    have hlen := nodup_len hl.1 hl.2
    have hhas := rhas (ho.row) (i : Int)
    rw [ints_contains] at hhas
    by_cases hm : i ∈ l
    · rw [decide_eq_true hm] at hhas
      have HW : Hid ((grK (builtZ ++ r)).with_ l i = l) := Lib.hid (by rw [Gr.with_eq hok.in_ hl (by omega), if_pos hm])
      have HHH := Lib.hid hhas
      have HO := Lib.hid ho
      clear ih hl hf hm ho hhas hlen h hok hif hGN
      rw [HW.out]
      go_enter Tryd.func55, Tryd.ntmps55
      go_wp2_with fail
      refine HHH.out.mono ?_
      rintro e1 y ⟨rfl, q, rfl⟩
      have O1 := Lib.hid (HO.out.ext ((Ext.refl W).drewN q))
      have G1 : Hid (W.grownBy (W.drewN q) v.ownBlock) := Lib.hid (ext_grown ((Ext.refl W).drewN q) _)
      go_wp2
      go_ret
      exact ⟨_, rfl, O1.out, G1.out, fun g hg => .inr hg⟩
    · rw [decide_eq_false hm] at hhas
      have HHH := Lib.hid hhas
      have HW : Hid ((grK (builtZ ++ r)).with_ l i = ((grK (builtZ ++ r)).ifs i).foldl (grK (builtZ ++ r)).with_ (l ++ [i])) := Lib.hid (by rw [Gr.with_eq hok.in_ hl (by omega), if_neg hm])
      have hnd : (grK (builtZ ++ r)).Nd (l ++ [i]) := hl.snoc (by omega) hm
      have hiq : ∀ j ∈ (grK (builtZ ++ r)).ifs i, j < (grK (builtZ ++ r)).n := fun j hj => hok.in_ i j (Gr.ifs_ups hj)
      obtain ⟨js, hjs⟩ : ∃ js, (grK (builtZ ++ r)).ifs i = js := ⟨_, rfl⟩
      rw [hjs] at HW hiq
      have HIF : Hid (∀ W', Ext w W' → Calls Tryd.prog 26 #[.pointer (some ⟨s, 0, none⟩), .int .i64 i] W' fun e w' => ∃ v', e = .returned v' ∧ Own W'.heap.size w' 3 .i64 v' (ints js) ∧ Ext W' w') := Lib.hid fun W' e' => by
        have := rifs_in (h.ext e') i hi
        rwa [hif i hi, hjs] at this
      have HND : Hid (∀ k, (grK (builtZ ++ r)).Nd ((js.take k).foldl (grK (builtZ ++ r)).with_ (l ++ [i])) ∧ n < ((js.take k).foldl (grK (builtZ ++ r)).with_ (l ++ [i])).length + f) := Lib.hid fun k => by
        have h1 := Gr.with_wd (is := js.take k) hok.in_ hnd (fun j hj => hiq j (List.mem_of_mem_take hj))
        obtain ⟨t, ht⟩ := h1.pre
        exact ⟨h1.nd, by rw [ht]; simp only [List.length_append, List.length_singleton]; omega⟩
      have HJN : Hid (∀ j ∈ js, j < n) := Lib.hid (fun j hj => by have := hiq j hj; omega)
      have HIH := Lib.hid ih
      obtain ⟨q, hq⟩ : ∃ q, js.length = q := ⟨_, rfl⟩
      have HQ := Lib.hid hq
      have HO := Lib.hid ho
      have HE := Lib.hid e
      have hl72 : l.length ≤ 72 := by omega
      have HLL : Hid ((ints l).length = l.length) := Lib.hid (ints_len l)
      have hwf : (Lit.int .i64 (i : Int)).wf = true := by
        simp [Lit.wf, IntKind.min, IntKind.max, IntKind.signed, IntKind.bits]; omega
      have HWF := Lib.hid hwf
      have HIN : Hid (ints l ++ [(i : Int)] = ints (l ++ [i])) := Lib.hid (by unfold ints; rw [List.map_append]; rfl)
      have HB := Lib.hid hB
      have HwB := Lib.hid hwB
      clear ih hl hf hm ho hhas hlen h hok hif hGN hnd hiq hjs hq e hwf hB hwB
      rw [HW.out]
      go_enter Tryd.func55, Tryd.ntmps55
      go_wp2_with fail
      refine HHH.out.mono ?_
      rintro e1 y ⟨rfl, qd, rfl⟩
      obtain ⟨W1, hW1⟩ : ∃ W1, W.drewN qd = W1 := ⟨_, rfl⟩
      have HE1 : Hid (Ext W W1) := Lib.hid (by rw [← hW1]; exact (Ext.refl W).drewN qd)
      rw [hW1]
      clear hW1
      have e2 := (Ext.refl W1).alloc (.cells #[.int .i64 (i : Int)] 3)
      have HO1 := Lib.hid (HO.out.ext (HE1.out.trans e2))
      have HRF : Hid (Row (W1.alloc (.cells #[.int .i64 (i : Int)] 3)) .i64 (.slice (some ⟨W1.heap.size, 0, none⟩) 1 1) [(i : Int)]) := Lib.hid (own_built1 (B := 0) W1 3 .i64 (i : Int) HWF.out (Nat.zero_le _)).row
      have HWS : Hid (B ≤ (W1.alloc (.cells #[.int .i64 (i : Int)] 3)).heap.size) := Lib.hid (Nat.le_trans HB.out (HE1.out.trans e2).size)
      have HBD : Hid (((ints l).length + [(i : Int)].length) * 8 ≤ 140737488355328) := Lib.hid (by rw [HLL.out, List.length_singleton]; omega)
      have HE2 := Lib.hid (HE1.out.trans e2)
      clear e2
      go_wp2_with (at_builtin; refine wpList_appK _ rfl _ _ B 48 3 _ 8 .i64 rfl Tryd.underlying48 infoI rfl (by omega) v (ints l) rfl HO1.out _ [(i : Int)] rfl HRF.out HBD.out HWS.out ?_; intro v5 w5 o5 g5 b5; rw [HIN.out] at o5; have O5 := Lib.hid o5; have G5 : Hid (W.grownBy w5 v.ownBlock) := Lib.hid ((ext_grown HE2.out v.ownBlock).andThen g5 (fun j hj => .inr hj)); have P5 : Hid (∀ g, v5.ownBlock = some g → W.heap.size ≤ g ∨ v.ownBlock = some g) := Lib.hid (own_from HE2.out.size b5); have X5 := Lib.hid ((HE.out.trans HE2.out).grown g5 (fun g hg => Nat.le_trans HwB.out (HO.out.low g hg))); clear o5 g5 b5)
      refine (HIF.out _ X5.out).mono ?_
      rintro e3 w6 ⟨v6, rfl, o6, x6⟩
      obtain ⟨A6, c6, e6, hc6, hm6, ha6, hf6, hg6⟩ := o6.row
      subst e6
      rw [ints_len, HQ.out] at hc6 hg6 ⊢
      have HLOW : Hid (∀ b o, A6 = some ⟨b, o, none⟩ → w5.heap.size ≤ b) := Lib.hid (fun b o hA => o6.low b (by rw [hA]; rfl))
      have HG6 := Lib.hid hg6
      have X6 := Lib.hid (X5.out.trans x6)
      have O6 := Lib.hid (O5.out.ext x6)
      have G6 : Hid (W.grownBy w6 v.ownBlock) := Lib.hid (G5.out.andThen (ext_grown x6 v.ownBlock) (fun j hj => .inr hj))
      have S6 := Lib.hid x6.size
      have H5 := Lib.hid O5.out.high
      unfold maxLen at hm6
      clear o6 x6 hg6 ha6 hf6
      go_wp2_with fail
      go_loopw [1, 8] (fun lv kv wr => ∃ (k : Nat) (v9 : Value), kv = .int .i64 k ∧ v9 = lv ∧ k ≤ q ∧ Hid (Own B wr 3 .i64 v9 (ints ((js.take k).foldl (grK (builtZ ++ r)).with_ (l ++ [i])))) ∧ Hid (w6.grownBy wr v5.ownBlock) ∧ Hid (∀ g, v9.ownBlock = some g → w6.heap.size ≤ g ∨ v5.ownBlock = some g) ∧ Hid (Ext w wr)) (fun _ kv _ => q - (intOf kv).toNat)
      case atStart => exact ⟨0, v5, rfl, rfl, by omega, O6, Lib.hid (World.grownBy.refl _ _), Lib.hid (fun g hg => .inr hg), X6⟩
      case round =>
        obtain ⟨k, v9, rfl, rfl, hk, HOk, HGk, HPk, HXk⟩ := hrel
        rename World => wr
        by_cases hlt : k < q
        · have hltz : (k : Int) < (q : Int) := by omega
          have hk0 : ¬ (k : Int) < 0 := by omega
          have hkl : k < js.length := by rw [HQ.out]; exact hlt
          obtain ⟨y, hy⟩ : ∃ y, js[k]? = some y := ⟨js[k], List.getElem?_eq_getElem hkl⟩
          have hyn : y < n := HJN.out y (List.mem_of_getElem? hy)
          obtain ⟨b, o, hA, hb, hx⟩ := HG6.out (by omega)
          have hbl := HLOW.out b o hA
          subst hA
          have hgi : gi (ints js) k = (y : Int) := by
            unfold gi ints
            rw [List.getD_eq_getElem?_getD, List.getElem?_map, hy]
            rfl
          have hc := HGk.out.cell (hx k hlt) (fun e9 => by have := H5.out b e9.symm; omega)
          rw [hgi] at hc
          have HTK : Hid ((js.take (k + 1)).foldl (grK (builtZ ++ r)).with_ (l ++ [i]) = (grK (builtZ ++ r)).with_ ((js.take k).foldl (grK (builtZ ++ r)).with_ (l ++ [i])) y) := Lib.hid (by
            rw [List.take_add_one, hy, List.foldl_append]; rfl)
          have HBr : Hid (B ≤ wr.heap.size) := Lib.hid (Nat.le_trans HB.out (Nat.le_trans G6.out.size HGk.out.size))
          have HY := Lib.hid hyn
          clear hy hyn hx hgi hkl hb hbl
          go_wp2_with fail
          refine (HIH.out B wr _ y v9 HXk.out HwB.out HBr.out (HND.out k).1 HY.out (HND.out k).2 HOk.out).mono ?_
          rintro e7 w7 ⟨v7, rfl, o7, g7, p7⟩
          rw [← HTK.out] at o7
          have O7 := Lib.hid o7
          have G7 : Hid (w6.grownBy w7 v5.ownBlock) := Lib.hid (HGk.out.andThen g7 HPk.out)
          have P7 : Hid (∀ g, v7.ownBlock = some g → w6.heap.size ≤ g ∨ v5.ownBlock = some g) := Lib.hid (fun g hg => by
            rcases p7 g hg with h1 | h1
            · have := HGk.out.size; exact .inl (by omega)
            · exact HPk.out g h1)
          have X7 : Hid (Ext w w7) := Lib.hid (HXk.out.grown g7 (fun g hg => Nat.le_trans HwB.out (HOk.out.low g hg)))
          clear o7 g7 p7
          go_wp2_with fail
          go_roundw
          case rel => exact ⟨k + 1, v7, by go_num, rfl, by omega, O7, G7, P7, X7⟩
          case measure => first | (simp [intOf]; omega) | simp [intOf]
        · have hltz : ¬ (k : Int) < (q : Int) := by omega
          have hkq : k = q := by omega
          subst hkq
          have HF : Hid (Own B wr 3 .i64 v9 (ints (js.foldl (grK (builtZ ++ r)).with_ (l ++ [i])))) := Lib.hid (by
            have h1 := HOk.out
            rwa [List.take_of_length_le (by rw [HQ.out]; exact Nat.le_refl _)] at h1)
          have GF : Hid (W.grownBy wr v.ownBlock) := Lib.hid (G6.out.andThen HGk.out P5.out)
          have PF : Hid (∀ g, v9.ownBlock = some g → W.heap.size ≤ g ∨ v.ownBlock = some g) := Lib.hid (fun g hg => by
            rcases HPk.out g hg with h1 | h1
            · have := G6.out.size; exact .inl (by omega)
            · exact P5.out g h1)
          go_wp2
          go_ret
          exact ⟨_, rfl, HF.out, GF.out, PF.out⟩
end
end Go.Proofs.YtkkfkjjmmdpafaaDoor
namespace Go.Proofs.YtkkfkjjmmdpafaaDoor
open Go.RowKit
set_option linter.unusedVariables false

theorem ints_get {w1 w6 wr : World} {A : Option Addr} {q c : Nat} {js : List Nat} {T : TypeId} {o6 : Option Nat} (o : Own w1.heap.size w6 T .i64 (.slice A q c) (ints js)) (h5 : ∀ g, o6 = some g → g < w1.heap.size) (hg : w6.grownBy wr o6) {k y : Nat} (hy : js[k]? = some y) : ∃ b o, A = some ⟨b, o, none⟩ ∧ wr.cell? ⟨b, o + k, none⟩ = some (.int .i64 y) := by
  have hlow := o.low
  obtain ⟨A6, c6, e6, hc6, hm6, ha6, hf6, hg6⟩ := o.row
  injection e6 with e1 e2 e3
  subst e1
  have hkl := (List.getElem?_eq_some_iff.1 hy).1
  have hk2 : k < (ints js).length := by rw [ints_len]; exact hkl
  obtain ⟨b, off, hA, hb, hx⟩ := hg6 (by omega)
  subst hA
  have hgi : gi (ints js) k = (y : Int) := by
    unfold gi ints
    rw [List.getD_eq_getElem?_getD, List.getElem?_map, hy]
    rfl
  have hc := hg.cell (hx k hk2) (fun e9 => by have h1 := h5 b e9.symm; have h2 := hlow b rfl; omega)
  rw [hgi] at hc
  exact ⟨b, off, rfl, hc⟩
section
variable {s g n c : Nat} {r : List Kl} {L : List KlV} {w w' : World}
set_option maxRecDepth 100000 in
set_option maxHeartbeats 4000000 in
theorem rabove_in (h : RfG s g n c r L w) (hok : (grK (builtZ ++ r)).Ok) (hif : ∀ k, k < n → ifsI (builtZ ++ r) k = ints ((grK (builtZ ++ r)).ifs k)) (i : Nat) (hi : i < n) :
    Calls Tryd.prog 31 #[.pointer (some ⟨s, 0, none⟩), .int .i64 i] w fun e w' => ∃ v', e = .returned v' ∧ Own w.heap.size w' 3 .i64 v' (ints ((grK (builtZ ++ r)).above i)) ∧ Ext w w' := by
  have hGN : (grK (builtZ ++ r)).n = n := h.lenN
  have hn72 := h.n72
  have hin : i < (grK (builtZ ++ r)).n := by omega
  have hnd := (hok.chain_all i hin).1
  have hh := rHas h i
  rw [inN_nat (by rw [h.lenN]; exact hi)] at hh
  have HHH := Lib.hid hh
  have HCH : Hid (∀ W, Ext w W → Calls Tryd.prog 54 #[.pointer (some ⟨s, 0, none⟩), .int .i64 i] W fun e w' => ∃ v', e = .returned v' ∧ Own W.heap.size w' 3 .i64 v' (ints ((grK (builtZ ++ r)).chain i)) ∧ Ext W w') := Lib.hid fun W e => rchain (h.ext e) hok i hi
  have HAB : Hid ((grK (builtZ ++ r)).above i = (((grK (builtZ ++ r)).chain i).flatMap (grK (builtZ ++ r)).ifs).foldl (grK (builtZ ++ r)).with_ ((grK (builtZ ++ r)).chain i)) := Lib.hid rfl
  have hcn : ∀ y ∈ (grK (builtZ ++ r)).chain i, y < n := fun y hy => by have := hnd.2 y hy; omega
  have hND : ∀ is : List Nat, (∀ j ∈ is, ∃ y, j ∈ (grK (builtZ ++ r)).ifs y) → (grK (builtZ ++ r)).Nd (is.foldl (grK (builtZ ++ r)).with_ ((grK (builtZ ++ r)).chain i)) := fun is his => (Gr.with_wd (is := is) hok.in_ hnd (fun j hj => by obtain ⟨y, hy⟩ := his j hj; exact hok.in_ y j (Gr.ifs_ups hy))).nd
  obtain ⟨ck, hck⟩ : ∃ ck, (grK (builtZ ++ r)).chain i = ck := ⟨_, rfl⟩
  rw [hck] at HCH HAB hcn hND
  have HIF : Hid (∀ (y : Nat) W', y < n → Ext w W' → Calls Tryd.prog 26 #[.pointer (some ⟨s, 0, none⟩), .int .i64 y] W' fun e w' => ∃ v', e = .returned v' ∧ Own W'.heap.size w' 3 .i64 v' (ints ((grK (builtZ ++ r)).ifs y)) ∧ Ext W' w') := Lib.hid fun y W' hy e' => by
    have := rifs_in (h.ext e') y hy
    rwa [hif y hy] at this
  have HJN : Hid (∀ y, ∀ j ∈ (grK (builtZ ++ r)).ifs y, j < n) := Lib.hid fun y j hj => by have := hok.in_ y j (Gr.ifs_ups hj); omega
  have HWI : Hid (∀ (W : World) (l : List Nat) (j : Nat) (v : Value), Ext w W → w.heap.size ≤ W.heap.size → (grK (builtZ ++ r)).Nd l → j < n → Own w.heap.size W 3 .i64 v (ints l) → Calls Tryd.prog 55 #[.pointer (some ⟨s, 0, none⟩), v, .int .i64 j] W (WithE w.heap.size W v ((grK (builtZ ++ r)).with_ l j))) := Lib.hid fun W l j v e e2 hl hj ho => rwith h hok hif (n + 1) w.heap.size W l j v e (Nat.le_refl _) e2 hl hj (by omega) ho
  have HND := Lib.hid hND
  have HCN := Lib.hid hcn
  obtain ⟨G, hG⟩ : ∃ G, grK (builtZ ++ r) = G := ⟨_, rfl⟩
  rw [hG] at HAB HIF HJN HWI HND ⊢
  obtain ⟨p, hp⟩ : ∃ p, ck.length = p := ⟨_, rfl⟩
  have HP := Lib.hid hp
  clear h hok hif hGN hn72 hin hnd hh hck hcn hND hG hp
  go_enter Tryd.func31, Tryd.ntmps31
  go_wp2_with fail
  refine HHH.out.mono ?_
  rintro e y ⟨rfl, hy⟩
  have hy := hy.symm
  subst hy
  go_wp2_with fail
  refine (HCH.out _ (Ext.refl _)).mono ?_
  rintro e w1 ⟨v5, rfl, o5, x5⟩
  have O5 := Lib.hid o5
  have X5 := Lib.hid x5
  clear o5 x5
  go_wp2_with fail
  refine (HCH.out _ X5.out).mono ?_
  rintro e w2 ⟨v6, rfl, o6, x6⟩
  obtain ⟨A6, c6, e6, hc6, hm6, -⟩ := o6.row
  subst e6
  rw [ints_len, HP.out] at hc6 o6 ⊢
  unfold maxLen at hm6
  have O6 := Lib.hid o6
  have X6 := Lib.hid (X5.out.trans x6)
  have O56 := Lib.hid (O5.out.ext x6)
  have H5 := Lib.hid O5.out.high
  clear o6 x6
  go_wp2_with fail
  go_loopw [5, 7] (fun ov kv wr => ∃ (k : Nat) (v9 : Value), kv = .int .i64 k ∧ v9 = ov ∧ k ≤ p ∧ Hid (Own w.heap.size wr 3 .i64 v9 (ints (((ck.take k).flatMap G.ifs).foldl G.with_ ck))) ∧ Hid (w2.grownBy wr v5.ownBlock) ∧ Hid (∀ g, v9.ownBlock = some g → w2.heap.size ≤ g ∨ v5.ownBlock = some g) ∧ Hid (Ext w wr)) (fun _ kv _ => p - (intOf kv).toNat)
  case atStart => exact ⟨0, v5, rfl, rfl, by omega, O56, Lib.hid (World.grownBy.refl _ _), Lib.hid (fun g hg => .inr hg), X6⟩
  case round =>
    obtain ⟨k, v9, rfl, rfl, hk, HOk, HGk, HPk, HXk⟩ := hrel
    rename World => wr
    by_cases hlt : k < p
    · have hltz : (k : Int) < (p : Int) := by omega
      have hk0 : ¬ (k : Int) < 0 := by omega
      have hkl : k < ck.length := by rw [HP.out]; exact hlt
      obtain ⟨y, hy⟩ : ∃ y, ck[k]? = some y := ⟨ck[k], List.getElem?_eq_getElem hkl⟩
      have HYN := Lib.hid (HCN.out y (List.mem_of_getElem? hy))
      obtain ⟨b, o, hA, hc⟩ := ints_get O6.out H5.out HGk.out hy
      subst hA
      have HTK : Hid ((ck.take (k + 1)).flatMap G.ifs = (ck.take k).flatMap G.ifs ++ G.ifs y) := Lib.hid (by
        rw [List.take_add_one, hy, List.flatMap_append]; simp)
      have HIS : Hid (∀ j ∈ (ck.take k).flatMap G.ifs, ∃ y, j ∈ G.ifs y) := Lib.hid fun j hj => by
        obtain ⟨y, -, hy⟩ := List.mem_flatMap.1 hj
        exact ⟨y, hy⟩
      obtain ⟨is, his⟩ : ∃ is, (ck.take k).flatMap G.ifs = is := ⟨_, rfl⟩
      rw [his] at HTK HIS HOk
      clear hy hkl his
      go_wp2_with fail
      refine (HIF.out y _ HYN.out HXk.out).mono ?_
      rintro e3 w3 ⟨v3, rfl, o3, x3⟩
      obtain ⟨A3, c3, e3, hc3, hm3, -⟩ := o3.row
      subst e3
      obtain ⟨js, hjs⟩ : ∃ js, G.ifs y = js := ⟨_, rfl⟩
      have HJJ : Hid (∀ j ∈ js, j < n ∧ ∃ y, j ∈ G.ifs y) := Lib.hid fun j hj => ⟨HJN.out y j (by rw [hjs]; exact hj), y, by rw [hjs]; exact hj⟩
      rw [hjs] at HTK o3 hc3 ⊢
      obtain ⟨q, hq⟩ : ∃ q, js.length = q := ⟨_, rfl⟩
      have HQ := Lib.hid hq
      rw [ints_len, hq] at hc3 o3 ⊢
      unfold maxLen at hm3
      have O3 := Lib.hid o3
      have X3 := Lib.hid (HXk.out.trans x3)
      have O93 := Lib.hid (HOk.out.ext x3)
      have H9 := Lib.hid HOk.out.high
      have G3 : Hid (w2.grownBy w3 v5.ownBlock) := Lib.hid (HGk.out.andThen (ext_grown x3 v5.ownBlock) (fun j hj => .inr hj))
      have S3 := Lib.hid (Nat.le_trans HGk.out.size x3.size)
      clear o3 x3 hq hjs hc
      go_wp2_with fail
      go_loopw [5, 9] (fun ov jv wj => ∃ (j : Nat) (v7 : Value), jv = .int .i64 j ∧ v7 = ov ∧ j ≤ q ∧ Hid (Own w.heap.size wj 3 .i64 v7 (ints ((is ++ js.take j).foldl G.with_ ck))) ∧ Hid (w3.grownBy wj v9.ownBlock) ∧ Hid (∀ g, v7.ownBlock = some g → w3.heap.size ≤ g ∨ v9.ownBlock = some g) ∧ Hid (Ext w wj)) (fun _ jv _ => q - (intOf jv).toNat)
      case atStart => exact ⟨0, v9, rfl, rfl, by omega, Lib.hid (by simpa using O93.out), Lib.hid (World.grownBy.refl _ _), Lib.hid (fun g hg => .inr hg), X3⟩
      case round =>
        obtain ⟨j, v7, rfl, rfl, hj, HOj, HGj, HPj, HXj⟩ := hrel
        rename World => wj
        by_cases hlj : j < q
        · have hljz : (j : Int) < (q : Int) := by omega
          have hj0 : ¬ (j : Int) < 0 := by omega
          obtain ⟨z, hz⟩ : ∃ z, js[j]? = some z := ⟨js[j]'(by rw [HQ.out]; exact hlj), List.getElem?_eq_getElem _⟩
          have HZ := Lib.hid (HJJ.out z (List.mem_of_getElem? hz))
          obtain ⟨b3, o3, hA, hc⟩ := ints_get O3.out H9.out HGj.out hz
          subst hA
          have HTJ : Hid ((is ++ js.take (j + 1)).foldl G.with_ ck = G.with_ ((is ++ js.take j).foldl G.with_ ck) z) := Lib.hid (by
            rw [List.take_add_one, hz, ← List.append_assoc, List.foldl_append]; rfl)
          have HNN := Lib.hid (HND.out (is ++ js.take j) (fun u hu => by
            rcases List.mem_append.1 hu with hu | hu
            · exact HIS.out u hu
            · exact (HJJ.out u (List.mem_of_mem_take hu)).2))
          clear hz
          go_wp2_with fail
          refine (HWI.out wj _ z v7 HXj.out HXj.out.size HNN.out HZ.out.1 HOj.out).mono ?_
          rintro e7 w7 ⟨v8, rfl, o7, g7, p7⟩
          rw [← HTJ.out] at o7
          have O7 := Lib.hid o7
          have G7 : Hid (w3.grownBy w7 v9.ownBlock) := Lib.hid (HGj.out.andThen g7 HPj.out)
          have P7 : Hid (∀ g, v8.ownBlock = some g → w3.heap.size ≤ g ∨ v9.ownBlock = some g) := Lib.hid (fun g hg => by
            rcases p7 g hg with h1 | h1
            · have := HGj.out.size; exact .inl (by omega)
            · exact HPj.out g h1)
          have X7 : Hid (Ext w w7) := Lib.hid (HXj.out.grown g7 (fun g hg => HOj.out.low g hg))
          clear o7 g7 p7
          go_wp2_with fail
          go_roundw
          case rel => exact ⟨j + 1, v8, by go_num, rfl, by omega, O7, G7, P7, X7⟩
          case measure => first | (simp [intOf]; omega) | simp [intOf]
        · have hljz : ¬ (j : Int) < (q : Int) := by omega
          have hjq : j = q := by omega
          subst hjq
          have OF : Hid (Own w.heap.size wj 3 .i64 v7 (ints (((ck.take (k + 1)).flatMap G.ifs).foldl G.with_ ck))) := Lib.hid (by
            have h1 := HOj.out
            rw [List.take_of_length_le (by rw [HQ.out]; exact Nat.le_refl _), ← HTK.out] at h1
            exact h1)
          have GF : Hid (w2.grownBy wj v5.ownBlock) := Lib.hid (G3.out.andThen HGj.out HPk.out)
          have PF : Hid (∀ g, v7.ownBlock = some g → w2.heap.size ≤ g ∨ v5.ownBlock = some g) := Lib.hid (fun g hg => by
            rcases HPj.out g hg with h1 | h1
            · have := S3.out; exact .inl (by omega)
            · exact HPk.out g h1)
          go_wp2_with fail
          go_roundw
          case rel => exact ⟨k + 1, v7, by go_num, rfl, by omega, OF, GF, PF, HXj⟩
          case measure => first | (simp [intOf]; omega) | simp [intOf]
    · have hltz : ¬ (k : Int) < (p : Int) := by omega
      have hkp : k = p := by omega
      subst hkp
      have OF : Hid (Own w.heap.size wr 3 .i64 v9 (ints (G.above i))) := Lib.hid (by
        have h1 := HOk.out
        rw [List.take_of_length_le (by rw [HP.out]; exact Nat.le_refl _), ← HAB.out] at h1
        exact h1)
      go_wp2
      go_ret
      exact ⟨_, rfl, OF.out, HXk.out⟩
set_option maxHeartbeats 400000 in
theorem rAbove (h : RfG s g n c r L w) (hok : (grK (builtZ ++ r)).Ok) (hif : ∀ k, k < n → ifsI (builtZ ++ r) k = ints ((grK (builtZ ++ r)).ifs k)) (i : Int) :
    Calls Tryd.prog 31 #[.pointer (some ⟨s, 0, none⟩), .int .i64 i] w fun e w' => ∃ v', e = .returned v' ∧ Own w.heap.size w' 3 .i64 v' (aboveZ (builtZ ++ r) i) ∧ Ext w w' := by
  unfold aboveZ
  have hh := rHas h i
  rcases in_cases (builtZ ++ r) i with ⟨k, rfl, hk⟩ | hi
  · rw [inN_nat hk, if_pos rfl, Int.toNat_natCast]
    exact rabove_in h hok hif k (by rw [← h.lenN]; exact hk)
  · rw [inN_no hi] at hh ⊢
    rw [if_neg (by simp)]
    have HHH := Lib.hid hh
    clear h hok hif hh hi
    go_enter Tryd.func31, Tryd.ntmps31
    go_wp2_with fail
    refine HHH.out.mono ?_
    rintro e y ⟨rfl, rfl⟩
    go_wp2
    go_ret
    exact ⟨_, rfl, Own.nil _ _ _ _, Ext.refl _⟩
end
end Go.Proofs.YtkkfkjjmmdpafaaDoor
namespace Go.Proofs.YtkkfkjjmmdpafaaDoor
open Go.RowKit
set_option linter.unusedVariables false

section
variable {s g n c : Nat} {r : List Kl} {L : List KlV} {w w' : World}
theorem rabove_bnd {N : List Kl} (hok : (grK N).Ok) {i : Nat} (hi : i < N.length) {j : Int} (hj : (aboveZ N i).contains j = true) : 0 ≤ j ∧ j < N.length := by
  unfold aboveZ at hj
  rw [inN_nat hi, if_pos rfl, Int.toNat_natCast, List.contains_iff_mem] at hj
  obtain ⟨x, hx, rfl⟩ := List.mem_map.1 hj
  have := (hok.above_wd i hi).nd.2 x hx
  have h2 : x < N.length := this
  omega
set_option maxHeartbeats 1000000 in
theorem rBelow (h : RfG s g n c r L w) (hok : (grK (builtZ ++ r)).Ok) (hif : ∀ k, k < n → ifsI (builtZ ++ r) k = ints ((grK (builtZ ++ r)).ifs k)) (i j : Int) :
    Calls Tryd.prog 33 #[.pointer (some ⟨s, 0, none⟩), .int .i64 i, .int .i64 j] w fun e w' => e = .returned (.bool (belowZ (builtZ ++ r) i j)) ∧ Ext w w' := by
  have hi2 := rHas h i
  have hj2 := rHas h j
  have HJ2 : Hid (∀ W, W = w → Calls Tryd.prog 50 #[.pointer (some ⟨s, 0, none⟩), .int .i64 j] W fun e w' => e = .returned (.bool (inN (builtZ ++ r) j)) ∧ w' = W) := Lib.hid fun W e => by rw [e]; exact hj2
  have HAB := Lib.hid (rAbove h hok hif i)
  rcases in_cases (builtZ ++ r) i with ⟨k, rfl, hk⟩ | hi
  · rw [inN_nat hk] at hi2
    have HI := Lib.hid hi2
    rcases in_cases (builtZ ++ r) j with ⟨m, rfl, hm⟩ | hj
    · rw [inN_nat hm] at HJ2
      rcases m with _ | m
      · have hb : Hid (belowZ (builtZ ++ r) k ((0 : Nat) : Int) = true) := Lib.hid (below_top hok hk)
        clear h hok hif hi2 hj2 HAB hk hm
        rw [hb.out]
        have h0 : ((0 : Nat) : Int) = 0 := rfl
        rw [h0] at HJ2 ⊢
        clear h0 hb
        go_enter Tryd.func33, Tryd.ntmps33
        go_wp2_with fail
        refine HI.out.mono ?_
        rintro e y ⟨rfl, hy⟩
        have hy := hy.symm
        subst hy
        go_wp2_with fail
        refine (HJ2.out _ rfl).mono ?_
        rintro e y ⟨rfl, hy⟩
        have hy := hy.symm
        subst hy
        go_wp2
        go_ret
        exact ⟨rfl, Ext.refl _⟩
      · obtain ⟨z, hz⟩ : ∃ z, m + 1 = z := ⟨_, rfl⟩
        rw [hz] at HJ2 ⊢
        have hz0 : ¬ (z : Int) = 0 := by omega
        have HB : Hid (belowZ (builtZ ++ r) k z = (aboveZ (builtZ ++ r) k).contains (z : Int)) := Lib.hid rfl
        obtain ⟨al, hal⟩ : ∃ al, aboveZ (builtZ ++ r) k = al := ⟨_, rfl⟩
        rw [hal] at HB HAB
        clear h hok hif hi2 hj2 hk hm hz hal
        rw [HB.out]
        go_enter Tryd.func33, Tryd.ntmps33
        go_wp2_with fail
        refine HI.out.mono ?_
        rintro e y ⟨rfl, hy⟩
        have hy := hy.symm
        subst hy
        go_wp2_with fail
        refine (HJ2.out _ rfl).mono ?_
        rintro e y ⟨rfl, hy⟩
        have hy := hy.symm
        subst hy
        go_wp2_with fail
        refine HAB.out.mono ?_
        rintro e y ⟨v1, rfl, o1, x1⟩
        have HR := Lib.hid (rhas o1.row (z : Int))
        have X1 := Lib.hid x1
        clear o1 x1
        go_wp2_with fail
        refine HR.out.mono ?_
        rintro e y2 ⟨rfl, q, rfl⟩
        have X2 := Lib.hid (X1.out.drewN q)
        go_wp2
        go_ret
        have hzb : ((z : Int) == 0) = false := by rw [beq_eq_false_iff_ne]; exact hz0
        refine ⟨?_, X2.out⟩
        show Ending.returned (.bool (((z : Int) == 0) || decide ((z : Int) ∈ al))) = _
        rw [hzb]
        simp
    · have HB : Hid (belowZ (builtZ ++ r) k j = false) := Lib.hid (by
        cases hb : belowZ (builtZ ++ r) k j
        · rfl
        · have := rabove_bnd hok hk hb
          omega)
      rw [inN_no hj] at HJ2
      clear h hok hif hi2 hj2 HAB hk hj
      rw [HB.out]
      go_enter Tryd.func33, Tryd.ntmps33
      go_wp2_with fail
      refine HI.out.mono ?_
      rintro e y ⟨rfl, hy⟩
      have hy := hy.symm
      subst hy
      go_wp2_with fail
      refine (HJ2.out _ rfl).mono ?_
      rintro e y ⟨rfl, hy⟩
      have hy := hy.symm
      subst hy
      go_wp2
      go_ret
      exact ⟨rfl, Ext.refl _⟩
  · rw [inN_no hi] at hi2
    have HI := Lib.hid hi2
    have HB : Hid (belowZ (builtZ ++ r) i j = false) := Lib.hid (by
      unfold belowZ aboveZ
      rw [inN_no hi, if_neg (by simp)]
      rfl)
    clear h hok hif hi2 hj2 HAB hi HJ2
    rw [HB.out]
    go_enter Tryd.func33, Tryd.ntmps33
    go_wp2_with fail
    refine HI.out.mono ?_
    rintro e y ⟨rfl, hy⟩
    have hy := hy.symm
    subst hy
    go_wp2
    go_ret
    exact ⟨rfl, Ext.refl _⟩
end
end Go.Proofs.YtkkfkjjmmdpafaaDoor
namespace Go.Proofs.YtkkfkjjmmdpafaaDoor
open Go.RowKit
set_option linter.unusedVariables false

section
variable {s g n c : Nat} {r : List Kl} {L : List KlV} {w w' : World}
set_option maxRecDepth 100000 in
theorem rMay (h : RfG s g n c r L w) (k : Int) (nm : ByteArray) : Calls Tryd.prog 37 #[.pointer (some ⟨s, 0, none⟩), .agg #[.int .i64 k, .string nm]] w fun e w' => e = .returned (.bool (mayZ (builtZ ++ r) k nm)) ∧ Ext w w' := by
  obtain ⟨f, hf⟩ : ∃ f, findZ (builtZ ++ r) nm = f := ⟨_, rfl⟩
  have HFQ : Hid (∀ W, Ext w W → Calls Tryd.prog 45 #[.slice (some ⟨g, 0, none⟩) n c, .string nm] W fun e w' => e = .returned (.int .i64 f) ∧ ∃ n, w' = W.drewN n) := Lib.hid fun W e => ((h.ext e).find nm).mono fun e' w' ⟨h1, h2⟩ => ⟨by rw [h1, hf], 0, by rw [h2]; rfl⟩
  have HF := Lib.hid hf
  have HC : Hid (∀ W, Ext w W → W.cell? ⟨s, 0, none⟩ = some (.slice (some ⟨g, 0, none⟩) n c)) := Lib.hid fun W e => (h.ext e).c0
  have hx := (Ext.refl w).alloc (.cells #[.int .i64 k, .string nm] 56)
  have HX := Lib.hid hx
  have HXX : Hid (∀ q, Ext w ((w.alloc (.cells #[.int .i64 k, .string nm] 56)).drewN q)) := Lib.hid fun q => hx.drewN q
  have hc := HC.out _ hx
  clear h hf hx
  have ref : k = 3 ∨ k = 6 → Calls Tryd.prog 37 #[.pointer (some ⟨s, 0, none⟩), .agg #[.int .i64 k, .string nm]] w fun e w' => e = .returned (.bool (mayZ (builtZ ++ r) k nm)) ∧ Ext w w' := by
    intro hk
    have e : mayZ (builtZ ++ r) k nm = decide (0 ≤ f) := by unfold mayZ; rw [if_pos hk, HF.out]
    rw [e]
    clear e
    by_cases hf0 : 0 ≤ f
    all_goals
      rw [show decide (0 ≤ f) = _ from by first | exact decide_eq_true hf0 | exact decide_eq_false hf0]
      rcases hk with rfl | rfl
      all_goals
        go_enter Tryd.func37, Tryd.ntmps37
        go_wp2_with fail
        go_quiet (first
          | (go_at_call 45; refine Calls.quiet_of (HFQ.out _ ?_); exact HXX.out _))
        go_wp2
        go_ret
        refine ⟨?_, HXX.out _⟩
        first | rfl | (simp; omega)
  have plain : k = 1 ∨ k = 2 ∨ k = 4 ∨ k = 5 → Calls Tryd.prog 37 #[.pointer (some ⟨s, 0, none⟩), .agg #[.int .i64 k, .string nm]] w fun e w' => e = .returned (.bool (mayZ (builtZ ++ r) k nm)) ∧ Ext w w' := by
    intro hk
    by_cases hnm : nm = ⟨#[]⟩
    · have e : mayZ (builtZ ++ r) k nm = true := by unfold mayZ; rw [if_neg (by omega), if_pos hk, decide_eq_true hnm]
      rw [e]
      clear e ref
      subst hnm
      rcases hk with rfl | rfl | rfl | rfl
      all_goals
        go_enter Tryd.func37, Tryd.ntmps37
        go_wp2
        go_ret
        exact ⟨rfl, HX.out⟩
    · have e : mayZ (builtZ ++ r) k nm = false := by unfold mayZ; rw [if_neg (by omega), if_pos hk, decide_eq_false hnm]
      rw [e]
      clear e ref
      have q1 : ¬ nm.toList = [] := fun e => hnm (ba_inj (e.trans (ByteArray.toList_mk []).symm))
      have q2 : (nm.toList == []) = false := by rw [beq_eq_false_iff_ne]; exact q1
      clear hnm
      rcases hk with rfl | rfl | rfl | rfl
      all_goals
        go_enter Tryd.func37, Tryd.ntmps37
        go_wp2
        go_ret
        exact ⟨rfl, HX.out⟩
  by_cases h1 : k = 3 ∨ k = 6
  · exact ref h1
  by_cases h2 : k = 1 ∨ k = 2 ∨ k = 4 ∨ k = 5
  · exact plain h2
  have e : mayZ (builtZ ++ r) k nm = false := by unfold mayZ; rw [if_neg h1, if_neg h2]
  rw [e]
  clear e ref plain
  have k1 : ¬ k = 1 := by omega
  have k2 : ¬ k = 2 := by omega
  have k3 : ¬ k = 3 := by omega
  have k4 : ¬ k = 4 := by omega
  have k5 : ¬ k = 5 := by omega
  have k6 : ¬ k = 6 := by omega
  clear h1 h2
  have b1 : (k == 1) = false := by rw [beq_eq_false_iff_ne]; exact k1
  have b2 : (k == 2) = false := by rw [beq_eq_false_iff_ne]; exact k2
  have b3 : (k == 3) = false := by rw [beq_eq_false_iff_ne]; exact k3
  have b4 : (k == 4) = false := by rw [beq_eq_false_iff_ne]; exact k4
  have b5 : (k == 5) = false := by rw [beq_eq_false_iff_ne]; exact k5
  have b6 : (k == 6) = false := by rw [beq_eq_false_iff_ne]; exact k6
  go_enter Tryd.func37, Tryd.ntmps37
  go_wp2
  go_ret
  exact ⟨rfl, HX.out⟩
end
end Go.Proofs.YtkkfkjjmmdpafaaDoor
