/- Several texts of this proof, one behind the other. -/
import Derived.Test.YtkkfkjjmmdpafaaDoorYdG
import Derived.Laws.EntriesVeiled
import Derived.Test.YtkkfkjjmmdpafaaDoorYdC
import Derived.Test.YtkkfkjjmmdpafaaDoorYdE
import Derived.Deep.RegionHeld3
import Derived.Deep.RegionLaw
import Derived.OwnWalk
import Derived.Test.YtkkfkjjmmdpafaaDoorProg
import Derived.Test.YtkkfkjjmmdpafaaDoorYdA
import Derived.Laws.BytesArg
import Derived.Lib.SliceRun
import Derived.Lib.Bytes
import Derived.BigQuiet
namespace Go.Proofs.YtkkfkjjmmdpafaaDoor
open Go.RowKit Go.Maps
set_option linter.unusedVariables false

theorem ints_contains (l : List Nat) (j : Nat) : (ints l).contains (j : Int) = decide (j ∈ l) := by
  unfold ints
  induction l with
  | nil => simp
  | cons a l ih =>
    rw [List.map_cons, List.contains_cons, ih]
    by_cases e : j = a
    · subst e; simp
    · have : ¬ (j : Int) = (a : Int) := by omega
      simp [e, this]
theorem foldl_takeS {α β : Type} {f : β → α → β} {b : β} {l : List α} {k : Nat} {x : α} (h : l[k]? = some x) : (l.take (k + 1)).foldl f b = f ((l.take k).foldl f b) x := by
  obtain ⟨hk, rfl⟩ := List.getElem?_eq_some_iff.1 h
  rw [List.take_succ_eq_append_getElem hk, List.foldl_append]
  rfl
set_option maxRecDepth 100000 in
set_option maxHeartbeats 4000000 in
theorem across_any {s m gb n c : Nat} {wb : World} {ns : List Nd} {g : Gr} (hg : g.Ok) (hE : SetEv s m gb n c ns wb) (hgn : g.n = n) (h72 : n ≤ 72) (his : ∀ i x, ns[i]? = some x → x.is = ints (g.ifs i)) (hln : ns.length = n) (hil : ∀ x ∈ ns, x.is.length ≤ 1000000) {B bs ba bu bx : Nat} {u : Value} {l0 : List Nat} :
    ∀ (N i : Nat) (l : List Nat) (v : Value) (w : World), n < l.length + N → i < n → g.Nd l → ClE wb B s bs ba bu bx u l0 w v l →
    Calls Tryd.prog 73 #[.int .i64 i, .pointer (some ⟨bs, 0, none⟩), .pointer (some ⟨ba, 0, none⟩), .pointer (some ⟨bx, 0, none⟩)] w fun e w' => e = .returned (.tuple #[]) ∧ ∃ v', ClE wb B s bs ba bu bx u l0 w' v' ((g.ifs i).foldl g.with_ l)
  | 0, i, l, v, w, hN, hi, hnd, hc => by
    have := nodup_len hnd.1 hnd.2
    omega
  | N + 1, i, l, v, w, hN, hi, hnd, hc => by
    obtain ⟨x, hx⟩ : ∃ x, ns[i]? = some x := ⟨ns[i]'(by omega), List.getElem?_eq_getElem _⟩
    have HE := Lib.hid hE
    have ev := hE w hc.ext
    have HN := Lib.hid (node_in ev.1 i hi h72)
    obtain ⟨_, _, _, _, _, _, x8, _, _⟩ := ev.1.node i x hx
    have cs := hc.cellS
    have HIS := Lib.hid (his i x hx)
    have HIH := Lib.hid (fun j l2 v2 w2 => across_any hg hE hgn h72 his hln hil (B := B) (bs := bs) (ba := ba) (bu := bu) (bx := bx) (u := u) (l0 := l0) N j l2 v2 w2)
    have HIN : Hid (∀ j ∈ g.ifs i, j < g.n) := Lib.hid fun j hj => hg.in_ i j (by unfold Gr.ups; exact List.mem_append.2 (.inr hj))
    have HG := Lib.hid hg
    have HRW := Lib.hid (fun W (e : Ext wb W) => ((hE W e).2 i x hx).vs)
    have hlen := hil x (List.mem_of_getElem? hx)
    obtain ⟨A, c0, e1, hc0, hcm, -⟩ := ev.2 i x hx |>.vs
    unfold Sl.v at e1
    injection e1 with e0 e1 e1c
    have hnl : x.vs.n = (g.ifs i).length := by rw [e1, his i x hx, ints_len]
    obtain ⟨nl, hnl1⟩ : ∃ nl, x.vs.n = nl := ⟨_, rfl⟩
    obtain ⟨A1, hA1⟩ : ∃ A1, x.vs.A = A1 := ⟨_, rfl⟩
    obtain ⟨cc, hcc⟩ : ∃ cc, x.vs.c = cc := ⟨_, rfl⟩
    have HRW2 : Hid (∀ W, Ext wb W → Row W .i64 (.slice A1 nl cc) (ints (g.ifs i))) := Lib.hid fun W e => by
      have := HRW.out W e
      unfold Sl.v at this
      rw [hnl1, hA1, hcc, HIS.out] at this
      exact this
    rw [hnl1, hA1, hcc] at x8
    have HNL : Hid (nl = (g.ifs i).length) := Lib.hid (by rw [← hnl1]; exact hnl)
    have H0 : Hid (∃ v1, ClE wb B s bs ba bu bx u l0 w v1 (((g.ifs i).take 0).foldl g.with_ l)) := Lib.hid ⟨v, hc⟩
    have HND := Lib.hid hnd
    have HGN := Lib.hid (And.intro hgn hN)
    have hnl3 : nl ≤ 1000000 := by rw [← hnl1, e1]; exact hlen
    clear hE ev hx hc hnd e0 e1 e1c hnl hnl1 hA1 hcc HRW HIS hc0 hcm hlen hgn hN his hln hil
    go_enter Tryd.func73, Tryd.ntmps73
    go_wp2_with fail
    refine HN.out.mono ?_
    rintro e0 w' ⟨rfl, rfl⟩
    go_wp2_with fail
    go_loopw [14] (fun iv wr => ∃ k : Nat, iv = .int .i64 k ∧ k ≤ nl ∧ Hid (∃ v1, ClE wb B s bs ba bu bx u l0 wr v1 (((g.ifs i).take k).foldl g.with_ l))) (fun iv _ => nl - (intOf iv).toNat)
    case atStart => exact ⟨0, rfl, by omega, H0⟩
    case round =>
      obtain ⟨k, rfl, hk, HC⟩ := hrel
      rename World => wr
      clear H0 HN cs x8
      by_cases hlt : k < nl
      · have hltz : (k : Int) < (nl : Int) := by omega
        have hkl : k < (g.ifs i).length := by have := HNL.out; omega
        obtain ⟨j, hj⟩ : ∃ j, (g.ifs i)[k]? = some j := ⟨(g.ifs i)[k], List.getElem?_eq_getElem hkl⟩
        obtain ⟨v1, hc1⟩ := HC.out
        obtain ⟨A', c', e1, e2, e3, e4, e5, hcell⟩ := HRW2.out wr hc1.ext
        injection e1 with e1 e6 e7
        subst e1
        obtain ⟨b, o, rfl, hb, hx⟩ := hcell (by rw [ints_len]; omega)
        have y0 := hx k (by rw [ints_len]; exact hkl)
        have hgi : gi (ints (g.ifs i)) k = (j : Int) := by unfold gi ints; rw [List.getD_eq_getElem?_getD, List.getElem?_map, hj]; rfl
        rw [hgi] at y0
        have hjn := HIN.out j (List.mem_of_getElem? hj)
        have hin := HG.out.in_
        have hwd := Gr.with_wd hin HND.out (is := (g.ifs i).take k) (fun q hq => HIN.out q (List.mem_of_mem_take hq))
        have hst := foldl_takeS (f := g.with_) (b := l) hj
        have hwe := Gr.with_eq hin hwd.nd hjn
        have hll : l.length ≤ (((g.ifs i).take k).foldl g.with_ l).length := by
          obtain ⟨t, ht⟩ := hwd.pre
          rw [ht, List.length_append]
          omega
        have hl72 := nodup_len hwd.nd.1 hwd.nd.2
        have hnd2 := hwd.nd
        obtain ⟨lk, hlk⟩ : ∃ lk, ((g.ifs i).take k).foldl g.with_ l = lk := ⟨_, rfl⟩
        rw [hlk] at hc1 hst hwe hll hl72 hnd2
        have HCO := Lib.hid (contains_any hc1.own.row (j : Int))
        rw [ints_contains] at HCO
        have ca := hc1.cellA
        have HCC := Lib.hid hc1
        have HST := Lib.hid hst
        clear e2 e3 e4 e5 e6 e7 hcell hx hgi hwd hlk HC hst
        by_cases hm : j ∈ lk
        · rw [if_pos hm] at hwe
          rw [decide_eq_true hm] at HCO
          have HC2 : Hid (∃ v1, ClE wb B s bs ba bu bx u l0 wr v1 (((g.ifs i).take (k + 1)).foldl g.with_ l)) := Lib.hid ⟨v1, by rw [HST.out, hwe]; exact HCC.out⟩
          obtain ⟨A2, c2, rfl, -⟩ := id hc1.own.row
          clear hwe hm hj hkl hjn hin hll hl72 hnd2 hc1
          go_wp2_with fail
          refine HCO.out.mono ?_
          rintro e0 w5 ⟨rfl, rfl⟩
          go_wp2_with fail
          go_roundw
          case rel => exact ⟨k + 1, by go_num, by omega, HC2⟩
          case measure => first | (simp [intOf]; omega) | simp [intOf]
        · rw [if_neg hm] at hwe
          rw [decide_eq_false hm] at HCO
          have HWE := Lib.hid hwe
          obtain ⟨A2, c2, rfl, hc2, hm2, -⟩ := id hc1.own.row
          obtain ⟨q, hq⟩ : ∃ q, (ints lk).length = q := ⟨_, rfl⟩
          rw [hq] at ca HCC hc2 hc1 HCO
          have hq2 : q ≤ 72 := by rw [← hq, ints_len]; have := HGN.out.1; omega
          have wfj : (Lit.int .i64 (j : Int)).wf = true := by have := HGN.out.1; simp [Lit.wf, IntKind.min, IntKind.max, IntKind.signed, IntKind.bits]; omega
          have HO1 := Lib.hid (hc1.own.ext ((Ext.refl wr).alloc (.cells #[.int .i64 j] 3)))
          have HR1 := Lib.hid (Row.built1 wr .i64 3 (j : Int) wfj)
          have hBw := hc1.hBw
          have HQ := Lib.hid hq
          have HQ2 : Hid ((ints lk ++ [(j : Int)]).length = q + 1) := Lib.hid (by rw [List.length_append, hq]; rfl)
          have HND2 := Lib.hid (hnd2.snoc hjn hm)
          have HLT : Hid (n < (lk ++ [j]).length + N) := Lib.hid (by have := HGN.out.2; simp; omega)
          have HJN : Hid (j < n) := Lib.hid (by have := HGN.out.1; omega)
          clear hwe hm hj hkl hjn hin hll hl72 hnd2 hc1 hq wfj
          go_wp2_with fail
          refine HCO.out.mono ?_
          rintro e0 w5 ⟨rfl, rfl⟩
          go_wp2_with (at_builtin; refine wpList_appK _ rfl _ _ B 48 3 _ 8 .i64 rfl Tryd.underlying48 infoI rfl (by omega) _ (ints lk) rfl HO1.out _ [(j : Int)] rfl HR1.out (by rw [HQ.out]; simp; omega) (by simp; omega) ?_; intro v2 w2 o2 g2 b2; obtain ⟨A3, c3, e2, hc3, hm3, -⟩ := id o2.row; rw [HQ2.out] at e2 hc3; subst e2; obtain ⟨z1, z2⟩ := HCC.out.baAt ((Ext.refl wr).alloc _) g2; have HPU := Lib.hid (HCC.out.push o2 ((Ext.refl wr).alloc _) g2 b2); have z3 := HPU.out.cellX; clear o2 g2 b2)
          refine (HIH.out j (lk ++ [j]) _ _ HLT.out HJN.out HND2.out HPU.out).mono ?_
          rintro e0 w6 ⟨rfl, v6, h6⟩
          have HC2 : Hid (∃ v1, ClE wb B s bs ba bu bx u l0 w6 v1 (((g.ifs i).take (k + 1)).foldl g.with_ l)) := Lib.hid ⟨v6, by rw [HST.out, HWE.out]; exact h6⟩
          clear h6 z1 z2 z3 HPU HO1 HR1 ca HCC
          go_wp2_with fail
          go_roundw
          case rel => exact ⟨k + 1, by go_num, by omega, HC2⟩
          case measure => first | (simp [intOf]; omega) | simp [intOf]
      · have hltz : ¬ (k : Int) < (nl : Int) := by omega
        go_wp2
        go_end0
        obtain ⟨v1, hc1⟩ := HC.out
        rw [List.take_of_length_le (by have := HNL.out; omega)] at hc1
        exact ⟨rfl, v1, hc1⟩
end Go.Proofs.YtkkfkjjmmdpafaaDoor
namespace Go.Proofs.YtkkfkjjmmdpafaaDoor
open Go.RowKit Go.Maps
set_option linter.unusedVariables false

theorem flat_foldS {α β : Type} {f : β → α → β} {h : α → List α} {b : β} {l : List α} {k : Nat} {x : α} (hx : l[k]? = some x) : ((l.take (k + 1)).flatMap h).foldl f b = (h x).foldl f (((l.take k).flatMap h).foldl f b) := by
  obtain ⟨hk, rfl⟩ := List.getElem?_eq_some_iff.1 hx
  rw [List.take_succ_eq_append_getElem hk, List.flatMap_append, List.foldl_append]
  simp
theorem ClE.re {wb w : World} {B s bs ba bu bx : Nat} {u u2 v : Value} {l l0 l2 : List Nat} (h : ClE wb B s bs ba bu bx u l0 w v l) (hp : PreK u2 l2 ba w v l) : ClE wb B s bs ba bu bx u2 l2 w v l :=
  ⟨h.ext, h.hs, h.hu, h.hx, h.ha, h.own, h.hB, h.hba, h.hBw, hp⟩
set_option maxRecDepth 100000 in
set_option maxHeartbeats 4000000 in
theorem climb_any {s m gb n c : Nat} {wb : World} {ns : List Nd} {g : Gr} (hg : g.Ok) (hE : SetEv s m gb n c ns wb) (hgn : g.n = n) (h72 : n ≤ 72) (hsu : ∀ i x, ns[i]? = some x → x.su = supV g i) (his : ∀ i x, ns[i]? = some x → x.is = ints (g.ifs i)) (hln : ns.length = n) (hil : ∀ x ∈ ns, x.is.length ≤ 1000000) (i : Nat) (hi : i < n) :
    Calls Tryd.prog 42 #[.pointer (some ⟨s, 0, none⟩), .int .i64 i] wb fun e w' => ∃ v', e = .returned (.tuple #[v', .int .i64 (g.chain i).length]) ∧ Own wb.heap.size w' 3 .i64 v' (ints (g.above i)) ∧ Ext wb w' := by
  have hch := hg.chain_all i (by omega)
  have hcl := nodup_len hch.1.1 hch.1.2
  obtain ⟨b0, hb0⟩ : ∃ b0, wb.heap.size = b0 := ⟨_, rfl⟩
  have HUP := Lib.hid (fun W (h : ClE wb (b0 + 4) s b0 (b0 + 1) (b0 + 1 + 1) (b0 + 1 + 1 + 1) (.slice none 0 0) [] W (.slice none 0 0) []) => up_any hg hE hgn h72 hsu hln (B := b0 + 4) (bs := b0) (ba := b0 + 1) (bu := b0 + 1 + 1) (bx := b0 + 1 + 1 + 1) (u := .slice none 0 0) (l0 := []) (g.rank i + 1) i [] (.slice none 0 0) W (by omega) hi h (by simp; omega))
  have HAC := Lib.hid (fun u j l v W hj hnd (h : ClE wb (b0 + 4) s b0 (b0 + 1) (b0 + 1 + 1) (b0 + 1 + 1 + 1) u (g.chain i) W v l) => across_any hg hE hgn h72 his hln hil (B := b0 + 4) (bs := b0) (ba := b0 + 1) (bu := b0 + 1 + 1) (bx := b0 + 1 + 1 + 1) (u := u) (l0 := g.chain i) (n + 1) j l v W (by omega) hj hnd h)
  have HND : Hid (∀ k, g.Nd (((g.chain i).take k).flatMap g.ifs |>.foldl g.with_ (g.chain i))) := Lib.hid fun k => (Gr.with_wd hg.in_ hch.1 (fun q hq => by
    obtain ⟨y, _, hy⟩ := List.mem_flatMap.1 hq
    exact hg.in_ y q (by unfold Gr.ups; exact List.mem_append.2 (.inr hy)))).nd
  have HCN := Lib.hid (fun x hx => (show x < n by rw [← hgn]; exact hch.1.2 x hx))
  have HPOS : Hid (0 < (g.chain i).length) := Lib.hid (List.length_pos_of_mem hch.2.1)
  obtain ⟨fu, hfu⟩ : ∃ fu, (Value.func (.func 72) #[] #[.pointer (some ⟨b0 + 1, 0, none⟩), .pointer (some ⟨b0 + 1 + 1, 0, none⟩), .pointer (some ⟨b0, 0, none⟩)]) = fu := ⟨_, rfl⟩
  obtain ⟨fx, hfx⟩ : ∃ fx, (Value.func (.func 73) #[] #[.pointer (some ⟨b0, 0, none⟩), .pointer (some ⟨b0 + 1, 0, none⟩), .pointer (some ⟨b0 + 1 + 1 + 1, 0, none⟩)]) = fx := ⟨_, rfl⟩
  obtain ⟨W, hW⟩ : ∃ W, ((((wb.alloc (.cells #[.pointer (some ⟨s, 0, none⟩)] 24)).alloc (.cells #[.slice none 0 0] 48)).alloc (.cells #[fu] 94)).alloc (.cells #[fx] 94)) = W := ⟨_, rfl⟩
  have hsz : W.heap.size = b0 + 4 := by rw [← hW, ← hb0]; simp
  have HC0 : Hid (ClE wb (b0 + 4) s b0 (b0 + 1) (b0 + 1 + 1) (b0 + 1 + 1 + 1) (.slice none 0 0) [] W (.slice none 0 0) []) := by
    refine Lib.hid ⟨by rw [← hW]; exact ((((Ext.refl wb).alloc _).alloc _).alloc _).alloc _, ?_, ?_, ?_, ?_, Own.nil _ _ _ _, by omega, by omega, by omega, .inl rfl⟩
    · rw [← hW, ← hb0, heap_alloc_old _ _ (by simp; omega), heap_alloc_old _ _ (by simp; omega), heap_alloc_old _ _ (by simp)]
      exact heap_alloc_new wb _
    · rw [hfu, ← hW, ← hb0, heap_alloc_old _ _ (by simp)]
      have := heap_alloc_new ((wb.alloc (.cells #[.pointer (some ⟨s, 0, none⟩)] 24)).alloc (.cells #[.slice none 0 0] 48)) (.cells #[fu] 94)
      simpa using this
    · rw [hfx, ← hW, ← hb0]
      have := heap_alloc_new (((wb.alloc (.cells #[.pointer (some ⟨s, 0, none⟩)] 24)).alloc (.cells #[.slice none 0 0] 48)).alloc (.cells #[fu] 94)) (.cells #[fx] 94)
      simpa using this
    · rw [← hW, ← hb0, heap_alloc_old _ _ (by simp), heap_alloc_old _ _ (by simp)]
      have := heap_alloc_new (wb.alloc (.cells #[.pointer (some ⟨s, 0, none⟩)] 24)) (.cells #[.slice none 0 0] 48)
      simpa using this
  have HFU := Lib.hid (And.intro hfu hfx)
  have HB0 := Lib.hid hb0
  have hcl2 : (g.chain i).length ≤ 72 := by omega
  clear hE hg hch hcl hsu his hil hfu hfx
  go_enter Tryd.func42, Tryd.ntmps42
  go_wp2_with fail
  rw [HFU.out.1, HFU.out.2, hW]
  refine (HUP.out W HC0.out).mono ?_
  rintro e0 w1 ⟨rfl, v1, h1⟩
  rw [List.nil_append] at h1
  obtain ⟨gA, c1, rfl, hgB, hgw, hc1, hcm, -, -⟩ := h1.own.parts (by rw [ints_len]; exact HPOS.out)
  have hln1 := ints_len (g.chain i)
  obtain ⟨q, hq⟩ : ∃ q, (ints (g.chain i)).length = q := ⟨_, rfl⟩
  rw [hq] at h1 hc1 hln1
  have HQ := Lib.hid (And.intro hq hln1)
  have hgba : gA ≠ b0 + 1 := by
    obtain ⟨c2, z2, h2⟩ := own_typed h1.own gA rfl
    exact heap_ne h2 h1.ha (by decide)
  have HC1 : Hid (∃ v2, ClE wb (b0 + 4) s b0 (b0 + 1) (b0 + 1 + 1) (b0 + 1 + 1 + 1) (.slice (some ⟨gA, 0, none⟩) q c1) (g.chain i) w1 v2 ((((g.chain i).take 0).flatMap g.ifs).foldl g.with_ (g.chain i))) :=
    Lib.hid ⟨_, h1.re (.inr ⟨h1.own.row, gA, q, c1, rfl, hgw, hgba, .inl ⟨rfl, [], by simp⟩⟩)⟩
  have ca := h1.cellA
  have hq72 : q ≤ 72 := by omega
  unfold maxLen at hcm
  have hqc0 : ¬ c1 < q := by omega
  have hq0 : 0 < q := by have := HPOS.out; omega
  have hcq : ¬ c1 = 0 := by omega
  clear h1 hgB hgw hln1 hgba hW HUP HC0
  go_wp2_with fail
  go_loopw [21] (fun iv wr => ∃ k : Nat, iv = .int .i64 k ∧ k ≤ q ∧ Hid (∃ v2, ClE wb (b0 + 4) s b0 (b0 + 1) (b0 + 1 + 1) (b0 + 1 + 1 + 1) (.slice (some ⟨gA, 0, none⟩) q c1) (g.chain i) wr v2 ((((g.chain i).take k).flatMap g.ifs).foldl g.with_ (g.chain i)))) (fun iv _ => q - (intOf iv).toNat)
  case atStart => exact ⟨0, rfl, by omega, HC1⟩
  case round =>
    obtain ⟨k, rfl, hk, HC⟩ := hrel
    rename World => wr
    clear HC1 ca
    obtain ⟨v2, h2⟩ := HC.out
    by_cases hlt : k < q
    · have hltz : (k : Int) < (q : Int) := by omega
      have hkl : k < (g.chain i).length := by have := HQ.out; omega
      obtain ⟨x, hx⟩ : ∃ x, (g.chain i)[k]? = some x := ⟨(g.chain i)[k], List.getElem?_eq_getElem hkl⟩
      have hrow : Row wr .i64 (.slice (some ⟨gA, 0, none⟩) q c1) (ints (g.chain i)) := by
        rcases h2.pre with h | h
        · rw [h] at hkl; simp at hkl
        · exact h.1
      obtain ⟨A', c', e1, e2, e3, e4, e5, hcell⟩ := hrow
      injection e1 with e1 e6 e7
      obtain ⟨b, o, hA, hb, hat⟩ := hcell (by rw [ints_len]; omega)
      rw [hA] at e1
      injection e1 with e1
      injection e1 with e8 e9 _
      subst e8 e9
      have y0 := hat k (by rw [ints_len]; exact hkl)
      rw [Nat.zero_add] at y0
      have hgi : gi (ints (g.chain i)) k = (x : Int) := by unfold gi ints; rw [List.getD_eq_getElem?_getD, List.getElem?_map, hx]; rfl
      rw [hgi] at y0
      have z3 := h2.cellX
      have HCC := Lib.hid (HAC.out _ x _ v2 wr (HCN.out x (List.mem_of_getElem? hx)) (HND.out k) h2)
      have HST := Lib.hid (flat_foldS (f := g.with_) (h := g.ifs) (b := g.chain i) hx)
      clear e2 e3 e4 e5 e6 e7 hcell hat hA hgi hkl hx h2 HC
      go_wp2_with fail
      refine HCC.out.mono ?_
      rintro e0 w6 ⟨rfl, v6, h6⟩
      have HC2 : Hid (∃ v2, ClE wb (b0 + 4) s b0 (b0 + 1) (b0 + 1 + 1) (b0 + 1 + 1 + 1) (.slice (some ⟨gA, 0, none⟩) q c1) (g.chain i) w6 v2 ((((g.chain i).take (k + 1)).flatMap g.ifs).foldl g.with_ (g.chain i))) := Lib.hid ⟨v6, by rw [HST.out]; exact h6⟩
      clear h6 z3 HCC y0
      go_wp2_with fail
      go_roundw
      case rel => exact ⟨k + 1, by go_num, by omega, HC2⟩
      case measure => first | (simp [intOf]; omega) | simp [intOf]
    · have hltz : ¬ (k : Int) < (q : Int) := by omega
      have HO : Hid (Own wb.heap.size (wr.setCell ⟨b0 + 1, 0, none⟩ v2) 3 .i64 v2 (ints (g.above i)) ∧ Ext wb (wr.setCell ⟨b0 + 1, 0, none⟩ v2) ∧ (wr.setCell ⟨b0 + 1, 0, none⟩ v2).cell? ⟨b0 + 1, 0, none⟩ = some v2) := by
        have h3 := h2
        rw [List.take_of_length_le (by have := HQ.out; omega)] at h3
        refine Lib.hid ⟨(h3.own.kept (only_set (World.grownBy.refl wr (some (b0 + 1))) 0 v2) fun p hp e => ?_).base h3.hB, h3.ext.set_ h3.hba v2, ?_⟩
        · injection e with e
          subst e
          obtain ⟨c2, z2, h4⟩ := own_typed h3.own _ hp
          exact heap_ne h4 h3.ha (by decide) rfl
        · rw [cell_of_row _ (b0 + 1) 0 _ _ (0, 0) (heap_setCell_same wr (b0 + 1) 0 _ _ v2 h3.ha)]
          rfl
      have ca := h2.cellA
      have hfr : wr.frozen? ⟨b0 + 1, 0, none⟩ = false := by simp [World.frozen?, h2.ha]
      obtain ⟨A2, c2, rfl, hc2, -⟩ := id h2.own.row
      obtain ⟨q2, hq2⟩ : ∃ q2, (ints ((((g.chain i).take k).flatMap g.ifs).foldl g.with_ (g.chain i))).length = q2 := ⟨_, rfl⟩
      rw [hq2] at HO ca
      clear h2 hq2 HC hc2
      go_wp2
      obtain ⟨o1, o2, o3⟩ := HO.out
      refine bodyPost_ret (v := .tuple #[.slice A2 q2 c2, .int .i64 q]) (by simp [results, Tryd.results42, go_sem, o3]) rfl ?_
      rw [HB0.out] at o1
      exact ⟨_, by rw [← HQ.out.2], o1, o2⟩
end Go.Proofs.YtkkfkjjmmdpafaaDoor
namespace Go.Proofs.YtkkfkjjmmdpafaaDoor
set_option linter.unusedVariables false

theorem Gr.Ok.ab_lt {g : Gr} (h : g.Ok) {x y : Nat} (hx : x < g.n) (hy : y ∈ g.above x) : y < g.n := by
  rcases (h.mem_above x hx y).1 hy with rfl | hr
  · exact hx
  · have : ∀ {a b}, Rch g.ups a b → b < g.n := by
      intro a b hr
      induction hr with
      | one h1 => exact h.in_ _ _ h1
      | more _ _ ih => exact ih
    exact this hr
theorem Gr.Ok.ab_refl {g : Gr} (h : g.Ok) {x : Nat} (hx : x < g.n) : x ∈ g.above x := (h.mem_above x hx x).2 (.inl rfl)
theorem Gr.Ok.ab_top {g : Gr} (h : g.Ok) {x : Nat} (hx : x < g.n) : 0 ∈ g.above x := by
  obtain ⟨t, ht⟩ := (h.above_wd x hx).pre
  rw [ht]
  exact List.mem_append.2 (.inl (h.chain_all x hx).2.1)
theorem Gr.Ok.ab_trans {g : Gr} (h : g.Ok) {x y z : Nat} (hx : x < g.n) (h1 : y ∈ g.above x) (h2 : z ∈ g.above y) : z ∈ g.above x := by
  have hy := h.ab_lt hx h1
  refine (h.mem_above x hx z).2 ?_
  rcases (h.mem_above x hx y).1 h1 with rfl | h3
  · exact (h.mem_above y hx z).1 h2
  · rcases (h.mem_above y hy z).1 h2 with rfl | h4
    · exact .inr h3
    · exact .inr (h3.trans h4)
theorem Gr.Ok.ab_step {g : Gr} (h : g.Ok) {x y : Nat} (hx : x < g.n) : y ∈ g.above x ↔ (x = y ∨ y = 0 ∨ ∃ u ∈ g.ups x, y ∈ g.above u) := by
  constructor
  · intro h1
    rcases (h.mem_above x hx y).1 h1 with e | h2
    · exact .inl e.symm
    · cases h2 with
      | one h3 => exact .inr (.inr ⟨y, h3, h.ab_refl (h.in_ _ _ h3)⟩)
      | more h3 h4 => exact .inr (.inr ⟨_, h3, (h.mem_above _ (h.in_ _ _ h3) y).2 (.inr h4)⟩)
  · rintro (rfl | rfl | ⟨u, hu, h1⟩)
    · exact h.ab_refl hx
    · exact h.ab_top hx
    · exact h.ab_trans hx ((h.mem_above x hx u).2 (.inr (.one hu))) h1
theorem Gr.Ok.common_ab {g : Gr} (h : g.Ok) {x y : Nat} (hx : x < g.n) (hy : y < g.n) : ∃ c, g.common x y = some c ∧ g.common y x = some c ∧ c < g.n ∧ c ∈ g.chain x ∧ c ∈ g.chain y := by
  obtain ⟨c, p, q, e, hc, hp, hq, hpn, hqn⟩ := h.common_cut x y hx hy
  have hce : g.chain c = c :: (match g.sup c with | none => [] | some j => g.chain j) := h.chain_eq c
  have m1 : c ∈ g.chain x := by rw [hp, hce]; simp
  have m2 : c ∈ g.chain y := by rw [hq, hce]; simp
  refine ⟨c, e, ?_, hc, m1, m2⟩
  unfold Gr.common
  rw [hq, hce, List.find?_append, List.find?_eq_none.2 (fun z hz => by simpa using hqn z hz)]
  simp [m1]
end Go.Proofs.YtkkfkjjmmdpafaaDoor
namespace Go.Proofs.YtkkfkjjmmdpafaaDoor
open Go.RowKit
set_option linter.unusedVariables false

def NilK (x : KlV) : Prop := x.vp = sl0 ∧ x.vf = sl0 ∧ x.vm = sl0
theorem sizeK : (Value.agg klv0.vals).cells.size = 7 := by kernel_rfl
set_option maxRecDepth 100000 in
set_option maxHeartbeats 4000000 in
theorem heads_any {w : World} {v : Value} {l : List KlV} (h : ShK.Row w v l) (hl : l.length * 136 ≤ 140737488351232) (hk : ∀ x ∈ l, KlOk x) :
    Calls Tryd.prog 11 #[v] w fun e w' => ∃ A c L, e = .returned (.slice A l.length c) ∧ ShK.Own w.heap.size w' (.slice A l.length c) L ∧ L.map (·.k) = l.map (·.k) ∧ (∀ x ∈ L, NilK x) ∧ Ext w w' := by
  obtain ⟨A, c, rfl, hc, hm, hn⟩ := h.cut
  have HR := Lib.hid h
  have HK := Lib.hid hk
  obtain ⟨n, hnl⟩ : ∃ n, l.length = n := ⟨_, rfl⟩
  have HN := Lib.hid hnl
  rw [hnl] at hc HR hl ⊢
  unfold maxLen at hm
  obtain ⟨b0, hb0⟩ : ∃ b0, w.heap.size = b0 := ⟨_, rfl⟩
  have HB0 := Lib.hid hb0
  rw [hb0]
  clear h hk hn hnl hb0
  go_enter Tryd.func11, Tryd.ntmps11
  go_wp2_with fail
  go_loopw [3, 4] (fun ov iv wr => ∃ (k : Nat) (L : List KlV) (A' : Option Addr) (c' : Nat), iv = .int .i64 k ∧ k ≤ n ∧ ov = .slice A' k c' ∧ Hid (ShK.Own b0 wr (.slice A' k c') L) ∧ Hid (L.map (·.k) = (l.map (·.k)).take k) ∧ Hid (∀ x ∈ L, NilK x) ∧ Hid (Ext w wr)) (fun _ iv _ => n - (intOf iv).toNat)
  case atStart => exact ⟨0, [], none, 0, rfl, by omega, rfl, Lib.hid (Shp.Own.nil _ _ _), Lib.hid rfl, Lib.hid (fun x hx => by cases hx), Lib.hid (Ext.refl w)⟩
  case round =>
    obtain ⟨k, L, A', c', rfl, hkn, rfl, HO, HL, HNK, HX⟩ := hrel
    rename World => wr
    by_cases hlt : k < n
    · have hltz : (k : Int) < (n : Int) := by omega
      have hkl : k < l.length := by have := HN.out; omega
      obtain ⟨b, o, hA, hat⟩ := HR.out.at (by have := HN.out; omega)
      subst hA
      obtain ⟨x, hx⟩ : ∃ x, l[k]? = some x := ⟨l[k], List.getElem?_eq_getElem hkl⟩
      have hel : ShK.el l k = x := by rw [ShK.el_get hkl]; exact (List.getElem?_eq_some_iff.1 hx).2
      have hat2 := hat wr HX.out k hkl
      rw [hel, show ShK.n = 7 from rfl] at hat2
      obtain ⟨ha, hne⟩ := hat2
      have ha := AtK.of ha
      have HNE := Lib.hid hne
      have HAT : Hid (∀ W, Ext wr W → W.cell? ⟨b, o + k * 7 + 4, none⟩ = some (.slice x.vi.A x.vi.n x.vi.c)) := Lib.hid fun W e => by
        have h := (hat W (HX.out.trans e) k hkl).1
        rw [hel, show ShK.n = 7 from rfl] at h
        exact (AtK.of h).2.2.2.2.1
      unfold AtK at ha
      obtain ⟨y0, y1, y2, y3, y4, y5, y6⟩ := ha
      clear hat hne hel hkl y0 y4 y5 y6
      have e1 := (Ext.refl wr).drew
      go_wp2_with fail
      go_region_held3 (fun w' => w'.cell? ⟨b, o + k * 7 + 1, none⟩ = some (.string x.k.nm) ∧ w'.cell? ⟨b, o + k * 7 + 2, none⟩ = some (.string x.k.sup) ∧ w'.cell? ⟨b, o + k * 7 + 3, none⟩ = some (.bool x.k.inf)) (first | go_keep | with_reducible assumption | assumption) (fail)
      obtain ⟨W5, hW5⟩ : ∃ W5, (wr.alloc (.cells #[.slice none 0 0, .string x.k.nm, .string x.k.sup, .bool x.k.inf, .slice none 0 0, .slice none 0 0, .slice none 0 0] 36)).drew = W5 := ⟨_, rfl⟩
      rw [hW5]
      obtain ⟨q, hq⟩ : ∃ q, wr.heap.size = q := ⟨_, rfl⟩
      have hbq : W5.heap[q]? = some (.cells #[.slice none 0 0, .string x.k.nm, .string x.k.sup, .bool x.k.inf, .slice none 0 0, .slice none 0 0, .slice none 0 0] 36 (0, 0)) := by rw [← hW5, ← hq]; exact heap_alloc_new wr _
      rw [hq]
      have HX5 : Hid (Ext wr W5) := Lib.hid (by rw [← hW5]; exact ((Ext.refl _).alloc _).drew)
      have HBQ := Lib.hid hbq
      have HQ := Lib.hid hq
      have HFR : Hid (∀ W, Ext W5 W → W.heap[q]? = some (.cells #[.slice none 0 0, .string x.k.nm, .string x.k.sup, .bool x.k.inf, .slice none 0 0, .slice none 0 0, .slice none 0 0] 36 (0, 0)) ∧ W.cell? ⟨q, 4, none⟩ = some (.slice none 0 0) ∧ W.frozen? ⟨q, 4, none⟩ = false) := Lib.hid fun W e => by
        have h1 := (e.block _ (lt_of_get hbq)).trans hbq
        refine ⟨h1, ?_, by simp [World.frozen?, h1]⟩
        rw [cell_of_row W q _ _ _ (0, 0) h1]
        rfl
      have HEQ : Hid (x.vi.n = x.k.ifs.length) := Lib.hid (by
        obtain ⟨A9, c9, e9, -⟩ := HNE.out.cut
        injection e9)
      have hkx := HK.out x (List.mem_of_getElem? hx)
      have HLN := Lib.hid hkx.len
      have HBW : Hid (b0 ≤ W5.heap.size) := Lib.hid (by have := (HX.out.trans HX5.out).size; have := HB0.out; omega)
      have HTK : Hid ((l.map (·.k)).take (k + 1) = (l.map (·.k)).take k ++ [x.k]) := Lib.hid (by
        have : (l.map (·.k))[k]? = some x.k := by rw [List.getElem?_map, hx]; rfl
        rw [List.take_add_one, this]; rfl)
      have HROW : Hid (ShS.Row W5.drew (.slice x.vi.A x.vi.n x.vi.c) x.k.ifs) := Lib.hid (Shp.Row.ext HNE.out (HX5.out.drew))
      have z4 := (HFR.out W5 (Ext.refl _)).2.1
      have y4 := HAT.out W5 HX5.out
      have z4' := (HFR.out W5.drew (Ext.refl _).drew).2.1
      have y4' := HAT.out W5.drew HX5.out.drew
      have x2 := (Ext.refl W5).drew
      clear hW5 hq hbq hkx e1 hx y1 y2 y3
      go_wp2_with fail
      go_region_law (first
        | ((refine Shp.step_app ShS rfl _ _ b0 32 (.string ⟨#[]⟩) 16 rfl Tryd.underlying32 infoS (by kernel_rfl) (by omega) (.slice none 0 0) [] rfl (Shp.Own.nil _ _ _) (.slice x.vi.A x.vi.n x.vi.c) x.k.ifs rfl HROW.out (fun _ _ => trivial) (by have := HLN.out; simp only [List.length_nil]; omega) HBW.out ?_); intro v6 w6 o6 g6 b6; obtain ⟨A6, c6, e6, hc6, hm6⟩ := o6.slice; subst e6; have O6 := Lib.hid o6; have X6 := Lib.hid (x2.grown g6 (fun g h => by cases h)); obtain ⟨f0, f1, f2⟩ := HFR.out w6 X6.out; clear o6 g6 b6)
        | fail)
      all_goals
        have HB6 := Lib.hid f0
        simp only [List.nil_append] at O6
        obtain ⟨W7, hW7⟩ : ∃ W7, w6.setCell ⟨q, 4, none⟩ (.slice A6 x.k.ifs.length c6) = W7 := ⟨_, rfl⟩
        rw [hW7]
        have hb7 : W7.heap[q]? = some (.cells #[.slice none 0 0, .string x.k.nm, .string x.k.sup, .bool x.k.inf, .slice A6 x.k.ifs.length c6, .slice none 0 0, .slice none 0 0] 36 (0, 0)) := by rw [← hW7]; exact heap_setCell_same w6 q 4 _ _ _ HB6.out
        have HX7 : Hid (Ext wr W7) := Lib.hid (by rw [← hW7]; exact (HX5.out.trans X6.out).set_ (by show wr.heap.size ≤ q; rw [HQ.out]; exact Nat.le_refl _) _)
        have HG7 : Hid (w6.grownBy W7 (some q)) := Lib.hid (by rw [← hW7]; exact set_grownK w6 q 4 _)
        have HN7 : Hid (ShS.Own b0 W7 (.slice A6 x.k.ifs.length c6) x.k.ifs) := Lib.hid (O6.out.kept HG7.out (fun g hg e => by
          injection e with e
          subst e
          obtain ⟨cc, zz, h9⟩ := Shp.Own.typed O6.out _ hg
          rw [HB6.out] at h9
          injection h9 with h9
          injection h9 with _ h9 _
          exact absurd h9 (by decide)) (fun _ _ h => h))
        have c0 : W7.cell? ⟨q, 0, none⟩ = some (.slice none 0 0) := by rw [cell_of_row W7 q 0 _ _ (0, 0) hb7]; rfl
        have c1 : W7.cell? ⟨q, 1, none⟩ = some (.string x.k.nm) := by rw [cell_of_row W7 q 1 _ _ (0, 0) hb7]; rfl
        have c2 : W7.cell? ⟨q, 2, none⟩ = some (.string x.k.sup) := by rw [cell_of_row W7 q 2 _ _ (0, 0) hb7]; rfl
        have c3 : W7.cell? ⟨q, 3, none⟩ = some (.bool x.k.inf) := by rw [cell_of_row W7 q 3 _ _ (0, 0) hb7]; rfl
        have c4 : W7.cell? ⟨q, 4, none⟩ = some (.slice A6 x.k.ifs.length c6) := by rw [cell_of_row W7 q 4 _ _ (0, 0) hb7]; rfl
        have c5 : W7.cell? ⟨q, 5, none⟩ = some (.slice none 0 0) := by rw [cell_of_row W7 q 5 _ _ (0, 0) hb7]; rfl
        have c6' : W7.cell? ⟨q, 6, none⟩ = some (.slice none 0 0) := by rw [cell_of_row W7 q 6 _ _ (0, 0) hb7]; rfl
        have HO7 : Hid (ShK.Own b0 W7 (.slice A' k c') L) := Lib.hid (HO.out.ext HX7.out)
        have HLK : Hid (L.length = k) := Lib.hid (by
          obtain ⟨A9, c9, e9, -⟩ := HO.out.slice
          injection e9 with _ e9 _
          exact e9.symm)
        have HRN : Hid (ShK.Row (W7.alloc (.cells #[.slice none 0 0, .string x.k.nm, .string x.k.sup, .bool x.k.inf, .slice A6 x.k.ifs.length c6, .slice none 0 0, .slice none 0 0] 36)) (.slice (some ⟨W7.heap.size, 0, none⟩) 1 1) [⟨x.k, sl0, ⟨A6, x.k.ifs.length, c6⟩, sl0, sl0⟩]) := Lib.hid (Shp.Row.single (S := ShK) (T := 36) (heap_alloc_new W7 _) (HN7.out.row.ext ((Ext.refl _).alloc _)))
        have HBW7 : Hid (b0 ≤ W7.heap.size) := Lib.hid (by have := (HX.out.trans HX7.out).size; have := HB0.out; omega)
        have hk1 : (k + 1) * 136 ≤ 140737488355328 := by omega
        clear hW7 hb7 f1 f2 z4 y4 z4' y4' x2
        go_wp2_with (at_builtin; go_loud (refine ShK.wpList_app _ rfl _ _ b0 22 (.agg klv0.vals) 136 rfl Tryd.underlying22 infoK sizeK (by omega) _ L rfl (HO7.out.ext ((Ext.refl _).alloc _)) _ [⟨x.k, sl0, ⟨A6, x.k.ifs.length, c6⟩, sl0, sl0⟩] rfl HRN.out (fun e he => by rw [List.mem_singleton.1 he]; exact HN7.out.ext ((Ext.refl _).alloc _)) (by rw [HLK.out]; exact hk1) (by have := HBW7.out; simp; omega) ?_); intro v8 w8 o8 g8 _; obtain ⟨A8, c8, e8, hc8, hm8⟩ := o8.slice; subst e8; simp only [List.length_append, List.length_singleton, HLK.out] at o8 ⊢; have O8 := Lib.hid o8; have X8 := Lib.hid (((HX.out.trans HX7.out).alloc _).grown g8 (fun g hg => by rw [HB0.out]; exact HO7.out.low g hg)); clear o8 g8)
        go_roundw
        case rel => exact ⟨k + 1, L ++ [⟨x.k, sl0, ⟨A6, x.k.ifs.length, c6⟩, sl0, sl0⟩], A8, c8, by go_num, by omega, rfl, O8, Lib.hid (by rw [List.map_append, HL.out, HTK.out]; rfl), Lib.hid (fun y hy => by
          rcases List.mem_append.1 hy with hy | hy
          · exact HNK.out y hy
          · rw [List.mem_singleton.1 hy]; exact ⟨rfl, rfl, rfl⟩), X8⟩
        case measure => first | (simp [intOf]; omega) | simp [intOf]
    · have hltz : ¬ (k : Int) < (n : Int) := by omega
      have hkk : k = n := by omega
      subst hkk
      have HLL : Hid (L.map (·.k) = l.map (·.k)) := Lib.hid (by rw [HL.out, List.take_of_length_le (by rw [List.length_map, HN.out]; exact Nat.le_refl _)])
      go_wp2
      go_ret
      exact ⟨_, _, rfl, L, HO.out, HLL.out, HNK.out, HX.out⟩
end Go.Proofs.YtkkfkjjmmdpafaaDoor
namespace Go.Proofs.YtkkfkjjmmdpafaaDoor
open Go.RowKit

def Quiet (w : World) (v : Value) (e : Ending) (w' : World) : Prop := e = .returned v ∧ ∃ m, w' = w.drewN m

theorem take_eq_succ {l m : List Int} {k : Nat} (hl : k < l.length) (hm : k < m.length) (h : l.take k = m.take k) (hg : gi l k = gi m k) : l.take (k + 1) = m.take (k + 1) := by
  rw [List.take_succ_eq_append_getElem hl, List.take_succ_eq_append_getElem hm, h]
  simp [gi, List.getD_eq_getElem?_getD, hl, hm] at hg
  rw [hg]

theorem ne_of_gi {l m : List Int} {k : Nat} (hg : ¬ gi l k = gi m k) : ¬ l = m := fun h => hg (by rw [h])

end Go.Proofs.YtkkfkjjmmdpafaaDoor
namespace Go.Proofs.YtkkfkjjmmdpafaaDoor
open Go.RowKit
set_option linter.unusedVariables false

set_option maxHeartbeats 400000 in
theorem eqInts_any (v1 v2 : Value) (l1 l2 : List Int) (w : World) (h1 : Row w .i64 v1 l1) (h2 : Row w .i64 v2 l2) :
    Calls Tryd.prog 24 #[v1, v2] w (Quiet w (.bool (decide (l1 = l2)))) := by
  obtain ⟨A1, c1, rfl, hc1, hm1, ha1, hf1, hg1⟩ := h1
  obtain ⟨A2, c2, rfl, hc2, hm2, ha2, hf2, hg2⟩ := h2
  unfold maxLen at hm1 hm2
  by_cases hl : l1.length = l2.length
  · obtain ⟨n, hn⟩ : ∃ n, n = l1.length := ⟨_, rfl⟩
    rw [← hn] at hc1 hg1
    rw [← hl, ← hn] at hc2 hg2
    rw [← hn, ← hl, ← hn]
    have Hn := Lib.hid hn
    have Hl := Lib.hid hl
    clear hn hl ha1 ha2
    go_enter Tryd.func24, Tryd.ntmps24
    go_wp2
    go_loopw [5] (fun i wr => ∃ k m : Nat, k ≤ n ∧ i = .int .i64 k ∧ wr = w.drewN m ∧ l1.take k = l2.take k) (fun i _ => n - (intOf i).toNat)
    case atStart => exact ⟨0, 0, by omega, rfl, rfl, rfl⟩
    case round =>
      obtain ⟨k, m, hk, rfl, rfl, ht⟩ := hrel
      have Ht := Lib.hid ht
      clear ht
      by_cases hlt : k < n
      · obtain ⟨b1, o1, rfl, hb1, hx1⟩ := hg1 (by omega)
        obtain ⟨b2, o2, rfl, hb2, hx2⟩ := hg2 (by omega)
        have hy1 := hx1 k hlt
        have hy2 := hx2 k hlt
        clear hx1 hx2
        go_wp2
        go_quiet (fail)
        go_wp2
        · go_ret
          refine ⟨?_, m + nq, by rw [World.drewN_drewN]⟩
          have hx : (gi l1 k != gi l2 k) = true := by assumption
          have hx' : ¬ gi l1 k = gi l2 k := by simpa using hx
          simp [ne_of_gi hx']
        · have hx : (gi l1 k != gi l2 k) = false := by assumption
          have hx' : gi l1 k = gi l2 k := by simpa using hx
          refine ⟨⟨k + 1, m + nq, by omega, by go_num, rfl, ?_⟩, by simp [intOf]; omega⟩
          exact take_eq_succ (by have := Hn.out; omega) (by have := Hn.out; have := Hl.out; omega) Ht.out hx'
      · go_wp2
        go_ret
        refine ⟨?_, _, rfl⟩
        have hk' : k = n := by omega
        have e : l1 = l2 := by
          have := Ht.out
          rw [hk', Hn.out] at this
          rwa [List.take_length, Hl.out, List.take_length] at this
        simp [e]
  · have hb : ((l1.length : Int) != (l2.length : Int)) = true := by simp; omega
    have hne : ¬ l1 = l2 := fun h => hl (by rw [h])
    have Hne := Lib.hid hne
    clear hg1 hg2 ha1 ha2 hf1 hf2 hne hl
    go_enter Tryd.func24, Tryd.ntmps24
    go_wp2
    go_ret
    exact ⟨by simp [Hne.out], 0, rfl⟩
end Go.Proofs.YtkkfkjjmmdpafaaDoor
namespace Go.Proofs.YtkkfkjjmmdpafaaDoor
set_option linter.unusedVariables false

def builtR : List Kl := [⟨nObj, ⟨#[]⟩, false, []⟩, ⟨nThr, nObj, false, []⟩, ⟨⟨#[65, 114, 105, 116, 104]⟩, nThr, false, []⟩, ⟨⟨#[78, 117, 108, 108]⟩, nThr, false, []⟩, ⟨⟨#[66, 111, 117, 110, 100, 115]⟩, nThr, false, []⟩, ⟨⟨#[67, 97, 115, 116]⟩, nThr, false, []⟩, ⟨⟨#[83, 105, 122, 101]⟩, nThr, false, []⟩, ⟨⟨#[83, 116, 111, 114, 101]⟩, nThr, false, []⟩]
theorem findA_names : ∀ {N M : List Kl}, N.map (·.nm) = M.map (·.nm) → ∀ (nm : ByteArray) (k : Nat), findA nm k N = findA nm k M
  | [], [], _, _, _ => rfl
  | [], _ :: _, h, _, _ => by simp at h
  | _ :: _, [], h, _, _ => by simp at h
  | x :: N, y :: M, h, nm, k => by
    simp only [List.map_cons, List.cons.injEq] at h
    unfold findA
    rw [h.1, findA_names h.2]
theorem findZ_names {N M : List Kl} (h : N.map (·.nm) = M.map (·.nm)) (nm : ByteArray) : findZ N nm = findZ M nm := findA_names h nm 0
theorem findR (r : List Kl) (nm : ByteArray) : findZ (builtR ++ r) nm = findZ (builtZ ++ r) nm := findZ_names (by simp [builtR, builtZ]) nm
theorem lenR (r : List Kl) : (builtR ++ r).length = (builtZ ++ r).length := by simp [builtR, builtZ]
theorem gkR (r : List Kl) (i : Nat) (h : 8 ≤ i) : gk (builtR ++ r) i = gk (builtZ ++ r) i := by
  unfold gk
  rw [List.getD_eq_getElem?_getD, List.getD_eq_getElem?_getD, List.getElem?_append_right (by simpa [builtR] using h), List.getElem?_append_right (by simpa [builtZ] using h)]
  rfl
theorem gkR_built (r : List Kl) (i : Nat) (h : i < 8) : gk (builtR ++ r) i = gk builtR i := by
  unfold gk
  rw [List.getD_eq_getElem?_getD, List.getD_eq_getElem?_getD, List.getElem?_append_left (by simpa [builtR] using h)]
theorem nmR (r : List Kl) (i : Nat) : (gk (builtR ++ r) i).nm = (gk (builtZ ++ r) i).nm := by
  rcases Nat.lt_or_ge i 8 with h | h
  · rw [gkR_built r i h, gk_built r i h]
    rcases i with _ | _ | _ | _ | _ | _ | _ | _ | i
    all_goals first | rfl | omega
  · rw [gkR r i h]
theorem infR (r : List Kl) (i : Nat) : (gk (builtR ++ r) i).inf = (gk (builtZ ++ r) i).inf := by
  rcases Nat.lt_or_ge i 8 with h | h
  · rw [gkR_built r i h, gk_built r i h]
    rcases i with _ | _ | _ | _ | _ | _ | _ | _ | i
    all_goals first | rfl | omega
  · rw [gkR r i h]
theorem ifsR (r : List Kl) (i : Nat) : (gk (builtR ++ r) i).ifs = (gk (builtZ ++ r) i).ifs := by
  rcases Nat.lt_or_ge i 8 with h | h
  · rw [gkR_built r i h, gk_built r i h]
    rcases i with _ | _ | _ | _ | _ | _ | _ | _ | i
    all_goals first | rfl | omega
  · rw [gkR r i h]
theorem supR (r : List Kl) (i : Nat) (h : 0 < i) : findZ (builtZ ++ r) (gk (builtR ++ r) i).sup = supI (builtZ ++ r) i := by
  rcases Nat.lt_or_ge i 8 with h8 | h8
  · rw [gkR_built r i h8, sup_built r i h8]
    rcases i with _ | _ | _ | _ | _ | _ | _ | _ | i
    · omega
    · exact find_obj r
    all_goals first | exact find_thr r | omega
  · rw [supI_own h8, gkR r i h8]
end Go.Proofs.YtkkfkjjmmdpafaaDoor
