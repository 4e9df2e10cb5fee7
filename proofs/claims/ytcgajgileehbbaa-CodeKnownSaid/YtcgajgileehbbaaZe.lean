/- Several texts of this proof, one behind the other. -/
import Derived.Test.YtcgajgileehbbaaZd
import Derived.Test.YtcgajgileehbbaaZa
import Derived.BigQuiet
import Derived.Test.YtcgajgileehbbaaOpsQ
import Derived.Laws.StructEq
import Derived.Laws.BytesArg
import Derived.Lib.Bytes
/- Which handlers have a place: the project's Covers and the document's, walked; lists of ints held against each other. (gen_codes.py) -/
namespace Go.Proofs.Ytcgajgileehbbaa
open Go.RowKit
set_option linter.unusedVariables false

set_option maxHeartbeats 400000 in
theorem eqInts_any (v1 v2 : Value) (l1 l2 : List Int) (w : World) (h1 : Row w .i64 v1 l1) (h2 : Row w .i64 v2 l2) :
    Calls Try.prog 25 #[v1, v2] w (Quiet w (.bool (decide (l1 = l2)))) := by
  obtain ⟨A1, c1, rfl, hc1, hm1, ha1, hf1, hg1⟩ := h1
  obtain ⟨A2, c2, rfl, hc2, hm2, ha2, hf2, hg2⟩ := h2
  unfold maxLen at hm1 hm2
  by_cases hl : l1.length = l2.length
  · obtain ⟨n, hn⟩ : ∃ n, n = l1.length := ⟨_, rfl⟩
    rw [← hn] at hc1 hg1
    rw [← hl, ← hn] at hc2 hg2
    rw [← hn, ← hl, ← hn]
    have Hn := Lib.hid hn
    have Hl := Lib.hid hl
    clear hn hl ha1 ha2
    go_enter Try.func25, Try.ntmps25
    go_wp2
    go_loopw [5] (fun i wr => ∃ k m : Nat, k ≤ n ∧ i = .int .i64 k ∧ wr = w.drewN m ∧ l1.take k = l2.take k) (fun i _ => n - (intOf i).toNat)
    case atStart => exact ⟨0, 0, by omega, rfl, rfl, rfl⟩
    case round =>
      obtain ⟨k, m, hk, rfl, rfl, ht⟩ := hrel
      have Ht := Lib.hid ht
      clear ht
      by_cases hlt : k < n
      · obtain ⟨b1, o1, rfl, hb1, hx1⟩ := hg1 (by omega)
        obtain ⟨b2, o2, rfl, hb2, hx2⟩ := hg2 (by omega)
        have hy1 := hx1 k hlt
        have hy2 := hx2 k hlt
        clear hx1 hx2
        go_wp2
        go_quiet (fail)
        go_wp2
        · go_ret
          refine ⟨?_, m + nq, by rw [World.drewN_drewN]⟩
          have hx : (gi l1 k != gi l2 k) = true := by assumption
          have hx' : ¬ gi l1 k = gi l2 k := by simpa using hx
          simp [ne_of_gi hx']
        · have hx : (gi l1 k != gi l2 k) = false := by assumption
          have hx' : gi l1 k = gi l2 k := by simpa using hx
          refine ⟨⟨k + 1, m + nq, by omega, by go_num, rfl, ?_⟩, by simp [intOf]; omega⟩
          exact take_eq_succ (by have := Hn.out; omega) (by have := Hn.out; have := Hl.out; omega) Ht.out hx'
      · go_wp2
        go_ret
        refine ⟨?_, _, rfl⟩
        have hk' : k = n := by omega
        have e : l1 = l2 := by
          have := Ht.out
          rw [hk', Hn.out] at this
          rwa [List.take_length, Hl.out, List.take_length] at this
        simp [e]
  · have hb : ((l1.length : Int) != (l2.length : Int)) = true := by simp; omega
    have hne : ¬ l1 = l2 := fun h => hl (by rw [h])
    have Hne := Lib.hid hne
    clear hg1 hg2 ha1 ha2 hf1 hf2 hne hl
    go_enter Try.func25, Try.ntmps25
    go_wp2
    go_ret
    exact ⟨by simp [Hne.out], 0, rfl⟩

theorem row_i1' (w : World) (X : Obj) (T : TypeId) (a : Int) (ha : (Lit.int .i64 a).wf = true) : Row ((w.alloc X).alloc (.cells #[.int .i64 a] T)) .i64 (.slice (some ⟨w.heap.size + 1, 0, none⟩) 1 1) [a] := by
  have h := Row.built (w.alloc X) .i64 T [a] (fun y hy => by rw [List.mem_singleton.1 hy]; exact ha) (by simp)
  rwa [show (w.alloc X).heap.size = w.heap.size + 1 by simp] at h
set_option maxRecDepth 100000 in
set_option maxHeartbeats 4000000 in
theorem Covers_any (m : Me) (va vc vh : Value) (t : Int) (w : World) (hm : MeAt w m va vc vh) (hlh : m.hs.length ≤ 4398046511104) :
    Calls Try.prog 26 #[.agg (m.vals va vc vh), .int .i64 t] w (Ret w (fun v w' => Own w.heap.size w' 3 .i64 v (coverZ m.hs t))) := by
  have HM := Lib.hid hm
  obtain ⟨Aa, ca, rfl, -⟩ := hm.1.cut
  obtain ⟨Ac, cc, rfl, -⟩ := id hm.2.1
  obtain ⟨Ah, ch, rfl, hch, hmh, -⟩ := hm.2.2.cut
  unfold maxLen at hmh
  have HMB := Lib.hid (fun W (e : Ext (w.alloc (.cells (m.vals (.slice Aa m.args.length ca) (.slice Ac m.code.length cc) (.slice Ah m.hs.length ch)) 48)) W) => ((MeB.new w m (.slice Aa m.args.length ca) (.slice Ac m.code.length cc) (.slice Ah m.hs.length ch)).ext e).cells.2.2.2.2.2.2.2.2.2)
  obtain ⟨n, hn⟩ : ∃ n, m.hs.length = n := ⟨_, rfl⟩
  have Hn := Lib.hid hn
  obtain ⟨Z, hZ⟩ : ∃ Z, coverZ m.hs t = Z := ⟨_, rfl⟩
  have HZ := Lib.hid hZ
  rw [hZ]
  rw [hn] at HM HMB hch hlh ⊢
  unfold Me.vals at HMB ⊢
  clear hm hn hZ
  have y9 := HMB.out _ (Ext.refl _)
  go_enter Try.func26, Try.ntmps26
  go_wp2
  go_loopw [5, 11] (fun u i wr => ∃ (k : Nat) (acc : List Int), i = .int .i64 k ∧ k ≤ n ∧ acc.length ≤ k ∧ Hid (Own (w.heap.size + 1) wr 3 .i64 u acc) ∧ Hid (Z = acc ++ covF t (m.hs.drop k) k) ∧ Hid (Ext (w.alloc (.cells #[.bool m.st, .bool m.ab, .string m.nm, .int .i64 m.ret.k, .string m.ret.s, .slice Aa m.args.length ca, .int .i64 m.sk, .int .i64 m.lo, .slice Ac m.code.length cc, .slice Ah n ch] 48)) wr)) (fun _ i _ => n - (intOf i).toNat)
  case atStart => exact ⟨0, [], rfl, by omega, by simp, Lib.hid (Own.nil _ _ _ _), Lib.hid HZ.out.symm, Lib.hid (Ext.refl _)⟩
  case round =>
    obtain ⟨k, acc, rfl, hk, hak, HO, HQ, HX⟩ := hrel
    have y9 := HMB.out _ HX.out
    by_cases hlt : k < n
    · have hkl : k < m.hs.length := by have := Hn.out; omega
      have X0 : Ext w wr := ((Ext.refl w).alloc _).trans HX.out
      obtain ⟨b, o, rfl, hat⟩ := rowH_at (show ShH.Row w (.slice Ah n ch) m.hs from HM.out.2.2) (by omega)
      obtain ⟨z0, z1, z2, z3⟩ := hat _ X0 k hkl
      have hY := fun e => HQ.out.trans (by rw [covF_yes hkl e])
      have hN := fun e => HQ.out.trans (by rw [covF_no hkl e])
      obtain ⟨x, hx⟩ : ∃ x, gh m.hs k = x := ⟨_, rfl⟩
      rw [hx] at z0 z1 z2 z3 hY hN
      obtain ⟨xf, xt, xa, xc⟩ := x
      simp only at z0 z1 z2 z3 hY hN
      have HY := Lib.hid hY
      have HN := Lib.hid hN
      have hks := HX.out.size
      have hks' : w.heap.size + 1 ≤ wr.heap.size := by simpa using hks
      clear hat hx hkl hY hN X0
      by_cases c1 : xf ≤ t
      · by_cases c2 : t < xt
        · have HE := Lib.hid (HY.out ⟨c1, c2⟩)
          go_wp2_with (at_builtin; go_loud (refine wpList_app _ rfl _ _ (w.heap.size + 1) 32 3 _ 8 .i64 rfl Try.underlying32 info64 rfl (by omega) _ acc rfl (HO.out.ext (((Ext.refl wr).alloc _).alloc _)) _ [(k : Int)] rfl (row_i1' wr (.cells #[.int .i64 xf, .int .i64 xt, .int .i64 xa, .int .i64 xc] 64) 3 k (wf_i64 (by omega) (by omega))) (by simp; omega) (by simp; omega) ?_); intro u' w2 ho2 hg2 _)
          have X2 := Lib.hid ((HX.out.trans (((Ext.refl wr).alloc (.cells #[.int .i64 xf, .int .i64 xt, .int .i64 xa, .int .i64 xc] 64)).alloc (.cells #[.int .i64 (k : Int)] 3))).grown hg2 (fun g hg => by simpa using HO.out.low g hg))
          have HO2 := Lib.hid ho2
          clear ho2 hg2
          go_wp2_with fail
          go_roundw
          case rel => exact ⟨k + 1, acc ++ [(k : Int)], by go_num, by omega, by simp; omega, HO2, Lib.hid (by rw [HE.out]; simp), X2⟩
          case measure => simp [intOf]; omega
        · have HE := Lib.hid (HN.out (by omega))
          go_wp2_with fail
          go_roundw
          case rel => exact ⟨k + 1, acc, by go_num, by omega, by omega, Lib.hid (HO.out.ext ((Ext.refl _).alloc _)), HE, Lib.hid (HX.out.alloc _)⟩
          case measure => simp [intOf]; omega
      · have HE := Lib.hid (HN.out (by omega))
        go_wp2_with fail
        go_roundw
        case rel => exact ⟨k + 1, acc, by go_num, by omega, by omega, Lib.hid (HO.out.ext ((Ext.refl _).alloc _)), HE, Lib.hid (HX.out.alloc _)⟩
        case measure => simp [intOf]; omega
    · have HE := Lib.hid (show Z = acc by rw [HQ.out, List.drop_of_length_le (by have := Hn.out; omega)]; simp [covF])
      go_wp2
      go_ret
      exact Ret.mk (by rw [HE.out]; exact HO.out.base (by omega)) (((Ext.refl w).alloc _).trans HX.out)
set_option maxRecDepth 100000 in
set_option maxHeartbeats 4000000 in
theorem refCovers_any (m : Me) (va vc vh : Value) (t : Int) (w : World) (hm : MeAt w m va vc vh) (hlh : m.hs.length ≤ 4398046511104) :
    Calls Try.prog 27 #[.agg (m.vals va vc vh), .int .i64 t] w (Ret w (fun v w' => Own w.heap.size w' 3 .i64 v (coverZ m.hs t))) := by
  have HM := Lib.hid hm
  obtain ⟨Aa, ca, rfl, -⟩ := hm.1.cut
  obtain ⟨Ac, cc, rfl, -⟩ := id hm.2.1
  obtain ⟨Ah, ch, rfl, hch, hmh, -⟩ := hm.2.2.cut
  unfold maxLen at hmh
  have HMB := Lib.hid (fun W (e : Ext (w.alloc (.cells (m.vals (.slice Aa m.args.length ca) (.slice Ac m.code.length cc) (.slice Ah m.hs.length ch)) 48)) W) => ((MeB.new w m (.slice Aa m.args.length ca) (.slice Ac m.code.length cc) (.slice Ah m.hs.length ch)).ext e).cells.2.2.2.2.2.2.2.2.2)
  obtain ⟨n, hn⟩ : ∃ n, m.hs.length = n := ⟨_, rfl⟩
  have Hn := Lib.hid hn
  obtain ⟨Z, hZ⟩ : ∃ Z, coverZ m.hs t = Z := ⟨_, rfl⟩
  have HZ := Lib.hid hZ
  rw [hZ]
  rw [hn] at HM HMB hch hlh ⊢
  unfold Me.vals at HMB ⊢
  clear hm hn hZ
  have y9 := HMB.out _ (Ext.refl _)
  go_enter Try.func27, Try.ntmps27
  go_wp2
  go_loopw [5, 6] (fun u i wr => ∃ (k : Nat) (acc : List Int), i = .int .i64 k ∧ k ≤ n ∧ acc.length ≤ k ∧ Hid (Own (w.heap.size + 1) wr 3 .i64 u acc) ∧ Hid (Z = acc ++ covF t (m.hs.drop k) k) ∧ Hid (Ext (w.alloc (.cells #[.bool m.st, .bool m.ab, .string m.nm, .int .i64 m.ret.k, .string m.ret.s, .slice Aa m.args.length ca, .int .i64 m.sk, .int .i64 m.lo, .slice Ac m.code.length cc, .slice Ah n ch] 48)) wr)) (fun _ i _ => n - (intOf i).toNat)
  case atStart => exact ⟨0, [], rfl, by omega, by simp, Lib.hid (Own.nil _ _ _ _), Lib.hid HZ.out.symm, Lib.hid (Ext.refl _)⟩
  case round =>
    obtain ⟨k, acc, rfl, hk, hak, HO, HQ, HX⟩ := hrel
    have y9 := HMB.out _ HX.out
    by_cases hlt : k < n
    · have hkl : k < m.hs.length := by have := Hn.out; omega
      have X0 : Ext w wr := ((Ext.refl w).alloc _).trans HX.out
      obtain ⟨b, o, rfl, hat⟩ := rowH_at (show ShH.Row w (.slice Ah n ch) m.hs from HM.out.2.2) (by omega)
      obtain ⟨z0, z1, z2, z3⟩ := hat _ X0 k hkl
      have hY := fun e => HQ.out.trans (by rw [covF_yes hkl e])
      have hN := fun e => HQ.out.trans (by rw [covF_no hkl e])
      obtain ⟨x, hx⟩ : ∃ x, gh m.hs k = x := ⟨_, rfl⟩
      rw [hx] at z0 z1 z2 z3 hY hN
      obtain ⟨xf, xt, xa, xc⟩ := x
      simp only at z0 z1 z2 z3 hY hN
      have HY := Lib.hid hY
      have HN := Lib.hid hN
      have hks := HX.out.size
      have hks' : w.heap.size + 1 ≤ wr.heap.size := by simpa using hks
      clear hat hx hkl hY hN X0
      by_cases c1 : xf ≤ t
      · by_cases c2 : t < xt
        · have HE := Lib.hid (HY.out ⟨c1, c2⟩)
          go_wp2_with (at_builtin; go_loud (refine wpList_app _ rfl _ _ (w.heap.size + 1) 32 3 _ 8 .i64 rfl Try.underlying32 info64 rfl (by omega) _ acc rfl (HO.out.ext ((Ext.refl wr).alloc _)) _ [(k : Int)] rfl (Row.built1 wr .i64 3 k (wf_i64 (by omega) (by omega))) (by simp; omega) (by simp; omega) ?_); intro u' w2 ho2 hg2 _)
          have X2 := Lib.hid ((HX.out.trans ((Ext.refl wr).alloc (.cells #[.int .i64 (k : Int)] 3))).grown hg2 (fun g hg => by simpa using HO.out.low g hg))
          have HO2 := Lib.hid ho2
          clear ho2 hg2
          go_wp2_with fail
          go_roundw
          case rel => exact ⟨k + 1, acc ++ [(k : Int)], by go_num, by omega, by simp; omega, HO2, Lib.hid (by rw [HE.out]; simp), X2⟩
          case measure => simp [intOf]; omega
        · have HE := Lib.hid (HN.out (by omega))
          go_wp2_with fail
          go_roundw
          case rel => exact ⟨k + 1, acc, by go_num, by omega, by omega, HO, HE, HX⟩
          case measure => simp [intOf]; omega
      · have HE := Lib.hid (HN.out (by omega))
        go_wp2_with fail
        go_roundw
        case rel => exact ⟨k + 1, acc, by go_num, by omega, by omega, HO, HE, HX⟩
        case measure => simp [intOf]; omega
    · have HE := Lib.hid (show Z = acc by rw [HQ.out, List.drop_of_length_le (by have := Hn.out; omega)]; simp [covF])
      go_wp2
      go_ret
      exact Ret.mk (by rw [HE.out]; exact HO.out.base (by omega)) (((Ext.refl w).alloc _).trans HX.out)
end Go.Proofs.Ytcgajgileehbbaa
/- The document's Copy of a method, walked; two methods that are the same, held against each other. (gen_codet.py) -/
namespace Go.Proofs.Ytcgajgileehbbaa
open Go.RowKit
set_option linter.unusedVariables false

/-- A block of ten cells. -/
def Ten (w : World) (g : Nat) (c : Array Value) : Prop := w.heap[g]? = some (.cells c 48 (0, 0)) ∧ c.size = 10
theorem Ten.put {w : World} {g : Nat} {c : Array Value} (h : Ten w g c) (j : Nat) (u : Value) : Ten (w.setCell ⟨g, j, none⟩ u) g (c.setIfInBounds j u) :=
  ⟨heap_setCell_same w g j c _ u h.1, by simpa using h.2⟩
theorem Ten.cell {w : World} {g : Nat} {c : Array Value} (h : Ten w g c) (j : Nat) : w.cell? ⟨g, j, none⟩ = c[j]? := by rw [cell_of_row w g j c _ (0, 0) h.1]
theorem Ten.ext {w w' : World} {g : Nat} {c : Array Value} (h : Ten w g c) (e : Ext w w') : Ten w' g c := ⟨(e.block g (lt_of_get h.1)).trans h.1, h.2⟩
theorem Ten.free {w : World} {g : Nat} {c : Array Value} (h : Ten w g c) (j : Nat) : w.frozen? ⟨g, j, none⟩ = false := by simp [World.frozen?, h.1]
theorem Ten.other {w : World} {g : Nat} {c : Array Value} (h : Ten w g c) {p : Addr} (u : Value) (hp : g ≠ p.block) : Ten (w.setCell p u) g c := ⟨(Below.heap_setCell w p u g hp).trans h.1, h.2⟩
theorem ten_set {W : World} (g : Nat) (v0 v1 v2 v3 v4 v5 v6 v7 v8 v9 : Value) : W.grownBy ((((((((((W.setCell ⟨g, 0, none⟩ v0).setCell ⟨g, 1, none⟩ v1).setCell ⟨g, 2, none⟩ v2).setCell ⟨g, 3, none⟩ v3).setCell ⟨g, 4, none⟩ v4).setCell ⟨g, 5, none⟩ v5).setCell ⟨g, 6, none⟩ v6).setCell ⟨g, 7, none⟩ v7).setCell ⟨g, 8, none⟩ v8).setCell ⟨g, 9, none⟩ v9) (some g) :=
  only_set (only_set (only_set (only_set (only_set (only_set (only_set (only_set (only_set (only_set (World.grownBy.refl W _) 0 _) 1 _) 2 _) 3 _) 4 _) 5 _) 6 _) 7 _) 8 _) 9 _
theorem ten_put {W : World} {g : Nat} {c : Array Value} (h : Ten W g c) (v0 v1 v2 v3 v4 v5 v6 v7 v8 v9 : Value) : Ten ((((((((((W.setCell ⟨g, 0, none⟩ v0).setCell ⟨g, 1, none⟩ v1).setCell ⟨g, 2, none⟩ v2).setCell ⟨g, 3, none⟩ v3).setCell ⟨g, 4, none⟩ v4).setCell ⟨g, 5, none⟩ v5).setCell ⟨g, 6, none⟩ v6).setCell ⟨g, 7, none⟩ v7).setCell ⟨g, 8, none⟩ v8).setCell ⟨g, 9, none⟩ v9) g #[v0, v1, v2, v3, v4, v5, v6, v7, v8, v9] := by
  obtain ⟨c⟩ := c
  match c, h with
  | [a0, a1, a2, a3, a4, a5, a6, a7, a8, a9], h =>
    have h0 : Ten (W.setCell ⟨g, 0, none⟩ v0) g #[v0, a1, a2, a3, a4, a5, a6, a7, a8, a9] := h.put 0 v0
    have h1 : Ten ((W.setCell ⟨g, 0, none⟩ v0).setCell ⟨g, 1, none⟩ v1) g #[v0, v1, a2, a3, a4, a5, a6, a7, a8, a9] := h0.put 1 v1
    have h2 : Ten (((W.setCell ⟨g, 0, none⟩ v0).setCell ⟨g, 1, none⟩ v1).setCell ⟨g, 2, none⟩ v2) g #[v0, v1, v2, a3, a4, a5, a6, a7, a8, a9] := h1.put 2 v2
    have h3 : Ten ((((W.setCell ⟨g, 0, none⟩ v0).setCell ⟨g, 1, none⟩ v1).setCell ⟨g, 2, none⟩ v2).setCell ⟨g, 3, none⟩ v3) g #[v0, v1, v2, v3, a4, a5, a6, a7, a8, a9] := h2.put 3 v3
    have h4 : Ten (((((W.setCell ⟨g, 0, none⟩ v0).setCell ⟨g, 1, none⟩ v1).setCell ⟨g, 2, none⟩ v2).setCell ⟨g, 3, none⟩ v3).setCell ⟨g, 4, none⟩ v4) g #[v0, v1, v2, v3, v4, a5, a6, a7, a8, a9] := h3.put 4 v4
    have h5 : Ten ((((((W.setCell ⟨g, 0, none⟩ v0).setCell ⟨g, 1, none⟩ v1).setCell ⟨g, 2, none⟩ v2).setCell ⟨g, 3, none⟩ v3).setCell ⟨g, 4, none⟩ v4).setCell ⟨g, 5, none⟩ v5) g #[v0, v1, v2, v3, v4, v5, a6, a7, a8, a9] := h4.put 5 v5
    have h6 : Ten (((((((W.setCell ⟨g, 0, none⟩ v0).setCell ⟨g, 1, none⟩ v1).setCell ⟨g, 2, none⟩ v2).setCell ⟨g, 3, none⟩ v3).setCell ⟨g, 4, none⟩ v4).setCell ⟨g, 5, none⟩ v5).setCell ⟨g, 6, none⟩ v6) g #[v0, v1, v2, v3, v4, v5, v6, a7, a8, a9] := h5.put 6 v6
    have h7 : Ten ((((((((W.setCell ⟨g, 0, none⟩ v0).setCell ⟨g, 1, none⟩ v1).setCell ⟨g, 2, none⟩ v2).setCell ⟨g, 3, none⟩ v3).setCell ⟨g, 4, none⟩ v4).setCell ⟨g, 5, none⟩ v5).setCell ⟨g, 6, none⟩ v6).setCell ⟨g, 7, none⟩ v7) g #[v0, v1, v2, v3, v4, v5, v6, v7, a8, a9] := h6.put 7 v7
    have h8 : Ten (((((((((W.setCell ⟨g, 0, none⟩ v0).setCell ⟨g, 1, none⟩ v1).setCell ⟨g, 2, none⟩ v2).setCell ⟨g, 3, none⟩ v3).setCell ⟨g, 4, none⟩ v4).setCell ⟨g, 5, none⟩ v5).setCell ⟨g, 6, none⟩ v6).setCell ⟨g, 7, none⟩ v7).setCell ⟨g, 8, none⟩ v8) g #[v0, v1, v2, v3, v4, v5, v6, v7, v8, a9] := h7.put 8 v8
    have h9 : Ten ((((((((((W.setCell ⟨g, 0, none⟩ v0).setCell ⟨g, 1, none⟩ v1).setCell ⟨g, 2, none⟩ v2).setCell ⟨g, 3, none⟩ v3).setCell ⟨g, 4, none⟩ v4).setCell ⟨g, 5, none⟩ v5).setCell ⟨g, 6, none⟩ v6).setCell ⟨g, 7, none⟩ v7).setCell ⟨g, 8, none⟩ v8).setCell ⟨g, 9, none⟩ v9) g #[v0, v1, v2, v3, v4, v5, v6, v7, v8, v9] := h8.put 9 v9
    exact h9
theorem infoH : (Try.prog.info? 64).map (fun i => (i.zero, i.size, i.bytes)) = some (some (.agg #[.int .i64 0, .int .i64 0, .int .i64 0, .int .i64 0]), 4, 32) := by kernel_rfl
theorem infoT : (Try.prog.info? 42).map (fun i => (i.zero, i.size, i.bytes)) = some (some (.agg #[.int .i64 0, .string ⟨#[]⟩]), 2, 24) := by kernel_rfl
/-- What a block's ten cells are. -/
theorem ten_cells {w : World} {g : Nat} {v0 v1 v2 v3 v4 v5 v6 v7 v8 v9 : Value} (h : Ten w g #[v0, v1, v2, v3, v4, v5, v6, v7, v8, v9]) :
    w.cell? ⟨g, 0, none⟩ = some v0 ∧ w.cell? ⟨g, 1, none⟩ = some v1 ∧ w.cell? ⟨g, 2, none⟩ = some v2 ∧ w.cell? ⟨g, 3, none⟩ = some v3 ∧ w.cell? ⟨g, 4, none⟩ = some v4 ∧ w.cell? ⟨g, 5, none⟩ = some v5 ∧ w.cell? ⟨g, 6, none⟩ = some v6 ∧ w.cell? ⟨g, 7, none⟩ = some v7 ∧ w.cell? ⟨g, 8, none⟩ = some v8 ∧ w.cell? ⟨g, 9, none⟩ = some v9 :=
  ⟨h.cell 0, h.cell 1, h.cell 2, h.cell 3, h.cell 4, h.cell 5, h.cell 6, h.cell 7, h.cell 8, h.cell 9⟩
/-- What a copy is. -/
def CopyM (m : Me) (v : Value) (w' : World) : Prop := ∃ va vc vh, v = .agg (m.vals va vc vh) ∧ MeAt w' m va vc vh
set_option maxRecDepth 100000 in
set_option maxHeartbeats 8000000 in
theorem refCopyM_any (m : Me) (va vc vh : Value) (w : World) (hm : MeAt w m va vc vh) (hz1 : m.code.length ≤ 140737488355328) (hz2 : m.hs.length * 32 ≤ 140737488355328) (hz3 : m.args.length * 24 ≤ 140737488355328) :
    Calls Try.prog 22 #[.agg (m.vals va vc vh)] w (Ret w (CopyM m)) := by
  have HM := Lib.hid hm
  obtain ⟨Aa, ca, rfl, -⟩ := hm.1.cut
  obtain ⟨Ac, cc, rfl, -⟩ := id hm.2.1
  obtain ⟨Ah, ch, rfl, -⟩ := hm.2.2.cut
  unfold Me.vals
  obtain ⟨W0, hW0⟩ : ∃ W0, W0 = (w.alloc (.cells #[.bool m.st, .bool m.ab, .string m.nm, .int .i64 m.ret.k, .string m.ret.s, .slice Aa m.args.length ca, .int .i64 m.sk, .int .i64 m.lo, .slice Ac m.code.length cc, .slice Ah m.hs.length ch] 48)).alloc (.cells #[.bool false, .bool false, .string ⟨#[]⟩, .int .i64 0, .string ⟨#[]⟩, .slice none 0 0, .int .i64 0, .int .i64 0, .slice none 0 0, .slice none 0 0] 48) := ⟨_, rfl⟩
  have X0 : Ext w W0 := by rw [hW0]; exact ((Ext.refl w).alloc _).alloc _
  have TB : Ten W0 w.heap.size #[.bool m.st, .bool m.ab, .string m.nm, .int .i64 m.ret.k, .string m.ret.s, .slice Aa m.args.length ca, .int .i64 m.sk, .int .i64 m.lo, .slice Ac m.code.length cc, .slice Ah m.hs.length ch] := ⟨by rw [hW0]; exact (heap_alloc_old _ _ (by simp)).trans (heap_alloc_new w _), rfl⟩
  have TR : Ten W0 (w.heap.size + 1) #[.bool false, .bool false, .string ⟨#[]⟩, .int .i64 0, .string ⟨#[]⟩, .slice none 0 0, .int .i64 0, .int .i64 0, .slice none 0 0, .slice none 0 0] := ⟨by rw [hW0]; have h := heap_alloc_new (w.alloc (.cells #[.bool m.st, .bool m.ab, .string m.nm, .int .i64 m.ret.k, .string m.ret.s, .slice Aa m.args.length ca, .int .i64 m.sk, .int .i64 m.lo, .slice Ac m.code.length cc, .slice Ah m.hs.length ch] 48)) (.cells #[.bool false, .bool false, .string ⟨#[]⟩, .int .i64 0, .string ⟨#[]⟩, .slice none 0 0, .int .i64 0, .int .i64 0, .slice none 0 0, .slice none 0 0] 48); rwa [show (w.alloc (.cells #[.bool m.st, .bool m.ab, .string m.nm, .int .i64 m.ret.k, .string m.ret.s, .slice Aa m.args.length ca, .int .i64 m.sk, .int .i64 m.lo, .slice Ac m.code.length cc, .slice Ah m.hs.length ch] 48)).heap.size = w.heap.size + 1 by simp] at h, rfl⟩
  have HB := Lib.hid TB
  have HR := Lib.hid TR
  have HX := Lib.hid X0
  have hs0 : W0.heap.size = w.heap.size + 2 := by rw [hW0]; simp
  have hn1 : ¬ w.heap.size + 1 = w.heap.size := by omega
  clear hm TB TR X0
  go_enter Try.func22, Try.ntmps22
  go_wp2_with (first
    | (at_builtin; go_loud (refine wpList_app _ rfl _ _ (w.heap.size + 2) 22 5 _ 1 .u8 rfl Try.underlying22 info8 rfl (by omega) (.slice none 0 0) [] rfl (Own.nil _ _ _ _) (.slice Ac m.code.length cc) m.code rfl (HM.out.2.1.ext (((Ext.refl w).alloc _).alloc _)) (by simp; omega) (by simp) ?_); intro u1 w1 o1 g1 _; rw [← hW0] at g1
       rw [List.nil_append] at o1
       have x1 : Ext W0 w1 := (Ext.refl W0).grown g1 (fun g h => by cases h)
       obtain ⟨A1, n1, c1, rfl⟩ := o1.slice
       have X1 := Lib.hid x1
       have O1 := Lib.hid o1
       have B1 := Lib.hid (HB.out.ext x1)
       have R1 := Lib.hid (HR.out.ext x1)
       clear x1 o1 g1 hW0
       have f1 := B1.out.free
       obtain ⟨y0, y1, y2, y3, y4, y5, y6, y7, y8, y9⟩ := ten_cells B1.out
       have hs1 := X1.out.size
       have hw1 : ∀ p u, (w1.setCell p u).heap.size = w1.heap.size := fun p u => by simp [World.setCell])
    | (at_builtin; go_loud (refine Shp.wpList_app ShH _ rfl _ _ (w.heap.size + 2) 46 _ 32 rfl Try.underlying46 infoH rfl (by omega) (.slice none 0 0) [] rfl (Shp.Own.nil _ _ _) (.slice Ah m.hs.length ch) m.hs rfl (HM.out.2.2.ext ((HX.out.trans X1.out).set_ (show w.heap.size ≤ w.heap.size from Nat.le_refl _) _)) (fun _ _ => trivial) (by simp; omega) (by simp; omega) ?_); intro u2 w2 o2 g2 _
       rw [List.nil_append] at o2
       have x2 : Ext _ w2 := (Ext.refl _).grown g2 (fun g h => by cases h)
       obtain ⟨A2, c2, rfl, -⟩ := o2.slice
       have tb1 := B1.out.put 8 (.slice A1 n1 c1)
       have X2 := Lib.hid x2
       have O2 := Lib.hid o2
       have B2 : Hid (Ten w2 w.heap.size #[.bool m.st, .bool m.ab, .string m.nm, .int .i64 m.ret.k, .string m.ret.s, .slice Aa m.args.length ca, .int .i64 m.sk, .int .i64 m.lo, .slice A1 n1 c1, .slice Ah m.hs.length ch]) := Lib.hid (tb1.ext x2)
       have R2 := Lib.hid ((R1.out.other (p := ⟨w.heap.size, 8, none⟩) (.slice A1 n1 c1) (by simp)).ext x2)
       have P1 := Lib.hid ((O1.out.kept (only_set (World.grownBy.refl w1 (some w.heap.size)) 8 (.slice A1 n1 c1)) (fun g hg e => by injection e with e; subst e; exact own_ne O1.out B1.out.1 (by decide) hg)).ext x2)
       have XX2 := Lib.hid (((HX.out.trans X1.out).set_ (p := ⟨w.heap.size, 8, none⟩) (Nat.le_refl _) (.slice A1 n1 c1)).trans x2)
       clear x2 o2 g2 tb1 f1 y0 y1 y2 y3 y4 y5 y6 y7 y8 y9
       have f2 := B2.out.free
       obtain ⟨y0, y1, y2, y3, y4, y5, y6, y7, y8, y9⟩ := ten_cells B2.out
       have hs2 := X2.out.size
       rw [hw1] at hs2)
    | (at_builtin; go_loud (refine Shp.wpList_app ShT _ rfl _ _ (w.heap.size + 2) 43 _ 24 rfl Try.underlying43 infoT rfl (by omega) (.slice none 0 0) [] rfl (Shp.Own.nil _ _ _) (.slice Aa m.args.length ca) m.args rfl (HM.out.1.ext (XX2.out.set_ (p := ⟨w.heap.size, 9, none⟩) (Nat.le_refl _) _)) (fun _ _ => trivial) (by simp; omega) (by simp; omega) ?_); intro u3 w3 o3 g3 _
       rw [List.nil_append] at o3
       have x3 : Ext _ w3 := (Ext.refl _).grown g3 (fun g h => by cases h)
       obtain ⟨A3, c3, rfl, -⟩ := o3.slice
       have tb2 := B2.out.put 9 (.slice A2 m.hs.length c2)
       have O3 := Lib.hid o3
       have B3 : Hid (Ten w3 w.heap.size #[.bool m.st, .bool m.ab, .string m.nm, .int .i64 m.ret.k, .string m.ret.s, .slice Aa m.args.length ca, .int .i64 m.sk, .int .i64 m.lo, .slice A1 n1 c1, .slice A2 m.hs.length c2]) := Lib.hid (tb2.ext x3)
       have R3 := Lib.hid ((R2.out.other (p := ⟨w.heap.size, 9, none⟩) (.slice A2 m.hs.length c2) (by simp)).ext x3)
       have s2 := only_set (World.grownBy.refl w2 (some w.heap.size)) 9 (.slice A2 m.hs.length c2)
       have P2 := Lib.hid ((P1.out.kept s2 (fun g hg e => by injection e with e; subst e; exact own_ne P1.out B2.out.1 (by decide) hg)).ext x3)
       have Q2 := Lib.hid ((O2.out.kept s2 (fun g hg e => by injection e with e; subst e; exact O2.out.ne B2.out.1 (by decide) hg) (fun _ _ h => h)).ext x3)
       have XX3 := Lib.hid ((XX2.out.set_ (p := ⟨w.heap.size, 9, none⟩) (Nat.le_refl _) (.slice A2 m.hs.length c2)).trans x3)
       clear x3 o3 g3 tb2 s2 f2 y0 y1 y2 y3 y4 y5 y6 y7 y8 y9
       have f3 := B3.out.free
       obtain ⟨y0, y1, y2, y3, y4, y5, y6, y7, y8, y9⟩ := ten_cells B3.out
       have f4 := R3.out.free
       obtain ⟨z0, z1, z2, z3, z4, z5, z6, z7, z8, z9⟩ := ten_cells R3.out))
  have R4 := Lib.hid (R3.out.other (p := ⟨w.heap.size, 5, none⟩) (.slice A3 m.args.length c3) (by simp))
  have B4 : Hid (Ten (w3.setCell ⟨w.heap.size, 5, none⟩ (.slice A3 m.args.length c3)) w.heap.size #[.bool m.st, .bool m.ab, .string m.nm, .int .i64 m.ret.k, .string m.ret.s, .slice A3 m.args.length c3, .int .i64 m.sk, .int .i64 m.lo, .slice A1 n1 c1, .slice A2 m.hs.length c2]) := Lib.hid (B3.out.put 5 (.slice A3 m.args.length c3))
  have s3 := only_set (World.grownBy.refl w3 (some w.heap.size)) 5 (.slice A3 m.args.length c3)
  have P3 := Lib.hid (P2.out.kept s3 (fun g hg e => by injection e with e; subst e; exact own_ne P2.out B3.out.1 (by decide) hg))
  have Q3 := Lib.hid (Q2.out.kept s3 (fun g hg e => by injection e with e; subst e; exact Q2.out.ne B3.out.1 (by decide) hg) (fun _ _ h => h))
  have T3 := Lib.hid (O3.out.kept s3 (fun g hg e => by injection e with e; subst e; exact O3.out.ne B3.out.1 (by decide) hg) (fun _ _ h => h))
  have XX4 := Lib.hid (XX3.out.set_ (p := ⟨w.heap.size, 5, none⟩) (Nat.le_refl _) (.slice A3 m.args.length c3))
  clear s3
  have fin := ten_put R4.out (.bool m.st) (.bool m.ab) (.string m.nm) (.int .i64 m.ret.k) (.string m.ret.s) (.slice A3 m.args.length c3) (.int .i64 m.sk) (.int .i64 m.lo) (.slice A1 n1 c1) (.slice A2 m.hs.length c2)
  have sf := ten_set (W := w3.setCell ⟨w.heap.size, 5, none⟩ (.slice A3 m.args.length c3)) (w.heap.size + 1) (.bool m.st) (.bool m.ab) (.string m.nm) (.int .i64 m.ret.k) (.string m.ret.s) (.slice A3 m.args.length c3) (.int .i64 m.sk) (.int .i64 m.lo) (.slice A1 n1 c1) (.slice A2 m.hs.length c2)
  clear y0 y1 y2 y3 y4 y5 y6 y7 y8 y9 z0 z1 z2 z3 z4 z5 z6 z7 z8 z9
  obtain ⟨e0, e1, e2, e3, e4, e5, e6, e7, e8, e9⟩ := ten_cells fin
  refine bodyPost_ret (v := .agg #[.bool m.st, .bool m.ab, .string m.nm, .int .i64 m.ret.k, .string m.ret.s, .slice A3 m.args.length c3, .int .i64 m.sk, .int .i64 m.lo, .slice A1 n1 c1, .slice A2 m.hs.length c2]) (by simp [results, Try.results22, go_sem, e0, e1, e2, e3, e4, e5, e6, e7, e8, e9]) rfl ?_
  refine Ret.mk ⟨_, _, _, rfl, ?_, ?_, ?_⟩ (XX4.out.grown sf (fun g hg => by injection hg with hg; omega))
  · exact (T3.out.kept sf (fun g hg e => by injection e with e; subst e; exact T3.out.ne R4.out.1 (by decide) hg) (fun _ _ h => h)).row
  · exact (P3.out.kept sf (fun g hg e => by injection e with e; subst e; exact own_ne P3.out R4.out.1 (by decide) hg)).row
  · exact (Q3.out.kept sf (fun g hg e => by injection e with e; subst e; exact Q3.out.ne R4.out.1 (by decide) hg) (fun _ _ h => h)).row
end Go.Proofs.Ytcgajgileehbbaa
/- Two methods that are the same, held against each other by the document's SameMethods. (gen_codeu.py) -/
namespace Go.Proofs.Ytcgajgileehbbaa
open Go.RowKit
set_option linter.unusedVariables false

theorem Row.conv {w : World} {v : Value} {l : List Int} (h : Row w .u8 v l) : (convert 22 9 v).run Try.prog w = .ok (.string (strOfNums l)) w := by
  obtain ⟨A, c, rfl, h2, h3, h4, h5, h6⟩ := h
  by_cases hl : 0 < l.length
  · obtain ⟨b, o, rfl, _, hc⟩ := h6 hl
    exact run_convert_bytes_arg w _ _ Try.underlying22 Try.underlying5 b o _ c l rfl hc _ Try.underlying9
  · have hl : l = [] := List.eq_nil_of_length_eq_zero (by omega)
    subst hl
    rw [run_convert_bytes_string w _ _ _ _ _ _ Try.underlying22 Try.underlying5 Try.underlying9]
    cases A <;> simp [Conv.bytesToString, loadCells, loadCellsFrom, strOfNums] <;> rfl
set_option maxRecDepth 100000 in
set_option maxHeartbeats 8000000 in
theorem refSameM_same (m : Me) (va vc vh ua uc uh : Value) (w : World) (h1 : MeAt w m va vc vh) (h2 : MeAt w m ua uc uh) :
    Calls Try.prog 28 #[.agg (m.vals va vc vh), .agg (m.vals ua uc uh)] w fun e w' => e = .returned (.bool true) ∧ Ext w w' := by
  have H1 := Lib.hid h1
  have H2 := Lib.hid h2
  obtain ⟨Aa, ca, rfl, -, ma, -⟩ := h1.1.cut
  obtain ⟨Ac, cc, rfl, -⟩ := id h1.2.1
  obtain ⟨Ah, ch, rfl, -, mh, -⟩ := h1.2.2.cut
  obtain ⟨Ba, da, rfl, -⟩ := h2.1.cut
  obtain ⟨Bc, dc, rfl, -⟩ := id h2.2.1
  obtain ⟨Bh, dh, rfl, -⟩ := h2.2.2.cut
  have la : m.args.length ≤ ca := by obtain ⟨A, c, e, h, -⟩ := h1.1.cut; injection e with _ _ e; omega
  have lh : m.hs.length ≤ ch := by obtain ⟨A, c, e, h, -⟩ := h1.2.2.cut; injection e with _ _ e; omega
  unfold maxLen at ma mh
  obtain ⟨na, hna⟩ : ∃ n, m.args.length = n := ⟨_, rfl⟩
  obtain ⟨nc, hnc⟩ : ∃ n, m.code.length = n := ⟨_, rfl⟩
  obtain ⟨nh, hnh⟩ : ∃ n, m.hs.length = n := ⟨_, rfl⟩
  have Hna := Lib.hid hna
  have Hnh := Lib.hid hnh
  rw [hna, hnc, hnh] at H1 H2
  rw [hna] at la
  rw [hnh] at lh
  unfold Me.vals
  rw [hna, hnc, hnh]
  obtain ⟨W0, hW0⟩ : ∃ W0, W0 = (w.alloc (.cells #[.bool m.st, .bool m.ab, .string m.nm, .int .i64 m.ret.k, .string m.ret.s, .slice Aa na ca, .int .i64 m.sk, .int .i64 m.lo, .slice Ac nc cc, .slice Ah nh ch] 48)).alloc (.cells #[.bool m.st, .bool m.ab, .string m.nm, .int .i64 m.ret.k, .string m.ret.s, .slice Ba na da, .int .i64 m.sk, .int .i64 m.lo, .slice Bc nc dc, .slice Bh nh dh] 48) := ⟨_, rfl⟩
  have X0 : Ext w W0 := by rw [hW0]; exact ((Ext.refl w).alloc _).alloc _
  have T1 : Ten W0 w.heap.size #[.bool m.st, .bool m.ab, .string m.nm, .int .i64 m.ret.k, .string m.ret.s, .slice Aa na ca, .int .i64 m.sk, .int .i64 m.lo, .slice Ac nc cc, .slice Ah nh ch] := ⟨by rw [hW0]; exact (heap_alloc_old _ _ (by simp)).trans (heap_alloc_new w _), rfl⟩
  have T2 : Ten W0 (w.heap.size + 1) #[.bool m.st, .bool m.ab, .string m.nm, .int .i64 m.ret.k, .string m.ret.s, .slice Ba na da, .int .i64 m.sk, .int .i64 m.lo, .slice Bc nc dc, .slice Bh nh dh] := ⟨by rw [hW0]; have h := heap_alloc_new (w.alloc (.cells #[.bool m.st, .bool m.ab, .string m.nm, .int .i64 m.ret.k, .string m.ret.s, .slice Aa na ca, .int .i64 m.sk, .int .i64 m.lo, .slice Ac nc cc, .slice Ah nh ch] 48)) (.cells #[.bool m.st, .bool m.ab, .string m.nm, .int .i64 m.ret.k, .string m.ret.s, .slice Ba na da, .int .i64 m.sk, .int .i64 m.lo, .slice Bc nc dc, .slice Bh nh dh] 48); rwa [show (w.alloc (.cells #[.bool m.st, .bool m.ab, .string m.nm, .int .i64 m.ret.k, .string m.ret.s, .slice Aa na ca, .int .i64 m.sk, .int .i64 m.lo, .slice Ac nc cc, .slice Ah nh ch] 48)).heap.size = w.heap.size + 1 by simp] at h, rfl⟩
  have k1 := (H1.out.2.1.ext X0).conv
  have k2 := (H2.out.2.1.ext X0).conv
  rw [hW0] at k1 k2
  obtain ⟨s, hs⟩ : ∃ s, strOfNums m.code = s := ⟨_, rfl⟩
  rw [hs] at k1 k2
  have HX := Lib.hid X0
  have H3 := Lib.hid T1
  have H4 := Lib.hid T2
  have HW := Lib.hid hW0
  clear h1 h2 hna hnc hnh X0 T1 T2 hs hW0
  go_enter Try.func28, Try.ntmps28
  go_wp2_with fail
  rw [← HW.out]
  clear k1 k2
  go_loopw [5] (fun i wr => ∃ (k : Nat), i = .int .i64 k ∧ k ≤ nh ∧ Hid (Ext W0 wr)) (fun i _ => nh - (intOf i).toNat)
  case atStart => exact ⟨0, rfl, by omega, Lib.hid (Ext.refl _)⟩
  case round =>
    obtain ⟨k, rfl, hk, HY⟩ := hrel
    obtain ⟨y0, y1, y2, y3, y4, y5, y6, y7, y8, y9⟩ := ten_cells (H3.out.ext HY.out)
    obtain ⟨z0, z1, z2, z3, z4, z5, z6, z7, z8, z9⟩ := ten_cells (H4.out.ext HY.out)
    by_cases hlt : k < nh
    · have hkl : k < m.hs.length := by have := Hnh.out; omega
      obtain ⟨b1, o1, rfl, hat1⟩ := rowH_at H1.out.2.2 (by omega)
      obtain ⟨b2, o2, rfl, hat2⟩ := rowH_at H2.out.2.2 (by omega)
      obtain ⟨p0, p1, p2, p3⟩ := hat1 _ (HX.out.trans HY.out) k hkl
      obtain ⟨q0, q1, q2, q3⟩ := hat2 _ (HX.out.trans HY.out) k hkl
      obtain ⟨x, hx⟩ : ∃ x, gh m.hs k = x := ⟨_, rfl⟩
      rw [hx] at p0 p1 p2 p3 q0 q1 q2 q3
      clear hat1 hat2 hx hkl
      go_wp2_with fail
      go_quiet (fail)
      go_wp2_with fail
      go_roundw
      case rel => exact ⟨k + 1, by go_num, by omega, Lib.hid (HY.out.drewN _)⟩
      case measure => simp [intOf]; omega
    · clear y6 y7 y8 z6 z7 z8
      go_wp2_with fail
      go_loopw [6] (fun i ws => ∃ (j : Nat), i = .int .i64 j ∧ j ≤ na ∧ Hid (Ext W0 ws)) (fun i _ => na - (intOf i).toNat)
      case atStart => exact ⟨0, rfl, by omega, HY⟩
      case round =>
        obtain ⟨j, rfl, hj, HZ⟩ := hrel
        clear y0 y1 y2 y3 y4 y5 y9 z0 z1 z2 z3 z4 z5 z9
        obtain ⟨y0, y1, y2, y3, y4, y5, y6, y7, y8, y9⟩ := ten_cells (H3.out.ext HZ.out)
        obtain ⟨z0, z1, z2, z3, z4, z5, z6, z7, z8, z9⟩ := ten_cells (H4.out.ext HZ.out)
        by_cases hlj : j < na
        · have hjl : j < m.args.length := by have := Hna.out; omega
          obtain ⟨b1, o1, rfl, hat1⟩ := rowT_at H1.out.1 (by omega)
          obtain ⟨b2, o2, rfl, hat2⟩ := rowT_at H2.out.1 (by omega)
          obtain ⟨p0, p1⟩ := hat1 _ (HX.out.trans HZ.out) j hjl
          obtain ⟨q0, q1⟩ := hat2 _ (HX.out.trans HZ.out) j hjl
          obtain ⟨x, hx⟩ : ∃ x, gt m.args j = x := ⟨_, rfl⟩
          rw [hx] at p0 p1 q0 q1
          clear hat1 hat2 hx hjl
          go_wp2_with fail
          go_quiet (fail)
          go_wp2_with fail
          go_roundw
          case rel => exact ⟨j + 1, by go_num, by omega, Lib.hid (HZ.out.drewN _)⟩
          case measure => simp [intOf]; omega
        · go_wp2
          go_ret
          exact ⟨rfl, HX.out.trans HZ.out⟩
end Go.Proofs.Ytcgajgileehbbaa
