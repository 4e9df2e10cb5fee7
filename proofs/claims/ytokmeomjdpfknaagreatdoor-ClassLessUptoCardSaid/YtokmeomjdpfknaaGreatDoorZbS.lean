/- Several texts of this proof, one behind the other. -/
import Derived.Test.YtokmeomjdpfknaaGreatDoorZbR
import Derived.Lib.Builder
import Derived.Lib.AppendStr
import Derived.Lib.UnsafeStr
namespace Go.Proofs.YtokmeomjdpfknaaGreatDoor
open Go.RowKit
set_option linter.unusedVariables false

set_option maxHeartbeats 4000000 in
theorem CheckProto_any (v : Value) (p : Pr) (w : World) (h : RowT w v p.args) (hret : p.ret.s.length ≤ 140737488351232) :
    Calls Tryz.prog 137 #[.agg (p.vals v)] w fun e w' => e = .returned (.int .i64 (checkP p)) ∧ Ext w w' := by
  unfold Pr.vals
  obtain ⟨A, c, rfl, hc, hm, ha, hf, hg⟩ := h
  unfold maxLen at hm
  by_cases h16 : 16 < p.args.length
  · rw [checkP_long h16]
    clear hg hf ha
    go_enter Tryz.func137, Tryz.ntmps137
    go_wp2
    go_ret
    exact ⟨rfl, (Ext.refl w).alloc _⟩
  · have hne : ∀ W, (binOp .eql 41 (.agg #[.int .i64 p.ret.k, .string (bs p.ret.s)]) (.agg #[.int .i64 0, .string ⟨#[]⟩])).run Tryz.prog W = .ok (.bool (eqT p.ret t0D)) W := fun W => run_eqT p.ret t0D W
    have HR := fun W => CheckType_any p.ret W hret
    unfold TyD.vals at HR
    have HR := Lib.hid HR
    obtain ⟨n, hn⟩ : ∃ n, n = p.args.length := ⟨_, rfl⟩
    rw [← hn] at hc hg h16 ⊢
    have Hn := Lib.hid hn
    clear hn ha
    have hf := Lib.hid hf
    go_enter Tryz.func137, Tryz.ntmps137
    go_wp2
    obtain ⟨w2, hw2⟩ : ∃ w2, w2 = w.alloc (.cells #[.int .i64 p.ret.k, .string (bs p.ret.s), .slice A n c] 44) := ⟨_, rfl⟩
    have z5 : w2.cell? ⟨w.heap.size, 0, none⟩ = some (.int .i64 p.ret.k) := by rw [hw2, cell_of_row _ _ _ _ _ _ (heap_alloc_new _ _)]; rfl
    have z6 : w2.cell? ⟨w.heap.size, 1, none⟩ = some (.string (bs p.ret.s)) := by rw [hw2, cell_of_row _ _ _ _ _ _ (heap_alloc_new _ _)]; rfl
    have hlt2 : w.heap.size < w2.heap.size := by rw [hw2]; simp
    have X2 : Ext w w2 := by rw [hw2]; exact (Ext.refl w).alloc _
    rw [← hw2]
    clear hw2
    have X2 := Lib.hid X2
    go_loopw [13] (fun i wr => ∃ k : Nat, k ≤ n ∧ i = .int .i64 k ∧ Hid (∀ j, j < k → okT (gtD p.args j) = true) ∧ Ext w2 wr) (fun i _ => n - (intOf i).toNat)
    case atStart => exact ⟨0, by omega, rfl, Lib.hid (fun j h => absurd h (Nat.not_lt_zero _)), Ext.refl _⟩
    case round =>
      obtain ⟨k, hk, rfl, Ht, hx⟩ := hrel
      by_cases hlt : k < n
      · obtain ⟨b1, o1, rfl, hb1, hx1⟩ := hg (by omega)
        obtain ⟨y0, y1⟩ := (hx1 k hlt).ext (X2.out.trans hx) hb1
        clear hx1 hne
        have HC := fun W => CheckType_any (gtD p.args k) W (hf.out _ (gt_mem (by have := Hn.out; omega))).2
        unfold TyD.vals at HC
        have HC := Lib.hid HC
        cases ho : okT (gtD p.args k)
        · have H2 := Lib.hid (checkT_no ho)
          have HE := Lib.hid (checkP_arg (p := p) (by have := Hn.out; omega) (by have := Hn.out; omega) ho)
          clear ho
          go_wp2_with fail
          refine (HC.out _).mono ?_
          rw [H2.out]
          rintro e w3 ⟨rfl, x3⟩
          go_wp2
          go_ret
          rw [HE.out]
          exact ⟨rfl, X2.out.trans ((hx.alloc _).trans x3)⟩
        · have H2 := Lib.hid (checkT_yes ho)
          have HO := Lib.hid ho
          clear ho
          go_wp2_with fail
          refine (HC.out _).mono ?_
          rw [H2.out]
          rintro e w3 ⟨rfl, x3⟩
          go_wp2
          refine ⟨⟨k + 1, by omega, by go_num, Lib.hid (fun j hj => ?_), (hx.alloc _).trans x3⟩, by simp [intOf]; omega⟩
          by_cases hjk : j < k
          · exact Ht.out j hjk
          · obtain rfl : j = k := by omega
            exact HO.out
      · obtain rfl : k = n := by omega
        have y5 := (hx.cell (p := ⟨w.heap.size, 0, none⟩) hlt2).trans z5
        have y6 := (hx.cell (p := ⟨w.heap.size, 1, none⟩) hlt2).trans z6
        have all : ∀ j, j < p.args.length → okT (gtD p.args j) = true := fun j hj => Ht.out j (by have := Hn.out; omega)
        have HAll := Lib.hid all
        have h16' : ¬ 16 < p.args.length := by have := Hn.out; omega
        have H16 := Lib.hid h16'
        clear all h16' z5 z6
        by_cases h0 : p.ret = t0D
        · rw [show eqT p.ret t0D = true by simp [eqT, h0]] at hne
          have HE := Lib.hid (checkP_yes H16.out (.inl h0) HAll.out)
          clear h0
          go_wp2
          go_ret
          rw [HE.out]
          exact ⟨rfl, X2.out.trans hx⟩
        · rw [show eqT p.ret t0D = false by simp [eqT, h0]] at hne
          cases ho : okT p.ret
          · have H2 := Lib.hid (checkT_no ho)
            have HE := Lib.hid (checkP_ret H16.out h0 ho)
            clear h0 ho
            go_wp2_with fail
            refine (HR.out _).mono ?_
            rw [H2.out]
            rintro e w3 ⟨rfl, x3⟩
            go_wp2
            go_ret
            rw [HE.out]
            exact ⟨rfl, X2.out.trans (hx.trans x3)⟩
          · have H2 := Lib.hid (checkT_yes ho)
            have HE := Lib.hid (checkP_yes H16.out (.inr ho) HAll.out)
            clear h0 ho
            go_wp2_with fail
            refine (HR.out _).mono ?_
            rw [H2.out]
            rintro e w3 ⟨rfl, x3⟩
            go_wp2
            go_ret
            rw [HE.out]
            exact ⟨rfl, X2.out.trans (hx.trans x3)⟩
def eqLD (l m : List TyD) : Bool := decide (l = m)
set_option maxHeartbeats 4000000 in
theorem equalT_any (v1 v2 : Value) (l1 l2 : List TyD) (w : World) (h1 : RowT w v1 l1) (h2 : RowT w v2 l2) :
    Calls Tryz.prog 143 #[v1, v2] w fun e w' => e = .returned (.bool (eqLD l1 l2)) ∧ ∃ m, w' = w.drewN m := by
  obtain ⟨A1, c1, rfl, hc1, hm1, ha1, hf1, hg1⟩ := h1
  obtain ⟨A2, c2, rfl, hc2, hm2, ha2, hf2, hg2⟩ := h2
  unfold maxLen at hm1 hm2
  by_cases hl : l1.length = l2.length
  · obtain ⟨n, hn⟩ : ∃ n, n = l1.length := ⟨_, rfl⟩
    rw [← hn] at hc1 hg1 ⊢
    rw [← hl, ← hn] at hc2 hg2 ⊢
    have Hn := Lib.hid hn
    have Hl := Lib.hid hl
    clear hn hl ha1 ha2 hf1 hf2
    go_enter Tryz.func143, Tryz.ntmps143
    go_wp2
    go_loopw [13] (fun i wr => ∃ k m : Nat, k ≤ n ∧ i = .int .i64 k ∧ wr = w.drewN m ∧ Hid (l1.take k = l2.take k)) (fun i _ => n - (intOf i).toNat)
    case atStart => exact ⟨0, 0, by omega, rfl, rfl, Lib.hid rfl⟩
    case round =>
      obtain ⟨k, m, hk, rfl, rfl, Ht⟩ := hrel
      by_cases hlt : k < n
      · obtain ⟨b1, o1, rfl, hb1, hx1⟩ := hg1 (by omega)
        obtain ⟨b2, o2, rfl, hb2, hx2⟩ := hg2 (by omega)
        obtain ⟨y0, y1⟩ := hx1 k hlt
        obtain ⟨u0, u1⟩ := hx2 k hlt
        have hne := fun W => run_neqT (gtD l1 k) (gtD l2 k) W
        unfold TyD.vals at hne
        clear hx1 hx2
        by_cases he : gtD l1 k = gtD l2 k
        · rw [show eqT (gtD l1 k) (gtD l2 k) = true by simp [eqT, he]] at hne
          have HE := Lib.hid he
          clear he
          go_wp2
          go_quiet (fail)
          go_wp2
          refine ⟨⟨k + 1, m + nq, by omega, by go_num, rfl, Lib.hid ?_⟩, by simp [intOf]; omega⟩
          rw [takeT_one (by have := Hn.out; omega), takeT_one (by have := Hn.out; have := Hl.out; omega), Ht.out, HE.out]
        · rw [show eqT (gtD l1 k) (gtD l2 k) = false by simp [eqT, he]] at hne
          have HE := Lib.hid (show eqLD l1 l2 = false by simp only [eqLD, decide_eq_false_iff_not]; exact fun e => he (by rw [e]))
          clear he
          go_wp2
          go_quiet (fail)
          go_wp2
          go_ret
          exact ⟨ret_bD HE.out.symm, _, World.drewN_drewN _ _ _⟩
      · obtain rfl : k = n := by omega
        go_wp2
        go_ret
        refine ⟨ret_bD ?_, _, rfl⟩
        have := Ht.out
        rw [Hn.out] at this
        rw [List.take_length, Hl.out, List.take_length] at this
        exact (decide_eq_true this).symm
  · have hb : ((l1.length : Int) != (l2.length : Int)) = true := by simp; omega
    have HE := Lib.hid (show eqLD l1 l2 = false by simp only [eqLD, decide_eq_false_iff_not]; exact fun e => hl (by rw [e]))
    rw [HE.out]
    clear hg1 hg2 hl ha1 ha2 hf1 hf2
    go_enter Tryz.func143, Tryz.ntmps143
    go_wp2
    go_ret
    exact ⟨rfl, 0, rfl⟩
set_option maxHeartbeats 2000000 in
theorem SameProto_any (v1 v2 : Value) (p q : Pr) (w : World) (h1 : RowT w v1 p.args) (h2 : RowT w v2 q.args) :
    Calls Tryz.prog 86 #[.agg (p.vals v1), .agg (q.vals v2)] w fun e w' => e = .returned (.bool (eqP p q)) ∧ Ext w w' := by
  have hne := fun W => run_eqT p.ret q.ret W
  have hq := fun W (x : Ext w W) => equalT_any v1 v2 p.args q.args W (h1.ext x) (h2.ext x)
  unfold Pr.vals
  unfold TyD.vals at hne
  have HQ := Lib.hid hq
  obtain ⟨A1, c1, rfl, -⟩ := h1
  obtain ⟨A2, c2, rfl, -⟩ := h2
  by_cases hr : p.ret = q.ret
  · rw [show eqT p.ret q.ret = true by simp [eqT, hr]] at hne
    have HE := Lib.hid (show eqLD p.args q.args = eqP p q by
      by_cases ha : p.args = q.args
      · rw [eqP_yes hr ha, eqLD, ha]; simp
      · rw [eqP_args ha, eqLD]; simpa using ha)
    clear hr hq
    go_enter Tryz.func86, Tryz.ntmps86
    go_wp2_with fail
    refine (HQ.out _ (by first | exact ext_twoD _ _ _ | exact (ext_twoD _ _ _).drewN _)).mono ?_
    rw [HE.out]
    rintro e w3 ⟨rfl, m, rfl⟩
    go_wp2
    go_ret
    exact ⟨rfl, by first | exact (ext_twoD _ _ _).drewN _ | exact ((ext_twoD _ _ _).drewN _).drewN _⟩
  · rw [show eqT p.ret q.ret = false by simp [eqT, hr]] at hne
    have HE := Lib.hid (eqP_ret (p := p) (q := q) hr)
    rw [HE.out]
    clear hr hq
    go_enter Tryz.func86, Tryz.ntmps86
    go_wp2
    go_ret
    exact ⟨rfl, by first | exact ext_twoD _ _ _ | exact (ext_twoD _ _ _).drewN _⟩
end Go.Proofs.YtokmeomjdpfknaaGreatDoor
namespace Go.Proofs.YtokmeomjdpfknaaGreatDoor
open Go.RowKit
set_option linter.unusedVariables false

theorem infoU8 : (Tryz.prog.info? 5).map (fun i => (i.zero, i.size, i.bytes)) = some (some (.int .u8 0), 1, 1) := by kernel_rfl
def BldD (B b : Nat) (l : List UInt8) (w : World) : Prop := Lib.IsBuilder 100 5 B b (Lib.byteCells l) w
theorem bld_extD {B b : Nat} {l : List UInt8} {w w' : World} (h : BldD B b l w) (he : Ext w w') : BldD B b l w' := by
  have key : ∀ p, Lib.BuilderAt 100 5 B b p (Lib.byteCells l) w → Lib.BuilderAt 100 5 B b p (Lib.byteCells l) w' := by
    rintro p ⟨hB, v, hb, hown, hne⟩
    refine ⟨hB, v, (he.block b (lt_of_get hb)).trans hb, ⟨hown.1, ?_⟩, hne⟩
    rcases hown.2 with h2 | ⟨g, cap, cur, hv, hbg, hg, hr⟩
    · exact .inl h2
    · exact .inr ⟨g, cap, cur, hv, hbg, (he.block g (lt_of_get hg)).trans hg, hr⟩
  exact h.elim (fun x => .inl (key _ x)) (fun x => .inr (key _ x))
theorem sizeBldD : ∃ j, Tryz.prog.info? 100 = some j ∧ j.size = 2 := by
  have h : (Tryz.prog.info? 100).map (·.size) = some 2 := by kernel_rfl
  obtain ⟨j, hj, hs⟩ := Option.map_eq_some_iff.1 h
  exact ⟨j, hj, hs⟩
theorem liesBldD : liesAt Tryz.prog Tryz.prog.depth 100 (2 / Tryz.prog.cellsOf 100) 0 100 1 = true := by kernel_rfl
set_option maxRecDepth 100000 in
set_option maxHeartbeats 1000000 in
theorem copyCheck_freshD (b : Nat) (w : World) (h0 : w.cell? ⟨b, 0, none⟩ = some (.pointer none)) (hsh : w.shape? b = some (100, 2)) (hf : w.frozen? ⟨b, 0, none⟩ = false) :
    Calls Tryz.prog 110 #[.pointer (some ⟨b, 0, none⟩)] w fun e w' => e = .returned (.tuple #[]) ∧ w' = w.setCell ⟨b, 0, none⟩ (.pointer (some ⟨b, 0, none⟩)) := by
  obtain ⟨j, hj, hjs⟩ := sizeBldD
  go_enter Tryz.func110, Tryz.ntmps110
  go_wp2
  rw [Lib.run_to_unsafe w ⟨b, 0, none⟩ Tryz.underlying98 Tryz.underlying194 hj (by rw [hjs]; decide) hsh (Nat.zero_lt_succ 1)]
  simp only [Result.andThen]
  rw [Oper.upon_value]
  go_wp2
  rw [run_callFunc_extern Tryz.func158 (by kernel_rfl) (by kernel_rfl) (by kernel_rfl) (e := Extern.AbiNoEscape.same) (by kernel_rfl)]
  rw [Lib.run_noEscape]
  simp only [Result.andThen]
  rw [Oper.upon_value]
  go_wp2
  rw [Lib.run_from_unsafe w ⟨b, 0, none⟩ Tryz.underlying194 Tryz.underlying98 hj hsh liesBldD]
  simp only [Result.andThen]
  rw [Oper.upon_value]
  go_wp2
  go_end0
  exact ⟨rfl, rfl⟩
set_option maxRecDepth 100000 in
theorem copyCheck_usedD (b : Nat) (w : World) (h0 : w.cell? ⟨b, 0, none⟩ = some (.pointer (some ⟨b, 0, none⟩))) :
    Calls Tryz.prog 110 #[.pointer (some ⟨b, 0, none⟩)] w fun e w' => e = .returned (.tuple #[]) ∧ w' = w := by
  obtain ⟨j, hj, hjs⟩ := sizeBldD
  go_enter Tryz.func110, Tryz.ntmps110
  go_wp2
  rw [Lib.run_neq_ptr_same w _ Tryz.underlying98 hj]
  go_wp2
  go_end0
  exact ⟨rfl, rfl⟩
theorem copyCheck_anyD (B b : Nat) (l : List UInt8) (w : World) (h : BldD B b l w) :
    Calls Tryz.prog 110 #[.pointer (some ⟨b, 0, none⟩)] w fun e w' => e = .returned (.tuple #[]) ∧ (Lib.BuilderAt 100 5 B b (.pointer (some ⟨b, 0, none⟩)) (Lib.byteCells l) w' ∧ Below B w w') := by
  rcases h with h | h
  · refine (copyCheck_freshD b w h.cell0 h.shape h.frozen0).mono ?_
    rintro e w' ⟨rfl, rfl⟩
    exact ⟨rfl, h.used _, (Below.refl B w).setCell (p := ⟨b, 0, none⟩) h.1 _⟩
  · refine (copyCheck_usedD b w h.cell0).mono ?_
    rintro e w' ⟨rfl, rfl⟩
    exact ⟨rfl, h, Below.refl B _⟩


theorem strCells_bs (m : List UInt8) : Lib.strCells (bs m) = Lib.byteCells m := rfl
set_option maxRecDepth 100000 in
set_option maxHeartbeats 2000000 in
theorem WriteString_any (B b : Nat) (l m : List UInt8) (w : World) (h : BldD B b l w) (hl : l.length + m.length ≤ 140737488355328) (hB : B ≤ w.heap.size) :
    Calls Tryz.prog 56 #[.pointer (some ⟨b, 0, none⟩), .string (bs m)] w fun e w' => (∃ v, e = .returned v) ∧ BldD B b (l ++ m) w' ∧ Below B w w' := by
  have hlc : (Lib.byteCells l).length = l.length := Lib.byteCells_length l
  have hsz : (bs m).size = m.length := rfl
  obtain ⟨i0, hi, hz0, hz1, hz2⟩ := info_parts infoU8
  obtain ⟨C, hC⟩ : ∃ C, C = Lib.byteCells l := ⟨_, rfl⟩
  have c := copyCheck_anyD B b l w h
  rw [← hC] at c hlc
  have HC := Lib.hid hC
  clear hC h
  have HL := Lib.hid hlc
  clear hlc
  have C0 := Lib.hid c
  clear c
  go_enter Tryz.func56, Tryz.ntmps56
  go_wp2_with fail
  refine C0.out.mono ?_
  rintro e w1 ⟨rfl, ⟨hBb, v, hbk, hown, hne⟩, hb1⟩
  obtain ⟨ao, cap, rfl⟩ : ∃ ao cap, v = .slice ao C.length cap := by
    rcases hown.2 with ⟨hv, h0⟩ | ⟨g, cap, cur, hv, _⟩
    · exact ⟨none, 0, by rw [hv, h0]⟩
    · exact ⟨_, _, hv⟩
  have c0 : w1.cell? ⟨b, 0, none⟩ = some (.pointer (some ⟨b, 0, none⟩)) := by rw [Lib.cell_of_heap hbk]; rfl
  have c1 : w1.cell? ⟨b, 1, none⟩ = some (.slice ao C.length cap) := by rw [Lib.cell_of_heap hbk]; rfl
  have hB1 : B ≤ w1.heap.size := Nat.le_trans hB hb1.size
  go_wp2_with (at_builtin; refine Lib.wpList_append_own_string _ rfl _ _ 29 9 rfl B 5 i0 Tryz.underlying29 Tryz.underlying9 hi hz0 hz1 hz2 _ _ _ rfl hown (bs m) rfl ?c3 ?c4 ?c5 ?_)
  case c3 => unfold maxLen; have := HL.out; omega
  case c4 => have := HL.out; omega
  case c5 => exact hB1
  intro v' w2 hown' hgrow _
  have hlt : b < w1.heap.size := lt_of_get hbk
  have hb2 : w2.heap[b]? = some (.cells #[.pointer (some ⟨b, 0, none⟩), .slice ao C.length cap] 100 (0, 0)) := by
    rw [hgrow.block b hlt (fun e => hne e.symm)]
    exact hbk
  have d0 : w2.cell? ⟨b, 0, none⟩ = some (.pointer (some ⟨b, 0, none⟩)) := by rw [Lib.cell_of_heap hb2]; rfl
  have d1 : w2.cell? ⟨b, 1, none⟩ = some (.slice ao C.length cap) := by rw [Lib.cell_of_heap hb2]; rfl
  have f1 : w2.frozen? ⟨b, 1, none⟩ = false := Lib.frozen_of_heap hb2 1
  obtain ⟨ao', n', cap', rfl⟩ : ∃ ao n' cap, v' = .slice ao n' cap := by
    rcases hown'.2 with ⟨hv, _⟩ | ⟨g, cap, cur, hv, _⟩
    · exact ⟨_, _, _, hv⟩
    · exact ⟨_, _, _, hv⟩
  go_wp2
  go_ret2
  refine ⟨⟨_, rfl⟩, ?_, ?_⟩
  · refine .inr ?_
    have e : Lib.byteCells (l ++ m) = C ++ Lib.strCells (bs m) := by rw [Lib.byteCells_append, ← HC.out, strCells_bs]
    rw [e]
    exact Lib.BuilderAt.put hBb hb2 (by rw [List.length_append, Lib.strCells_length]; exact hown') (by decide)
  · exact (hb1.grown hgrow (by have := hb1.size; omega) (fun k hk => (World.ownsRow.lt hown k hk).1)).setCell (p := ⟨b, 1, none⟩) hBb _
theorem Ext.below {a b c : World} {B : Nat} (h : Ext a b) (k : Below B b c) (hB : a.heap.size ≤ B) : Ext a c := Below.trans h (Below.mono k hB)
theorem okT_name {t : TyD} (h : okT t = true) : t.s.length ≤ 64 := by
  obtain ⟨k, s⟩ := t
  unfold okT at h
  simp only at h ⊢
  split at h
  · rw [of_decide_eq_true h]
    exact Nat.zero_le _
  · split at h
    · exact (name_len h).2
    · cases h
theorem ok64 {p : Pr} (h : checkP p = 0) : ∀ t ∈ p.args, okT t = true := by
  unfold checkP at h
  split at h
  · cases h
  · split at h
    · rename_i _ ho
      unfold okP at ho
      simp only [Bool.and_eq_true, List.all_eq_true] at ho
      exact ho.2
    · cases h
theorem name64 {t : TyD} (h : okT t = true) : (textT t).length ≤ 67 := by
  have h1 := textT_len t
  have h2 := okT_name h
  omega
theorem ret64 {p : Pr} (h : checkP p = 0) : (textT p.ret).length ≤ 67 := by
  unfold checkP at h
  split at h
  · cases h
  · split at h
    · rename_i _ ho
      unfold okP at ho
      simp only [Bool.and_eq_true, Bool.or_eq_true, decide_eq_true_eq] at ho
      rcases ho.1 with h1 | h1
      · rw [h1]
        decide
      · exact name64 h1
    · cases h
theorem flat_len64 (l : List TyD) (h : ∀ t ∈ l, okT t = true) : (l.flatMap textT).length ≤ l.length * 67 := by
  induction l with
  | nil => simp
  | cons t r ih =>
    have h2 := name64 (h t (List.mem_cons_self ..))
    have h3 := ih (fun u hu => h u (List.mem_cons_of_mem _ hu))
    simp only [List.flatMap_cons, List.length_append, List.length_cons]
    omega
set_option maxHeartbeats 4000000 in
theorem WriteProto_any (v : Value) (p : Pr) (w : World) (h : RowT w v p.args) (hret : p.ret.s.length ≤ 140737488351232) :
    Calls Tryz.prog 119 #[.agg (p.vals v)] w fun e w' => e = .returned (.tuple #[.string (bs (writeP p).1), .int .i64 (writeP p).2]) ∧ Ext w w' := by
  have hcc : ∀ W, Ext w W → Calls Tryz.prog 137 #[.agg (p.vals v)] W fun e w' => e = .returned (.int .i64 (checkP p)) ∧ Ext W w' := fun W hx => CheckProto_any v p W (h.ext hx) hret
  unfold Pr.vals at hcc ⊢
  obtain ⟨A, c, rfl, hc, hm, ha, hf, hg⟩ := h
  unfold maxLen at hm
  have HC := Lib.hid hcc
  clear hcc
  by_cases h0 : checkP p = 0
  · rw [writeP_yes h0]
    have h16 : ¬ 16 < p.args.length := by
      intro h
      rw [checkP_long h] at h0
      cases h0
    obtain ⟨n, hn⟩ : ∃ n, n = p.args.length := ⟨_, rfl⟩
    rw [← hn] at hc hg h16 HC ⊢
    have Hn := Lib.hid hn
    have H0 := Lib.hid h0
    have hf := Lib.hid hf
    clear hn ha h0
    go_enter Tryz.func119, Tryz.ntmps119
    go_wp2_with fail
    refine (HC.out _ ((Ext.refl w).alloc _)).mono ?_
    rw [H0.out]
    rintro e w2 ⟨rfl, x1⟩
    have z3 : w2.cell? ⟨w.heap.size, 2, none⟩ = some (.slice A n c) := by
      rw [x1.cell (p := ⟨w.heap.size, 2, none⟩) (by simp), cell_of_row _ _ _ _ _ _ (heap_alloc_new _ _)]
      rfl
    have z5 : w2.cell? ⟨w.heap.size, 0, none⟩ = some (.int .i64 p.ret.k) := by
      rw [x1.cell (p := ⟨w.heap.size, 0, none⟩) (by simp), cell_of_row _ _ _ _ _ _ (heap_alloc_new _ _)]
      rfl
    have z6 : w2.cell? ⟨w.heap.size, 1, none⟩ = some (.string (bs p.ret.s)) := by
      rw [x1.cell (p := ⟨w.heap.size, 1, none⟩) (by simp), cell_of_row _ _ _ _ _ _ (heap_alloc_new _ _)]
      rfl
    have hlt2 : w.heap.size < w2.heap.size := by have := x1.size; simp at this; omega
    have X2 : Ext w w2 := ((Ext.refl w).alloc _).trans x1
    have hbld : BldD w2.heap.size w2.heap.size [] (w2.alloc (.cells #[.pointer none, .slice none 0 0] 100)) := Lib.fresh_isBuilder 100 5 w2
    obtain ⟨w3, hw3⟩ : ∃ w3, w3 = w2.alloc (.cells #[.pointer none, .slice none 0 0] 100) := ⟨_, rfl⟩
    have x3 : Ext w2 w3 := by rw [hw3]; exact (Ext.refl w2).alloc _
    rw [← hw3] at hbld
    clear x1
    have X2 := Lib.hid X2
    have X3 := Lib.hid x3
    have HB := Lib.hid hbld
    have hs3 : w2.heap.size ≤ w3.heap.size := x3.size
    clear x3 hbld
    go_wp2_with fail
    rw [← hw3]
    clear hw3
    refine (WriteString_any w2.heap.size w2.heap.size [] [40] _ HB.out (by simp) hs3).mono ?_
    rintro e w4 ⟨⟨v4, rfl⟩, hb4, bl4⟩
    have x4 : Ext w w4 := (X2.out.trans X3.out).below bl4 (by omega)
    have hs4 : w2.heap.size ≤ w4.heap.size := Nat.le_trans hs3 bl4.size
    have y3 := (Below.cell (p := ⟨w.heap.size, 2, none⟩) bl4 hlt2).trans ((X3.out.cell (p := ⟨w.heap.size, 2, none⟩) hlt2).trans z3)
    have y5 := (Below.cell (p := ⟨w.heap.size, 0, none⟩) bl4 hlt2).trans ((X3.out.cell (p := ⟨w.heap.size, 0, none⟩) hlt2).trans z5)
    have y6 := (Below.cell (p := ⟨w.heap.size, 1, none⟩) bl4 hlt2).trans ((X3.out.cell (p := ⟨w.heap.size, 1, none⟩) hlt2).trans z6)
    have hlt4 : w.heap.size < w4.heap.size := by omega
    have HB4 := Lib.hid hb4
    have X4 := Lib.hid x4
    clear z3 z5 z6 hb4 x4 bl4
    go_wp2
    go_loopw [17] (fun i wr => ∃ k : Nat, k ≤ n ∧ i = .int .i64 k ∧ Hid (BldD w2.heap.size w2.heap.size (40 :: (p.args.take k).flatMap textT) wr) ∧ Hid (Ext w wr) ∧ wr.cell? ⟨w.heap.size, 0, none⟩ = some (.int .i64 p.ret.k) ∧ wr.cell? ⟨w.heap.size, 1, none⟩ = some (.string (bs p.ret.s)) ∧ w2.heap.size ≤ wr.heap.size) (fun i _ => n - (intOf i).toNat)
    case atStart => exact ⟨0, by omega, rfl, HB4, X4, y5, y6, hs4⟩
    case round =>
      obtain ⟨k, hk, rfl, Hb, Hx, q5, q6, hsr⟩ := hrel
      by_cases hlt : k < n
      · obtain ⟨b1, o1, rfl, hb1, hx1⟩ := hg (by omega)
        obtain ⟨q0, q1⟩ := (hx1 k hlt).ext Hx.out hb1
        clear hx1
        have hok := hf.out _ (gt_mem (l := p.args) (j := k) (by have := Hn.out; omega))
        have htx := fun W => written_any (gtD p.args k) W hok.2
        unfold TyD.vals at htx
        have HT := Lib.hid htx
        have hl1 := textT_len (gtD p.args k)
        have hl2 := flat_len64 (p.args.take k) (fun t ht => ok64 H0.out t (List.mem_of_mem_take ht))
        have hl3 : (p.args.take k).length ≤ k := by simp; omega
        have hl4 := name64 (ok64 H0.out _ (gt_mem (l := p.args) (j := k) (by have := Hn.out; omega)))
        have e1 : (40 : UInt8) :: (p.args.take (k + 1)).flatMap textT = (40 :: (p.args.take k).flatMap textT) ++ textT (gtD p.args k) := by
          rw [takeT_one (by have := Hn.out; omega), List.flatMap_append]
          simp
        have E1 := Lib.hid e1
        clear e1 htx hok
        obtain ⟨a, hA⟩ : ∃ a, a = (40 : UInt8) :: (p.args.take k).flatMap textT := ⟨_, rfl⟩
        obtain ⟨d, hD⟩ : ∃ d, d = textT (gtD p.args k) := ⟨_, rfl⟩
        have hlen : a.length + d.length ≤ 140737488355328 := by
          rw [hA, hD]
          have : (p.args.take k).length * 67 ≤ 16 * 67 := Nat.mul_le_mul_right _ (by omega)
          simp only [List.length_cons]
          omega
        rw [← hA, ← hD] at E1
        rw [← hA] at Hb
        rw [← hD] at HT
        have HL := Lib.hid hlen
        clear hA hD hl1 hl2 hl3 hl4 hlen
        go_wp2_with fail
        refine (HT.out _).mono ?_
        rintro e w5 ⟨rfl, x5⟩
        have y5' : Ext wr w5 := ((Ext.refl wr).alloc _).trans x5
        have hb5 := bld_extD Hb.out y5'
        have X5 : Ext w w5 := Hx.out.trans y5'
        have hs5 : wr.heap.size ≤ w5.heap.size := y5'.size
        have r5 := (y5'.cell (p := ⟨w.heap.size, 0, none⟩) (by simp only; omega)).trans q5
        have r6 := (y5'.cell (p := ⟨w.heap.size, 1, none⟩) (by simp only; omega)).trans q6
        have HB5 := Lib.hid hb5
        have HX5 := Lib.hid X5
        clear hb5 X5 x5 y5'
        go_wp2_with fail
        refine (WriteString_any w2.heap.size w2.heap.size a d _ HB5.out HL.out (by omega)).mono ?_
        rintro e w6 ⟨⟨v6, rfl⟩, hb6, bl6⟩
        have s6 := bl6.size
        have p5 := (Below.cell (p := ⟨w.heap.size, 0, none⟩) bl6 hlt2).trans r5
        have p6 := (Below.cell (p := ⟨w.heap.size, 1, none⟩) bl6 hlt2).trans r6
        have HB6 := Lib.hid hb6
        have HX6 := Lib.hid (HX5.out.below bl6 (by omega))
        clear hb6 bl6
        go_wp2
        exact ⟨⟨k + 1, by omega, by go_num, Lib.hid (by rw [E1.out]; exact HB6.out), HX6, p5, p6, by omega⟩, by simp [intOf]; omega⟩
      · obtain rfl : k = n := by omega
        have htx := fun W => written_any p.ret W hret
        unfold TyD.vals at htx
        have hl1 := ret64 H0.out
        have hl2 := flat_len64 (p.args.take k) (fun t ht => ok64 H0.out t (List.mem_of_mem_take ht))
        have hl3 : (p.args.take k).length ≤ k := by simp; omega
        obtain ⟨a, hA⟩ : ∃ a, a = (40 : UInt8) :: (p.args.take k).flatMap textT := ⟨_, rfl⟩
        obtain ⟨d, hD⟩ : ∃ d, d = textT p.ret := ⟨_, rfl⟩
        have hlen : a.length + 1 + d.length ≤ 140737488355328 := by
          rw [hA, hD]
          have : (p.args.take k).length * 67 ≤ 16 * 67 := Nat.mul_le_mul_right _ (by omega)
          simp only [List.length_cons]
          omega
        have e2 : textP p = a ++ [41] ++ d := by
          rw [hA, hD, textP, show p.args.take k = p.args by rw [Hn.out, List.take_length]]
          simp
        rw [← hA] at Hb
        rw [← hD] at htx
        have HT := Lib.hid htx
        have E2 := Lib.hid e2
        have HL := Lib.hid hlen
        clear hA hD hl1 hl2 hl3 htx e2 hlen y5 y6
        go_wp2_with fail
        refine (WriteString_any w2.heap.size w2.heap.size a [41] _ Hb.out (by have := HL.out; simp only [List.length_cons, List.length_nil]; omega) (by omega)).mono ?_
        rintro e w5 ⟨⟨v5, rfl⟩, hb5, bl5⟩
        have s5 := bl5.size
        have p5 := (Below.cell (p := ⟨w.heap.size, 0, none⟩) bl5 hlt2).trans q5
        have p6 := (Below.cell (p := ⟨w.heap.size, 1, none⟩) bl5 hlt2).trans q6
        have HB5 := Lib.hid hb5
        have HX5 := Lib.hid (Hx.out.below bl5 (by omega))
        clear hb5 bl5
        go_wp2_with fail
        refine (HT.out _).mono ?_
        rintro e w6 ⟨rfl, x6⟩
        have HB6 := Lib.hid (bld_extD HB5.out x6)
        have HX6 := Lib.hid (HX5.out.trans x6)
        have s6 := x6.size
        clear x6
        go_wp2_with fail
        refine (WriteString_any w2.heap.size w2.heap.size (a ++ [41]) d _ HB6.out (by have := HL.out; simp only [List.length_append, List.length_cons, List.length_nil]; omega) (by omega)).mono ?_
        rintro e w7 ⟨⟨v7, rfl⟩, hb7, bl7⟩
        have s7 := bl7.size
        obtain ⟨Z, hZ⟩ : ∃ Z, Z = a ++ [41] ++ d := ⟨_, rfl⟩
        rw [← hZ] at hb7
        have e3 := E2.out
        rw [← hZ] at e3
        have E3 := Lib.hid e3
        have HB7 := Lib.hid hb7
        clear hZ e3
        have HX7 := Lib.hid (HX6.out.below bl7 (by omega))
        clear hb7 bl7
        go_wp2_with fail
        refine (Tryz.Builder_String_any w2.heap.size w2.heap.size Z _ HB7.out (by omega)).mono ?_
        rintro e w8 ⟨rfl, bl8⟩
        have HX8 := Lib.hid (HX7.out.below bl8 (by omega))
        clear bl8
        go_wp2
        go_ret2
        rw [E3.out]
        exact ⟨rfl, HX8.out⟩
  · rw [writeP_no h0]
    obtain ⟨n, hn⟩ : ∃ n, n = p.args.length := ⟨_, rfl⟩
    have hcd := HC.out
    clear HC
    rw [← hn] at hc hg hcd ⊢
    obtain ⟨e0, he0⟩ : ∃ e0, e0 = checkP p := ⟨_, rfl⟩
    rw [← he0] at h0 hcd ⊢
    have HC := Lib.hid hcd
    have hb : (e0 == 0) = false := by simpa using h0
    have Hn := Lib.hid hn
    clear hg ha hf he0 h0 hcd hn
    go_enter Tryz.func119, Tryz.ntmps119
    go_wp2_with fail
    refine (HC.out _ ((Ext.refl w).alloc _)).mono ?_
    rintro e w2 ⟨rfl, x1⟩
    go_wp2
    go_ret2
    exact ⟨rfl, ((Ext.refl w).alloc _).trans x1⟩
end Go.Proofs.YtokmeomjdpfknaaGreatDoor
