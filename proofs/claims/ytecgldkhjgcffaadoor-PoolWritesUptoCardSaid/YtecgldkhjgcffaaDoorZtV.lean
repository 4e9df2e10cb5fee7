/- Several texts of this proof, one behind the other. -/
import Derived.Test.YtecgldkhjgcffaaDoorZtS
import Derived.Test.YtecgldkhjgcffaaDoorZtA
import Derived.LoopN
import Derived.Test.YtecgldkhjgcffaaDoorZtU
import Derived.Laws.MakeOwn
/- Reading constants: the document's answer, walked. -/
namespace Go.Proofs.YtecgldkhjgcffaaDoor
open Go.RowKit
set_option linter.unusedVariables false

theorem infoC : (Tryd.prog.info? 44).map (fun i => (i.zero, i.size, i.bytes)) = some (some (.agg c0.vals), 6, 56) := by kernel_rfl
/-- What Parse answers: a list, what stands behind, the error. -/
def ParseAns (B : Nat) (b : List Int) (v' : Value) (w' : World) : Prop :=
  (errZ b = 0 ∧ ∃ x y, v' = .tuple #[x, y, .int .i64 0] ∧ OwnC B w' 44 x (manyZ b).1 ∧ Own B w' 5 .u8 y (manyZ b).2.1) ∨
  (¬ errZ b = 0 ∧ v' = .tuple #[.slice none 0 0, .slice none 0 0, .int .i64 (errZ b)])
theorem cells6 : (Value.agg c0.vals).cells.size = 6 := by rfl
theorem Rdr.new {T : TypeId} {B : Nat} {w : World} {v : Value} {l : List Int} (h : Own B w 5 .u8 v l) : Rdr T (w.alloc (.cells #[v, .int .i64 0] T)) w.heap.size l 0 :=
  ⟨v, heap_alloc_new w _, h.row.ext ((Ext.refl w).alloc _), h.typed.ext ((Ext.refl w).alloc _)⟩
theorem fits_room {l : List Cst} {n : Nat} (h : ∀ x ∈ l, x.ok ∧ Fits x.t n) (hn : n ≤ 140737488355328) : Room l := fun x hx => by
  obtain ⟨-, h1, h2⟩ := h x hx
  exact ⟨by omega, by omega⟩
theorem OwnC.own_block {B : Nat} {w : World} {T : TypeId} {v : Value} {l : List Cst} (h : OwnC B w T v l) : ∀ b, v.ownBlock = some b → B ≤ b ∧ ∃ cur, w.heap[b]? = some (.cells cur T (0, 0)) := by
  intro b hb
  obtain ⟨⟨h1, h2⟩, hf⟩ := h
  rcases h2 with ⟨rfl, h0⟩ | ⟨g, cap, cur, rfl, hbg, hg, hn, hm, hs, ht⟩
  · cases hb
  · injection hb with hb
    subst hb
    exact ⟨hbg, cur, hg⟩
theorem OwnC.base {B B' : Nat} {w : World} {T : TypeId} {v : Value} {l : List Cst} (h : OwnC B w T v l) (hB : B' ≤ B) : OwnC B' w T v l := by
  obtain ⟨⟨h1, h2⟩, hf⟩ := h
  refine ⟨⟨h1, ?_⟩, hf⟩
  rcases h2 with h2 | ⟨g, cap, cur, hv, hb, hr⟩
  · exact .inl h2
  · exact .inr ⟨g, cap, cur, hv, by omega, hr⟩
theorem parse_err {b : List Int} {e : Int} (h : errZ b = e) (h0 : ¬ e = 0) (B : Nat) (w' : World) : ParseAns B b (.tuple #[.slice none 0 0, .slice none 0 0, .int .i64 e]) w' := .inr ⟨by rw [h]; exact h0, by rw [h]⟩

set_option maxRecDepth 100000 in
set_option maxHeartbeats 8000000 in
theorem refParse_any (v : Value) (b : List Int) (w : World) (h : Row w .u8 v b) (hT : Tabs w) (hl : b.length + 4 ≤ 140737488355328) :
    Calls Tryd.prog 13 #[v] w (Ret w (ParseAns w.heap.size b)) := by
  have hfit := h.fit
  have c1 := fun g W h => refRdrU g b 0 W h (by omega)
  have hpos := rdU_rng b 0
  have e1 : rdU b 0 = tU b := by unfold rdU; rw [if_pos rfl]
  have hall := many_all hfit
  have hsufp := (tU_suf b).length_le
  have hps := tU_suf b
  have hsmall := @many_small b
  have hzero := @tU_err b
  obtain ⟨r, hr⟩ : ∃ r, r = tU b := ⟨_, rfl⟩
  rw [e1] at c1 hpos
  rw [← hr] at c1 hpos e1 hzero hsufp hps
  have hm : manyZ b = rdList r.2.1 (if r.2.2 = 0 ∧ 4096 < r.1 then 5 else r.2.2) r.1.toNat := by unfold manyZ cntZ; rw [hr]
  obtain ⟨n, p, e0⟩ := r
  obtain ⟨N, rfl⟩ : ∃ N : Nat, n = N := ⟨n.toNat, by omega⟩
  simp only at c1 hpos hm hzero hsufp hps
  rw [Int.toNat_natCast] at hm
  have C1 := Lib.hid c1
  clear c1 hr e1
  by_cases he : e0 = 0
  · subst he
    clear hzero
    by_cases hbig : 4096 < N
    · rw [if_pos ⟨rfl, by omega⟩, rdList_past (k := 0) (by simp [rdList]) _ (Nat.zero_le _), rdList_zero] at hm
      have HE := Lib.hid (show errZ b = 5 by unfold errZ; rw [hm]; rw [if_neg (by simp)])
      clear hm hall hsmall
      go_enter Tryd.func13, Tryd.ntmps13
      go_wp2_with fail
      refine (copyBytes_any v b _ (by exact h) (by omega)).mono ?_
      rintro e w1 ⟨v1, rfl, ho1, x1⟩
      obtain ⟨A1, k1, hb1, _⟩ := ho1.row
      subst hb1
      go_wp2_with fail
      refine (C1.out _ _ (by exact Rdr.new ho1)).mono ?_
      rintro e w2 ⟨rfl, hr2, hg2⟩
      have x2 : Ext w w2 := (x1.alloc _).grown hg2 (fun g hg => by injection hg with hg; subst hg; exact x1.size)
      have hlt2 := hr2.lt
      obtain ⟨A2, k2, -, -, hrow2, hg2', b0, b1, hf2, hty2⟩ := hr2.cells
      have hgw : w.heap.size ≤ w1.heap.size := x1.size
      have HR2 := Lib.hid hr2
      have f1 := hf2 1
      have G := Lib.hid (only_set (World.grownBy.refl w2 (some w1.heap.size)) 1 (.int .i64 5))
      have G1 := G.out
      clear hrow2 hty2 b0 hg2 hr2
      go_wp2
      refine wp_loop_rounds 1 ?_
      rw [rounds_succ]
      have y1 : (w2.setCell ⟨w1.heap.size, 1, none⟩ (.int .i64 5)).cell? ⟨w1.heap.size, 1, none⟩ = some (.int .i64 5) := World.cell?_setCell_same _ _ _ b1
      go_wp2
      go_region
      go_wp2
      go_ret3
      exact Ret.mk (parse_err HE.out (by decide) _ _) (x2.set_ (p := ⟨w1.heap.size, 1, none⟩) hgw _).drew
    · rw [if_neg (by omega)] at hm
      have HM := Lib.hid hm
      have HA := Lib.hid hall
      have HS := Lib.hid hsmall
      have HF := Lib.hid hfit
      clear hm hall hsmall hfit
      go_enter Tryd.func13, Tryd.ntmps13
      go_wp2_with fail
      refine (copyBytes_any v b _ (by exact h) (by omega)).mono ?_
      rintro e w1 ⟨v1, rfl, ho1, x1⟩
      obtain ⟨A1, k1, hb1, _⟩ := ho1.row
      subst hb1
      go_wp2_with fail
      refine (C1.out _ _ (by exact Rdr.new ho1)).mono ?_
      rintro e w2 ⟨rfl, hr2, hg2⟩
      have x2 : Ext w w2 := (x1.alloc _).grown hg2 (fun g hg => by injection hg with hg; subst hg; exact x1.size)
      have hlt2 := hr2.lt
      obtain ⟨A2, k2, -, -, hrow2, hg2', b0, b1, hf2, hty2⟩ := hr2.cells
      have hgw : w.heap.size ≤ w1.heap.size := x1.size
      have HR2 := Lib.hid hr2
      have f1 := hf2 1
      clear hrow2 hty2 b0 hf2 f1 hg2 hr2 hg2'
      go_wp2
      go_loopw [7, 8] (fun vl i wr => ∃ k : Nat, i = .int .i64 k ∧ k ≤ N ∧ OwnC (w1.heap.size + 1) wr 44 vl (rdList p 0 k).1 ∧ Rdr 64 wr w1.heap.size (rdList p 0 k).2.1 (rdList p 0 k).2.2 ∧ Ext w wr) (fun _ i _ => N - (intOf i).toNat)
      case atStart => exact ⟨0, rfl, by omega, OwnC.nil _ _ _, HR2.out, x2⟩
      case round =>
        obtain ⟨k, rfl, hk, ho, hr, hx⟩ := hrel
        have hlt := hr.lt
        have hkl := rdList_le p 0 k
        have hkp := (rdList_suf p 0 k).length_le
        obtain ⟨A3, k3, -, -, hrow3, hg3, b0, b1, hf3, hty3⟩ := hr.cells
        have f1 := hf3 1
        have b1' := b1
        obtain ⟨ek, hek⟩ : ∃ ek, (rdList p 0 k).2.2 = ek := ⟨_, rfl⟩
        rw [hek] at b1
        have HEK := Lib.hid hek
        have HR := Lib.hid hr
        have HO := Lib.hid ho
        have HKL := Lib.hid hkl
        have HKP := Lib.hid hkp
        clear hkl hkp hrow3 hg3 b0 b1' hf3 hty3 hek hr ho
        by_cases he : ek = 0
        · subst he
          by_cases hkN : k < N
          · by_cases k0 : k = 0
            · subst k0
              go_wp2_with (at_builtin; go_loud (refine wpList_appC _ rfl _ _ (w1.heap.size + 1) 24 44 _ 56 rfl Tryd.underlying24 infoC cells6 (by omega) _ [] rfl (HO.out.ext ((Ext.refl _).alloc _)) _ [c0] rfl (RowC.one (T := 44) (heap_alloc_new _ _) c0_ok) (by simp) (by simp; omega) ?_); intro v4 w4 ho4 hg4 hb4)
              go_roundw
              case rel =>
                have e1 : rdList p 0 1 = ([c0], p, 0) := rdList_first p
                refine ⟨1, by go_num, by omega, ?_, ?_, ?_⟩
                · rw [e1]
                  exact ho4
                · rw [e1]
                  exact rdr_kept (T1 := 44) (rdr_grown HR.out ((Ext.refl _).alloc _)) hg4 (fun b hb => by
                    obtain ⟨q1, cur, q2⟩ := HO.out.own_block b hb
                    exact ⟨by omega, cur, (((Ext.refl _).alloc _).block b (lt_of_get q2)).trans q2⟩) (by decide)
                · exact (hx.alloc _).grown hg4 (fun b hb => by have := HO.out.low b hb; omega)
              case measure => simp [intOf]; omega
            · have hok := rdOne_ok (HF.out.suf ((rdList_suf p 0 k).trans hps))
              have c4 := fun W h => refOne_any w1.heap.size (rdList p 0 k).2.1 W h (by have := HKP.out; omega)
              have hnx := rdList_next (p := p) (e := 0) (k := k) (by omega) HEK.out
              have hr0 : Rdr 64 wr w1.heap.size (rdList p 0 k).2.1 0 := by
                have := HR.out
                rw [HEK.out] at this
                exact this
              obtain ⟨⟨⟨xk, xt, xn, xa, xb, xc⟩, xl, xe⟩, hX⟩ : ∃ X, X = rdOne (rdList p 0 k).2.1 := ⟨_, rfl⟩
              rw [← hX] at c4 hok hnx
              simp only [Cst.vals] at c4 hok hnx
              have C4 := Lib.hid c4
              have HOK := Lib.hid hok
              have HNX := Lib.hid hnx
              have HR0 := Lib.hid hr0
              clear hX c4 hok hnx hr0
              go_wp2_with fail
              refine (C4.out _ HR0.out).mono ?_
              rintro x w4 ⟨rfl, hr4, hg4⟩
              have x4 : Ext w w4 := hx.grown hg4 (fun g hg => by injection hg with hg; omega)
              have ho4 := HO.out.kept hg4 (fun g hb e => by have := HO.out.low g hb; injection e; omega)
              have hs4 := hr4.lt
              have HO4 := Lib.hid ho4
              have HR4 := Lib.hid hr4
              clear ho4 hr4 hg4
              go_wp2_with (at_builtin; go_loud (refine wpList_appC _ rfl _ _ (w1.heap.size + 1) 24 44 _ 56 rfl Tryd.underlying24 infoC cells6 (by omega) _ (rdList p 0 k).1 rfl (HO4.out.ext ((Ext.refl _).alloc _)) _ [⟨xk, xt, xn, xa, xb, xc⟩] rfl (RowC.one (T := 44) (heap_alloc_new _ _) HOK.out) (by have := HKL.out; simp only [List.length_singleton]; omega) (by simp; omega) ?_); intro v5 w5 ho5 hg5 hb5)
              go_roundw
              case rel =>
                refine ⟨k + 1, by go_num, by omega, ?_, ?_, ?_⟩
                · rw [HNX.out]
                  exact ho5
                · rw [HNX.out]
                  exact rdr_kept (T1 := 44) (rdr_grown HR4.out ((Ext.refl _).alloc _)) hg5 (fun b hb => by
                    obtain ⟨q1, cur, q2⟩ := HO4.out.own_block b hb
                    exact ⟨by omega, cur, (((Ext.refl _).alloc _).block b (lt_of_get q2)).trans q2⟩) (by decide)
                · exact (x4.alloc _).grown hg5 (fun b hb => by have := HO4.out.low b hb; omega)
              case measure => simp [intOf]; omega
          · have hkN' : k = N := by omega
            subst hkN'
            have hMZ : manyZ b = rdList p 0 k := HM.out
            have hall := HA.out
            rw [hMZ] at hall
            have hroom := fits_room hall.1 (by omega)
            have hEZ : errZ b = checkC (rdList p 0 k).1 := by
              unfold errZ
              rw [hMZ, HEK.out]
              exact if_pos rfl
            have HMZ := Lib.hid hMZ
            have HEZ := Lib.hid hEZ
            have c4 := fun W v h h2 => refCheck_any v (rdList p 0 k).1 W h h2 hroom
            obtain ⟨c, hc⟩ : ∃ c, checkC (rdList p 0 k).1 = c := ⟨_, rfl⟩
            rw [hc] at c4
            have HC := Lib.hid hc
            have C4 := Lib.hid c4
            clear hMZ hall hroom hEZ hc c4
            go_wp2_with fail
            refine (C4.out _ _ (by exact HO.out.row) (hT.ext hx)).mono ?_
            rintro e w4 ⟨rfl, x4⟩
            have xx4 := hx.trans x4
            obtain ⟨A5, k5, hk51, hk52, hrow5, hg5, d0, d1, hf5, hty5⟩ := (rdr_grown HR.out x4).cells
            have z1 := hf5 1
            have hlt4 : w1.heap.size < w4.heap.size := Nat.lt_of_lt_of_le hlt x4.size
            have hlen5 : (rdList p 0 k).2.1.length ≤ 140737488355328 := by have := HKP.out; omega
            have hset := row_set hg5 hrow5 hty5.out (only_set (World.grownBy.refl w4 (some w1.heap.size)) 1 (.int .i64 c))
            have HSET := Lib.hid hset.1
            have HO5 := Lib.hid (HO.out.ext x4)
            clear hset hg5 hf5 hty5 hrow5
            by_cases hc0 : c = 0
            · subst hc0
              go_wp2_with fail
              refine (copyBytes_any _ (rdList p 0 k).2.1 _ (by exact HSET.out) (by exact hlen5)).mono ?_
              rintro e w6 ⟨v6, rfl, ho6, x6⟩
              have xx6 : Ext w w6 := (xx4.set_ (p := ⟨w1.heap.size, 1, none⟩) hgw _).trans x6
              go_wp2
              go_ret3
              refine Ret.mk (.inl ⟨HEZ.out.trans HC.out, _, _, rfl, ?_, ?_⟩) xx6
              · rw [HMZ.out]
                exact ((HO5.out.kept (only_set (World.grownBy.refl w4 (some w1.heap.size)) 1 (.int .i64 0)) (fun g hb e => by have := HO5.out.low g hb; injection e; omega)).ext x6).base (by omega)
              · rw [HMZ.out]
                exact ho6.base (by have := xx4.size; simpa [World.setCell] using this)
            · have hcb : (c != 0) = true := by simpa using hc0
              go_wp2
              go_region
              go_wp2
              go_ret3
              exact Ret.mk (parse_err (HEZ.out.trans HC.out) hc0 _ _) (xx4.set_ (p := ⟨w1.heap.size, 1, none⟩) hgw _).drew
        · have hMZ : manyZ b = rdList p 0 k := by rw [HM.out]; exact rdList_past (by rw [HEK.out]; exact he) _ hk
          have hEZ : errZ b = ek := by
            unfold errZ
            rw [hMZ, HEK.out]
            exact if_neg he
          have HEZ := Lib.hid hEZ
          have heb : (ek == 0) = false := by simpa using he
          have heb2 : (ek != 0) = true := by simpa using he
          clear hMZ hEZ
          by_cases hkN : k < N
          · go_wp2
            go_region
            go_wp2
            go_ret3
            exact Ret.mk (parse_err HEZ.out he _ _) hx.drew
          · go_wp2
            go_region
            go_wp2
            go_ret3
            exact Ret.mk (parse_err HEZ.out he _ _) hx.drew
  · obtain ⟨hn, hp⟩ := hzero he
    have hN : N = 0 := by omega
    subst hN
    rw [if_neg (by omega), rdList_zero] at hm
    have HE := Lib.hid (show errZ b = e0 by unfold errZ; rw [hm]; exact if_neg he)
    have heb : (e0 == 0) = false := by simpa using he
    have heb2 : (e0 != 0) = true := by simpa using he
    clear hm hall hsmall hzero
    go_enter Tryd.func13, Tryd.ntmps13
    go_wp2_with fail
    refine (copyBytes_any v b _ (by exact h) (by omega)).mono ?_
    rintro e w1 ⟨v1, rfl, ho1, x1⟩
    obtain ⟨A1, k1, hb1, _⟩ := ho1.row
    subst hb1
    go_wp2_with fail
    refine (C1.out _ _ (by exact Rdr.new ho1)).mono ?_
    rintro e w2 ⟨rfl, hr2, hg2⟩
    have x2 : Ext w w2 := (x1.alloc _).grown hg2 (fun g hg => by injection hg with hg; subst hg; exact x1.size)
    have hlt2 := hr2.lt
    obtain ⟨A2, k2, -, -, hrow2, hg2', b0, b1, hf2, hty2⟩ := hr2.cells
    have hgw : w.heap.size ≤ w1.heap.size := x1.size
    have HR2 := Lib.hid hr2
    have f1 := hf2 1
    clear hrow2 hty2 b0 hg2 hr2
    go_wp2
    refine wp_loop_rounds 1 ?_
    rw [rounds_succ]
    go_wp2
    go_region
    go_wp2
    go_ret3
    exact Ret.mk (parse_err HE.out he _ _) x2.drew
end Go.Proofs.YtecgldkhjgcffaaDoor
/- A list of constants that the program makes of a size, and writes in place. -/
namespace Go.Proofs.YtecgldkhjgcffaaDoor
open Go.RowKit
set_option linter.unusedVariables false

/-- A block that holds just these constants. -/
def LC (w : World) (g : Nat) (m : List Cst) : Prop := ∃ cur, w.heap[g]? = some (.cells cur 44 (0, 0)) ∧ cur.toList = m.flatMap fun x => x.vals.toList
theorem LC.lt {w : World} {g : Nat} {m : List Cst} (h : LC w g m) : g < w.heap.size := by
  obtain ⟨cur, hg, _⟩ := h
  exact lt_of_get hg
theorem LC.ext {w w' : World} {g : Nat} {m : List Cst} (h : LC w g m) (he : Ext w w') : LC w' g m := by
  obtain ⟨cur, hg, h2⟩ := h
  exact ⟨cur, (he.block g (lt_of_get hg)).trans hg, h2⟩
theorem LC.kept {w w' : World} {g : Nat} {m : List Cst} {r : Option Nat} (h : LC w g m) (hw : w.grownBy w' r) (hr : r ≠ some g) : LC w' g m := by
  obtain ⟨cur, hg, h2⟩ := h
  exact ⟨cur, (hw.block g (lt_of_get hg) (fun e => hr e.symm)).trans hg, h2⟩
theorem LC.cells {w : World} {g : Nat} {m : List Cst} (h : LC w g m) {j : Nat} (hj : j < m.length) : At6 w g (j * 6) (gc m j) := by
  obtain ⟨cur, hg, ht⟩ := h
  have hx : ∀ i, i < 6 → w.cell? ⟨g, j * 6 + i, none⟩ = (gc m j).vals[i]? := fun i hi => by
    have e1 := cells_at m j i hj hi
    rw [← ht] at e1
    rw [cell_of_row w g _ cur _ (0, 0) hg, ← e1]
    simp
  exact ⟨hx 0 (by omega), hx 1 (by omega), hx 2 (by omega), hx 3 (by omega), hx 4 (by omega), hx 5 (by omega)⟩
theorem LC.frozen {w : World} {g : Nat} {m : List Cst} (h : LC w g m) (j : Nat) : w.frozen? ⟨g, j, none⟩ = false := by
  obtain ⟨cur, hg, _⟩ := h
  simp [World.frozen?, hg]
theorem LC.size {w : World} {g : Nat} {m : List Cst} (h : LC w g m) : ∃ cur, w.heap[g]? = some (.cells cur 44 (0, 0)) ∧ cur.toList = (m.flatMap fun x => x.vals.toList) ∧ cur.size = m.length * 6 := by
  obtain ⟨cur, hg, ht⟩ := h
  exact ⟨cur, hg, ht, by rw [← Array.length_toList, ht, cells_len]⟩
theorem LC.own {w : World} {B g : Nat} {m : List Cst} (h : LC w g m) (hB : B ≤ g) (hm : m.length ≤ maxLen) (hok : ∀ x ∈ m, x.ok) : OwnC B w 44 (.slice (some ⟨g, 0, none⟩) m.length m.length) m := by
  obtain ⟨cur, hg, ht, hs⟩ := h.size
  refine ⟨⟨cells_len m, .inr ⟨g, m.length, cur, rfl, hB, hg, Nat.le_refl _, hm, hs, ?_⟩⟩, hok⟩
  rw [ht, List.take_of_length_le (by rw [cells_len]; omega)]
theorem flat_set : ∀ (m : List Cst) (k : Nat) (x : Cst), k < m.length →
    ((((((m.flatMap fun x => x.vals.toList).set (k * 6) (.int .i64 x.k)).set (k * 6 + 1) (.string x.t)).set (k * 6 + 2) (.int .i64 x.n)).set (k * 6 + 3) (.int .i64 x.a)).set (k * 6 + 4) (.int .i64 x.b)).set (k * 6 + 5) (.int .i64 x.c) = (m.set k x).flatMap fun x => x.vals.toList := by
  intro m
  induction m with
  | nil => intro k x h; simp at h
  | cons y m ih =>
    intro k x h
    match k with
    | 0 => simp [Cst.vals]
    | k + 1 =>
      have e : ∀ r, (k + 1) * 6 + r = (k * 6 + r) + 1 + 1 + 1 + 1 + 1 + 1 := fun r => by omega
      have e0 : (k + 1) * 6 = k * 6 + 1 + 1 + 1 + 1 + 1 + 1 := by omega
      rw [List.set_cons_succ, List.flatMap_cons, List.flatMap_cons, ← ih k x (by simpa using h), e 1, e 2, e 3, e 4, e 5, e0]
      simp [Cst.vals]
theorem flat_kind : ∀ (m : List Cst) (k : Nat) (y : Int), k < m.length → (m.flatMap fun x => x.vals.toList).set (k * 6) (.int .i64 y) = (m.set k { gc m k with k := y }).flatMap fun x => x.vals.toList := by
  intro m
  induction m with
  | nil => intro k y h; simp at h
  | cons x m ih =>
    intro k y h
    match k with
    | 0 => simp [Cst.vals, gc]
    | k + 1 =>
      have e0 : (k + 1) * 6 = k * 6 + 1 + 1 + 1 + 1 + 1 + 1 := by omega
      have eg : gc (x :: m) (k + 1) = gc m k := by simp [gc]
      rw [List.set_cons_succ, List.flatMap_cons, List.flatMap_cons, eg, ← ih k y (by simpa using h), e0]
      simp [Cst.vals]
theorem heap_set {w : World} {g : Nat} {cur : Array Value} {T : TypeId} (h : w.heap[g]? = some (.cells cur T (0, 0))) (j : Nat) (v : Value) : (w.setCell ⟨g, j, none⟩ v).heap[g]? = some (.cells (cur.setIfInBounds j v) T (0, 0)) := heap_setCell_same w g j cur T v h
/-- A constant is written in place, then its kind. -/
theorem LC.put {w : World} {g : Nat} {m : List Cst} (h : LC w g m) {k : Nat} (hk : k < m.length) (x : Cst) (y : Int) :
    LC (((((((w.setCell ⟨g, k * 6, none⟩ (.int .i64 x.k)).setCell ⟨g, k * 6 + 1, none⟩ (.string x.t)).setCell ⟨g, k * 6 + 2, none⟩ (.int .i64 x.n)).setCell ⟨g, k * 6 + 3, none⟩ (.int .i64 x.a)).setCell ⟨g, k * 6 + 4, none⟩ (.int .i64 x.b)).setCell ⟨g, k * 6 + 5, none⟩ (.int .i64 x.c)).setCell ⟨g, k * 6, none⟩ (.int .i64 y)) g (m.set k { x with k := y }) := by
  obtain ⟨cur, hg, ht⟩ := h
  refine ⟨_, heap_set (heap_set (heap_set (heap_set (heap_set (heap_set (heap_set hg _ _) _ _) _ _) _ _) _ _) _ _) _ _, ?_⟩
  simp only [Array.toList_setIfInBounds]
  rw [ht, flat_set m k x hk, flat_kind _ k y (by simpa using hk)]
  have eg : gc (m.set k x) k = x := by simp [gc, hk]
  rw [eg, List.set_set]
theorem set_take {m : List Cst} {k : Nat} (x : Cst) (hk : k < m.length) : (m.set k x).take (k + 1) = m.take k ++ [x] := by
  rw [List.take_succ_eq_append_getElem (by simpa using hk), List.take_set, List.set_eq_of_length_le (by simp; omega)]
  simp
/-- make of so many constants. -/
theorem made_flat (n : Nat) : (madeCells (Value.agg c0.vals).cells (n * 6)).toList = (List.replicate n c0).flatMap fun x => x.vals.toList := by
  apply List.ext_getElem?
  intro i
  by_cases hi : i < n * 6
  · obtain ⟨q, r, rfl, hr⟩ : ∃ q r, i = q * 6 + r ∧ r < 6 := ⟨i / 6, i % 6, by omega, by omega⟩
    have hq : q < n := by omega
    rw [cells_at (List.replicate n c0) q r (by simpa using hq) hr]
    have eg : gc (List.replicate n c0) q = c0 := by simp [gc, hq]
    rw [eg]
    have hm : (q * 6 + r) % 6 = r := by omega
    have hc : (Value.agg c0.vals).cells = c0.vals := rfl
    rw [hc]
    have hs : c0.vals.size = 6 := rfl
    simp [madeCells, hi]
    rw [hs, hm]
    match r, hr with
    | 0, _ => rfl
    | 1, _ => rfl
    | 2, _ => rfl
    | 3, _ => rfl
    | 4, _ => rfl
    | 5, _ => rfl
  · rw [List.getElem?_eq_none (by simp [madeCells]; omega), List.getElem?_eq_none (by rw [cells_len]; simpa using hi)]
theorem run_mkC (n : Nat) (hn : n ≤ 4096) : ∃ M : Array Value, M.toList = ((List.replicate n c0).flatMap fun x => x.vals.toList) ∧
    ∀ W : World, (Instr.makeSlice 24 (.int .i64 n) (.int .i64 n)).run Tryd.prog W = .ok (.slice (some ⟨W.heap.size, 0, none⟩) n n) (W.alloc (.cells M 44)) := by
  obtain ⟨i, hi1, hi2, hi3, hi4⟩ := info_parts infoC
  refine ⟨_, made_flat n, fun W => ?_⟩
  have h := run_make (P := Tryd.prog) W 24 44 i (.agg c0.vals) Tryd.underlying24 hi1 hi2 .i64 .i64 (n : Int) (n : Int) (by omega) (by omega) (by rw [hi4]; omega) (by omega)
  rw [hi3] at h
  simpa using h
end Go.Proofs.YtecgldkhjgcffaaDoor
