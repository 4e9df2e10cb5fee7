/- The document's own Proto, walked. -/
import Derived.Test.YtibcaienaejgpaaDescY
namespace Go.Proofs.Ytibcaienaejgpaa
open Go.RowKit
set_option linter.unusedVariables false

theorem protoZ_args {l q : List UInt8} {ts : List Ty} (h : argsZ l = some (ts, q)) : protoZ l = if q = [86] then (⟨t0, ts⟩, 0) else if (typeZ q).2 = 0 then (⟨(typeZ q).1, ts⟩, 0) else (⟨t0, []⟩, 50) := by
  match l with
  | [] => cases h
  | c :: r =>
    rw [argsZ] at h
    unfold protoZ
    simp only
    by_cases hc : c = 40
    · rw [if_pos hc] at h ⊢
      rw [h]
    · rw [if_neg hc] at h
      cases h
/-- A proto's block of the call's own, with what is taken so far. -/
def BlkV (w : World) (g : Nat) (v : Value) : Prop := w.heap[g]? = some (.cells #[.int .i64 0, .string ⟨#[]⟩, v] 29 (0, 0))
theorem BlkV.ext {w w' : World} {g : Nat} {v : Value} (h : BlkV w g v) (he : Ext w w') : BlkV w' g v := (he.block g (lt_of_get h)).trans h
theorem BlkV.kept {w w' : World} {g : Nat} {v : Value} {r : Option Nat} (h : BlkV w g v) (hw : w.grownBy w' r) (hr : ∀ k, r = some k → k ≠ g) : BlkV w' g v := (hw.block g (lt_of_get h) (fun e => hr g e.symm rfl)).trans h
theorem BlkV.cells {w : World} {g : Nat} {v : Value} (h : BlkV w g v) : w.cell? ⟨g, 0, none⟩ = some (.int .i64 0) ∧ w.cell? ⟨g, 1, none⟩ = some (.string ⟨#[]⟩) ∧ w.cell? ⟨g, 2, none⟩ = some v ∧ w.frozen? ⟨g, 0, none⟩ = false ∧ w.frozen? ⟨g, 1, none⟩ = false ∧ w.frozen? ⟨g, 2, none⟩ = false :=
  ⟨by rw [cell_of_row w g 0 _ _ (0, 0) h]; rfl, by rw [cell_of_row w g 1 _ _ (0, 0) h]; rfl, by rw [cell_of_row w g 2 _ _ (0, 0) h]; rfl, by simp [World.frozen?, show w.heap[g]? = _ from h], by simp [World.frozen?, show w.heap[g]? = _ from h], by simp [World.frozen?, show w.heap[g]? = _ from h]⟩
theorem BlkV.put {w : World} {g : Nat} {v : Value} (h : BlkV w g v) (u : Value) : BlkV (w.setCell ⟨g, 2, none⟩ u) g u := by
  have h1 := heap_setCell_same w g 2 _ 29 u h
  unfold BlkV
  rw [h1]
  rfl
theorem BlkP.setOther {w : World} {g R : Nat} (h : BlkP w R) (hne : g ≠ R) (j : Nat) (u : Value) : BlkP (w.setCell ⟨g, j, none⟩ u) R := by
  unfold BlkP
  rw [Below.heap_setCell w ⟨g, j, none⟩ u R (fun e => hne e.symm)]
  exact h
theorem heap_two (w : World) (o p : Obj) : ((w.alloc o).alloc p).heap[w.heap.size + 1]? = some p := by
  have := heap_alloc_new (w.alloc o) p
  simpa using this
theorem takeT_le {l : List UInt8} (h : (takeT l).2 ≠ 0) : (takeT l).2 ≤ l.length := by
  obtain ⟨_, h2, h3⟩ := take_back h
  have := congrArg List.length h2
  rw [List.length_append, ← h3] at this
  omega
theorem takeT_ok {l : List UInt8} (h : (takeT l).2 ≠ 0) : (takeT l).1.ok := by
  obtain ⟨h1, _, _⟩ := take_back h
  have h2 := okT_name h1
  refine ⟨?_, by omega⟩
  unfold okT at h1
  split at h1
  · rename_i h3
    unfold I64
    omega
  · split at h1
    · rename_i h3
      unfold I64
      omega
    · cases h1
theorem Come.take {L l : List UInt8} {ts : List Ty} (h : Come L ts l false) (hs : skipZ 41 l = (l, false)) (hn : ¬ ts.length = 16) (ht : (takeT l).2 ≠ 0) : Come L (ts ++ [(takeT l).1]) (l.drop (takeT l).2) false := by
  have := h.next hs hn
  rcases typZ_take l with ⟨g1, _⟩ | ⟨_, g2⟩
  · exact absurd g1 ht
  · rw [g2] at this
    exact this
theorem Come.bad {L l : List UInt8} {ts : List Ty} (h : Come L ts l false) (hs : skipZ 41 l = (l, false)) (ht : (takeT l).2 = 0) : argsZ L = none := by
  rcases h with ⟨_, h1, h2⟩ | ⟨h, _⟩
  · rw [h2, prs_bad hs ht]
    rfl
  · cases h
theorem Come.full' {L l : List UInt8} {ts : List Ty} (h : Come L ts l false) (hs : skipZ 41 l = (l, false)) (hn : ts.length = 16) : argsZ L = none := (h.full hs hn l).wrong
set_option maxHeartbeats 4000000 in
set_option maxRecDepth 100000 in
theorem refProto_any (l : List UInt8) (hl : l.length ≤ 140737488351232) (w : World) :
    Calls Try.prog 15 #[.string (bs l)] w (ProtoAns l w) := by
  have hsz : (bs l).size = l.length := rfl
  match l, hl, hsz with
  | [], hl, hsz =>
    have HZ := Lib.hid (show protoZ [] = (⟨t0, []⟩, 50) from rfl)
    go_enter Try.func15, Try.ntmps15
    go_wp2
    refine bodyPost_ret (v := .tuple #[.agg #[.int .i64 0, .string ⟨#[]⟩, .slice none 0 0], .int .i64 50]) (by simp [results, Try.results15, go_sem]; try first | exact ⟨rfl, rfl⟩ | rfl) rfl ?_
    unfold ProtoAns
    rw [HZ.out]
    exact ⟨_, rfl, RowT.nil _, (Ext.refl w).alloc _⟩
  | c :: r, hl, hsz =>
    have hsz1 : (bs (c :: r)).size = r.length + 1 := rfl
    have i0 : ∀ W, (Instr.index 9 (.string (bs (c :: r))) (.int .i64 0)).run Try.prog W = .ok (.int .u8 c.toNat) W := fun W => run_bs (k := 0) (by simp) rfl W
    by_cases hc : c = 40
    · subst hc
      have hcm := Lib.hid (Come.start (skipZ_hit 40 r))
      obtain ⟨L, hL⟩ : ∃ L, L = (40 : UInt8) :: r := ⟨_, rfl⟩
      have hLl : L.length = r.length + 1 := by rw [hL]; rfl
      have hdr : L.drop 1 = r := by rw [hL]; rfl
      rw [← hL] at hcm hl hsz1 i0 ⊢
      rw [← hdr] at hcm
      have i0' : ∀ W, (Instr.index 9 (.string (bs L)) (.int .i64 0)).run Try.prog W = .ok (.int .u8 40) W := i0
      have hszL : (bs L).size = L.length := rfl
      have hL1 : 1 ≤ L.length := by omega
      have HL1 := Lib.hid hLl
      have hb0 : ((L.length : Int) == 0) = false := by rw [beq_eq_false_iff_ne]; omega
      clear hL hdr hsz1 hsz i0 hLl
      go_enter Try.func15, Try.ntmps15
      go_wp2
      go_loopw [5] (fun i wr => ∃ (k : Nat) (ts : List Ty) (v : Value), k ≤ L.length ∧ i = .int .i64 k ∧ Hid (Come L ts (L.drop k) false) ∧ Hid (OwnT (w.heap.size + 2) wr 23 v ts) ∧ Hid (BlkV wr (w.heap.size + 1) v) ∧ Hid (BlkP wr w.heap.size) ∧ Hid (Ext w wr)) (fun i _ => L.length - (intOf i).toNat)
      case atStart =>
        refine ⟨1, [], .slice none 0 0, hL1, rfl, hcm, Lib.hid (OwnT.nil _ _ _), Lib.hid ?_, Lib.hid ?_, Lib.hid (((Ext.refl w).alloc _).alloc _)⟩
        · have := heap_alloc_new (w.alloc (.cells #[.int .i64 0, .string ⟨#[]⟩, .slice none 0 0] 29)) (.cells #[.int .i64 0, .string ⟨#[]⟩, .slice none 0 0] 29)
          unfold BlkV
          simpa using this
        · exact (BlkP.new w).ext ((Ext.refl _).alloc _)
      case round =>
        obtain ⟨k, ts, v, hk, rfl, Hc, Ho, Hg, HR, Hx⟩ := hrel
        obtain ⟨A, cp, hv, hcn, hcm2, -⟩ := Ho.out.row
        subst hv
        unfold maxLen at hcm2
        have hl16 := Hc.out.len16
        have hgl := lt_of_get Hg.out
        obtain ⟨d0, d1, d2, f0, f1, f2⟩ := Hg.out.cells
        obtain ⟨n, hn⟩ : ∃ n, n = ts.length := ⟨_, rfl⟩
        rw [← hn] at hcn hl16 Ho Hg d2
        have Hn := Lib.hid hn
        clear hn
        by_cases hlt : k < L.length
        · obtain ⟨c, hc⟩ : ∃ c, L[k] = c := ⟨_, rfl⟩
          have hix := fun W => run_bs hlt hc W
          have hdk : L.drop k = c :: L.drop (k + 1) := by rw [← hc]; exact List.drop_eq_getElem_cons hlt
          by_cases h41 : c = 41
          · -- all that is taken stands
            subst h41
            have hz := Hc.out
            rw [hdk] at hz
            have hz2 := hz.done (skipZ_hit _ _)
            obtain ⟨q, hq⟩ : ∃ q, q = L.drop (k + 1) := ⟨_, rfl⟩
            rw [← hq] at hz2
            have hcut : ∀ W, (Instr.slice 9 (.string (bs L)) (some (.int .i64 ((k : Int) + 1))) none none).run Try.prog W = .ok (.string (bs q)) W :=
              fun W => run_tail (x := L.take (k + 1)) (n := q) (by rw [hq]; simp) (by simp; omega) W
            have hZ := protoZ_args hz2
            have hql : q.length ≤ 140737488351232 := by rw [hq]; simp; omega
            have hix' : ∀ W, (Instr.index 9 (.string (bs L)) (.int .i64 k)).run Try.prog W = .ok (.int .u8 41) W := hix
            have hbq := bs_nil q
            obtain ⟨r0, r1, r2, e0, e1, e2⟩ := HR.out.cells
            have HO2 := Lib.hid (fun x y z => ((Ho.out.set_ (R := w.heap.size) (by omega) 0 x).set_ (R := w.heap.size) (by omega) 1 y).set_ (R := w.heap.size) (by omega) 2 z)
            clear hdk hc hz hz2 hq hix
            by_cases h86 : q = [86]
            · rw [if_pos h86] at hZ
              have HZ := Lib.hid hZ
              clear hZ
              subst h86
              go_wp2
              refine bodyPost_ret (v := .tuple #[.agg #[.int .i64 0, .string ⟨#[]⟩, .slice A n cp], .int .i64 0]) (by simp [results, Try.results15, go_sem, r0, r1, r2]; try first | exact ⟨rfl, rfl⟩ | rfl) rfl ?_
              unfold ProtoAns
              rw [HZ.out]
              exact ⟨_, rfl, (HO2.out _ _ _).row, Ext.set_ (Ext.set_ (Ext.set_ Hx.out (Nat.le_refl _) _) (Nat.le_refl _) _) (Nat.le_refl _) _⟩
            · rw [if_neg h86] at hZ
              have hqe : (q == [86]) = false := by simpa using h86
              have hT := fun W => refType_any q hql W
              rcases typeZ_err q with he | he
              · rw [if_pos he] at hZ
                have HZ := Lib.hid hZ
                rw [he] at hT
                obtain ⟨X, hX⟩ : ∃ X, X = (typeZ q).1 := ⟨_, rfl⟩
                rw [← hX] at hT HZ
                unfold Ty.vals at hT
                have HT := Lib.hid hT
                clear hT hZ h86 he hX hql
                go_wp2_with fail
                refine (HT.out _).mono ?_
                rintro e w5 ⟨rfl, x5⟩
                have Hg5 := Lib.hid (Hg.out.ext x5)
                have HR5 := Lib.hid (HR.out.ext x5)
                have Hx5 := Lib.hid (Hx.out.trans x5)
                have Ho5 := Lib.hid (Ho.out.ext x5)
                clear d0 d1 d2 f0 f1 f2 r0 r1 r2 e0 e1 e2 x5 HO2
                obtain ⟨d0, d1, d2, f0, f1, f2⟩ := Hg5.out.cells
                obtain ⟨r0, r1, r2, e0, e1, e2⟩ := HR5.out.cells
                have hlg : w.heap.size + 1 < w5.heap.size := lt_of_get Hg5.out
                have hlR : w.heap.size < w5.heap.size := by omega
                have hng : ¬ w.heap.size + 1 = w5.heap.size := by omega
                have hnR : ¬ w.heap.size = w5.heap.size := by omega
                go_wp2
                refine bodyPost_ret (v := .tuple #[.agg #[.int .i64 X.k, .string (bs X.s), .slice A n cp], .int .i64 0]) (by simp [results, Try.results15, go_sem, r0, r1, r2, hlR]; try first | exact ⟨rfl, rfl⟩ | rfl) rfl ?_
                unfold ProtoAns
                rw [HZ.out]
                have h1 := (((((Ho5.out.set_ (R := w.heap.size + 1) (by omega) 0 (.int .i64 X.k)).set_ (R := w.heap.size + 1) (by omega) 1 (.string (bs X.s))).set_ (R := w.heap.size) (by omega) 0 (.int .i64 X.k)).set_ (R := w.heap.size) (by omega) 1 (.string (bs X.s))).set_ (R := w.heap.size) (by omega) 2 (.slice A n cp))
                exact ⟨_, rfl, h1.row.ext ((Ext.refl _).alloc _), Ext.alloc (Ext.set_ (Ext.set_ (Ext.set_ (Ext.set_ (Ext.set_ Hx5.out (Nat.le_succ _) _) (Nat.le_succ _) _) (Nat.le_refl _) _) (Nat.le_refl _) _) (Nat.le_refl _) _) _⟩
              · have he2 : (typeZ q).2 = 50 := by rw [he]
                rw [if_neg (by rw [he2]; decide)] at hZ
                have HZ := Lib.hid hZ
                rw [he] at hT
                unfold Ty.vals at hT
                simp only [t0] at hT
                have HT := Lib.hid hT
                clear hT hZ h86 he hql he2
                go_wp2_with fail
                refine (HT.out _).mono ?_
                rintro e w5 ⟨rfl, x5⟩
                have HR5 := Lib.hid (HR.out.ext x5)
                have Hx5 := Lib.hid (Hx.out.trans x5)
                clear d0 d1 d2 f0 f1 f2 r0 r1 r2 e0 e1 e2 x5 HO2
                obtain ⟨r0, r1, r2, e0, e1, e2⟩ := HR5.out.cells
                have hlR : w.heap.size < w5.heap.size := lt_of_get HR5.out
                have hnR : ¬ w.heap.size = w5.heap.size := by omega
                go_wp2
                refine bodyPost_ret (v := .tuple #[.agg #[.int .i64 0, .string ⟨#[]⟩, .slice none 0 0], .int .i64 50]) (by simp [results, Try.results15, go_sem, r0, r1, r2, hlR]; try first | exact ⟨rfl, rfl⟩ | rfl) rfl ?_
                unfold ProtoAns
                rw [HZ.out]
                exact ⟨_, rfl, RowT.nil _, Ext.alloc (Ext.set_ (Ext.set_ (Ext.set_ Hx5.out (Nat.le_refl _) _) (Nat.le_refl _) _) (Nat.le_refl _) _) _⟩
          · have hs41 := skipZ_miss (m := 41) (c := c) h41 (L.drop (k + 1))
            rw [← hdk] at hs41
            have hb41 : ((c.toNat : Int) != 41) = true := by
              rw [bne_iff_ne]
              intro e
              exact h41 (UInt8.toNat_inj.1 (by have : (41 : UInt8).toNat = 41 := rfl; omega))
            obtain ⟨q, hq⟩ : ∃ q, q = L.drop k := ⟨_, rfl⟩
            rw [← hq] at Hc hs41
            have hql : q.length ≤ 140737488351232 := by rw [hq]; simp; omega
            have hqk : k + q.length = L.length := by rw [hq]; simp; omega
            have hcut : ∀ W, (Instr.slice 9 (.string (bs L)) (some (.int .i64 k)) none none).run Try.prog W = .ok (.string (bs q)) W :=
              fun W => run_tail (x := L.take k) (n := q) (by rw [hq]; simp) (by simp; omega) W
            have hT := fun W => refTake_any q hql W
            unfold TakeAns at hT
            have H41 := Lib.hid hs41
            have Hq := Lib.hid hq
            have Hqk := Lib.hid hqk
            clear hdk hc h41 hs41 hq hql hqk
            by_cases h0 : (takeT q).2 = 0
            · have HZ := Lib.hid (protoZ_none (Hc.out.bad H41.out h0))
              obtain ⟨X, hX⟩ : ∃ X, X = takeT q := ⟨_, rfl⟩
              rw [← hX] at hT h0
              rw [h0] at hT
              unfold Ty.vals at hT
              have HT := Lib.hid hT
              clear hT h0 hX
              go_wp2_with fail
              refine (HT.out _).mono ?_
              rintro e w5 ⟨rfl, x5⟩
              have HR5 := Lib.hid (HR.out.ext x5)
              have Hx5 := Lib.hid (Hx.out.trans x5)
              clear d0 d1 d2 f0 f1 f2 x5
              obtain ⟨r0, r1, r2, e0, e1, e2⟩ := HR5.out.cells
              have hlR : w.heap.size < w5.heap.size := lt_of_get HR5.out
              have hnR : ¬ w.heap.size = w5.heap.size := by omega
              go_wp2
              refine bodyPost_ret (v := .tuple #[.agg #[.int .i64 0, .string ⟨#[]⟩, .slice none 0 0], .int .i64 50]) (by simp [results, Try.results15, go_sem, r0, r1, r2, hlR]; try first | exact ⟨rfl, rfl⟩ | rfl) rfl ?_
              unfold ProtoAns
              rw [HZ.out]
              exact ⟨_, rfl, RowT.nil _, Ext.alloc (Ext.set_ (Ext.set_ (Ext.set_ Hx5.out (Nat.le_refl _) _) (Nat.le_refl _) _) (Nat.le_refl _) _) _⟩
            · by_cases h16 : n = 16
              · have HZ := Lib.hid (protoZ_none (Hc.out.full' H41.out (by rw [← Hn.out]; exact h16)))
                obtain ⟨X, hX⟩ : ∃ X, X = takeT q := ⟨_, rfl⟩
                rw [← hX] at hT h0
                unfold Ty.vals at hT
                have HT := Lib.hid hT
                have hb0' : ((X.2 : Int) == 0) = false := by rw [beq_eq_false_iff_ne]; omega
                have hb16 : ((n : Int) == 16) = true := by rw [beq_iff_eq]; omega
                clear hT h0 hX h16
                go_wp2_with fail
                refine (HT.out _).mono ?_
                rintro e w5 ⟨rfl, x5⟩
                have Hg5 := Lib.hid (Hg.out.ext x5)
                have HR5 := Lib.hid (HR.out.ext x5)
                have Hx5 := Lib.hid (Hx.out.trans x5)
                clear d0 d1 d2 f0 f1 f2 x5
                obtain ⟨d0, d1, d2, f0, f1, f2⟩ := Hg5.out.cells
                obtain ⟨r0, r1, r2, e0, e1, e2⟩ := HR5.out.cells
                have hlg : w.heap.size + 1 < w5.heap.size := lt_of_get Hg5.out
                have hlR : w.heap.size < w5.heap.size := lt_of_get HR5.out
                have hng : ¬ w.heap.size + 1 = w5.heap.size := by omega
                have hnR : ¬ w.heap.size = w5.heap.size := by omega
                go_wp2
                refine bodyPost_ret (v := .tuple #[.agg #[.int .i64 0, .string ⟨#[]⟩, .slice none 0 0], .int .i64 50]) (by simp [results, Try.results15, go_sem, r0, r1, r2, hlR]; try first | exact ⟨rfl, rfl⟩ | rfl) rfl ?_
                unfold ProtoAns
                rw [HZ.out]
                exact ⟨_, rfl, RowT.nil _, Ext.alloc (Ext.set_ (Ext.set_ (Ext.set_ Hx5.out (Nat.le_refl _) _) (Nat.le_refl _) _) (Nat.le_refl _) _) _⟩
              · have HN := Lib.hid (Hc.out.take H41.out (by rw [← Hn.out]; exact h16) h0)
                have hle := takeT_le h0
                have HOK := Lib.hid (takeT_ok h0)
                obtain ⟨X, hX⟩ : ∃ X, X = takeT q := ⟨_, rfl⟩
                rw [← hX] at hT h0 HN hle HOK
                unfold Ty.vals at hT
                have HT := Lib.hid hT
                have hb0' : ((X.2 : Int) == 0) = false := by rw [beq_eq_false_iff_ne]; omega
                have hb16 : ((n : Int) == 16) = false := by rw [beq_eq_false_iff_ne]; omega
                have hXp : 0 < X.2 := by omega
                have hXk : k + X.2 ≤ L.length := by have := Hqk.out; omega
                clear hT h0 hX h16 hle
                go_wp2_with fail
                refine (HT.out _).mono ?_
                rintro e w5 ⟨rfl, x5⟩
                have Hg5 := Lib.hid (Hg.out.ext x5)
                have HR5 := Lib.hid (HR.out.ext x5)
                have Hx5 := Lib.hid (Hx.out.trans x5)
                have Ho5 := Lib.hid (Ho.out.ext x5)
                clear d0 d1 d2 f0 f1 f2 x5
                obtain ⟨d0, d1, d2, f0, f1, f2⟩ := Hg5.out.cells
                have hlg : w.heap.size + 1 < w5.heap.size := lt_of_get Hg5.out
                have hng : ¬ w.heap.size + 1 = w5.heap.size := by omega
                go_wp2_with (at_builtin; go_loud (refine wpList_appT _ rfl _ _ (w.heap.size + 2) 27 23 _ 24 rfl Try.underlying27 infoT rfl (by omega) _ ts rfl (Ho5.out.ext (((Ext.refl _).alloc _).alloc _)) _ [X.1] rfl (RowT.one (T := 23) (heap_two _ _ _) HOK.out) (by rw [← Hn.out]; simp only [List.length_cons, List.length_nil]; omega) (by simp; omega) ?_); intro v7 w7 ho7 hg7 hb7; have Hg7 := Lib.hid ((Hg5.out.ext (((Ext.refl _).alloc _).alloc _)).kept hg7 (fun k hk => by have := Ho5.out.low k hk; omega)); obtain ⟨A7, c7, hv7, hc71, hc72, -⟩ := ho7.row; rw [List.length_append, List.length_singleton] at hv7; subst hv7; obtain ⟨g0, g1, g2, gf0, gf1, gf2⟩ := Hg7.out.cells)
                have HR7 := Lib.hid ((HR5.out.ext (((Ext.refl _).alloc _).alloc _)).kept hg7 (fun k hk => by have := Ho5.out.low k hk; omega))
                have Hx7 := Lib.hid (((Hx5.out.alloc _).alloc _).grown hg7 (fun k hk => by have := Ho5.out.low k hk; omega))
                have HO7 := Lib.hid ho7
                clear hg7 hb7 ho7
                go_wp2
                refine ⟨⟨k + X.2, ts ++ [X.1], _, hXk, by go_num, Lib.hid ?_, Lib.hid (HO7.out.set_ (by omega) 2 _), Lib.hid (Hg7.out.put _), Lib.hid (HR7.out.setOther (by omega) 2 _), Lib.hid (Ext.set_ Hx7.out (Nat.le_succ _) _)⟩, by simp [intOf]; omega⟩
                rw [← List.drop_drop, ← Hq.out]
                exact HN.out
        · obtain rfl : k = L.length := by omega
          have HZ := Lib.hid (protoZ_none (Come.bad (l := []) (by have := Hc.out; rw [List.drop_length] at this; exact this) rfl rfl))
          obtain ⟨r0, r1, r2, e0, e1, e2⟩ := HR.out.cells
          have hbb : ((L.length : Int) == (L.length : Int)) = true := by simp
          go_wp2
          refine bodyPost_ret (v := .tuple #[.agg #[.int .i64 0, .string ⟨#[]⟩, .slice none 0 0], .int .i64 50]) (by simp [results, Try.results15, go_sem, r0, r1, r2]; try first | exact ⟨rfl, rfl⟩ | rfl) rfl ?_
          unfold ProtoAns
          rw [HZ.out]
          exact ⟨_, rfl, RowT.nil _, Ext.set_ (Ext.set_ (Ext.set_ Hx.out (Nat.le_refl _) _) (Nat.le_refl _) _) (Nat.le_refl _) _⟩
    · have hb : ((c.toNat : Int) != 40) = true := by
        rw [bne_iff_ne]
        intro e
        exact hc (UInt8.toNat_inj.1 (by have : (40 : UInt8).toNat = 40 := rfl; omega))
      have HZ := Lib.hid (show protoZ (c :: r) = (⟨t0, []⟩, 50) from protoZ_none (by rw [argsZ, if_neg hc]))
      clear hc
      go_enter Try.func15, Try.ntmps15
      go_wp2
      refine bodyPost_ret (v := .tuple #[.agg #[.int .i64 0, .string ⟨#[]⟩, .slice none 0 0], .int .i64 50]) (by simp [results, Try.results15, go_sem]; try first | exact ⟨rfl, rfl⟩ | rfl) rfl ?_
      unfold ProtoAns
      rw [HZ.out]
      exact ⟨_, rfl, RowT.nil _, (Ext.refl w).alloc _⟩
end Go.Proofs.Ytibcaienaejgpaa
