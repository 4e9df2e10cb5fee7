/- Several texts of this proof, one behind the other. -/
import Derived.Test.YtokmeomjdpfknaaGreatDoorZbN
import Derived.Test.YtokmeomjdpfknaaGreatDoorZbI
import Derived.Deep.RegionHeld3
import Derived.Deep.CutRange
import Derived.BigQuiet
import Derived.Deep.QuietTactic
namespace Go.Proofs.YtokmeomjdpfknaaGreatDoor
open Go.RowKit
set_option linter.unusedVariables false

theorem step_store_row {P : Program} {ops : Array Oper} {o : Oper} {a : Act} {w : World} {K : Act → World → Prop} {Q : Exit → Act → World → Prop} {E : Prop} (hgd : o.guard = none) (ty : TypeId) (x y : Operand) (hop : o.op = .store ty x y)
    (g : Nat) (cells : Array Value) (hx : a.eval x = .pointer (some ⟨g, 0, none⟩)) (hy : a.eval y = .agg cells) (t : TypeId) (old : Array Value) (hg : w.heap[g]? = some (.cells old t (0, 0))) (hi : (P.info? ty).map (·.size) = some cells.size)
    (hold : old.size = cells.size) (h1 : cells.all (·.oneCell') = true) (h : K (a.put o.dst undef) (w.setRow g cells)) : if Region.wanted o (yielded ops a.tmps) = true then Oper.wp P o a w K Q else E := by
  have hw : Region.wanted o (yielded ops a.tmps) = true := by simp [Region.wanted, hgd]
  rw [if_pos hw]
  exact wp_store_row ty x y hop g cells hx hy t old hg hi hold h1 h
theorem room6 {w W : World} {g : Nat} {a b c d e f : Value} {T : TypeId} (hg : w.heap[g]? = some (.cells #[a, b, c, d, e, f] T (0, 0))) (x : Ext w W) :
    W.cell? ⟨g, 0, none⟩ = some a ∧ W.cell? ⟨g, 1, none⟩ = some b ∧ W.cell? ⟨g, 2, none⟩ = some c ∧ W.cell? ⟨g, 3, none⟩ = some d ∧ W.cell? ⟨g, 4, none⟩ = some e ∧ W.cell? ⟨g, 5, none⟩ = some f := by
  have h := (x.block g (lt_of_get hg)).trans hg
  refine ⟨?_, ?_, ?_, ?_, ?_, ?_⟩ <;> (rw [cell_of_row W g _ _ _ (0, 0) h]; rfl)
def Z6 : Array Value := #[.int .i64 0, .int .i64 0, .int .i64 0, .int .i64 0, .int .i64 0, .int .i64 0]
theorem room_new {B : World} (W : World) (e : Ext B W) : B.heap.size ≤ W.heap.size ∧ (W.alloc (.cells Z6 289)).heap[W.heap.size]? = some (.cells Z6 289 (0, 0)) := ⟨e.size, heap_alloc_new W _⟩
theorem room_ext {n g : Nat} {W W' : World} {o : Obj} (h : n ≤ g ∧ W.heap[g]? = some o) (x : Ext W W') : n ≤ g ∧ W'.heap[g]? = some o := ⟨h.1, (x.block g (lt_of_get h.2)).trans h.2⟩
set_option maxRecDepth 100000 in
set_option maxHeartbeats 4000000 in
theorem mayBe_in (x : In) (v1 v2 : Value) (w : World) (h1 : Row w .i64 v1 x.to) (h2 : Row w .i64 v2 x.ks) (c1 : inOp x.o = true) (c2 : inR 0 8191 x.a = true) :
    Calls Tryz.prog 258 #[.agg (x.vals v1 v2)] w fun e w' => e = .returned (.bool (mayP x)) ∧ Ext w w' := by
  have H1 := Lib.hid h1
  have H2 := Lib.hid h2
  obtain ⟨A1, k1, rfl, hc1, hm1, -⟩ := h1
  obtain ⟨A2, k2, rfl, hc2, hm2, -⟩ := h2
  unfold maxLen at hm1 hm2
  have HB := Lib.hid (fun W e => boxed (w := w) (W := W) (x := x) (v1 := .slice A1 x.to.length k1) (v2 := .slice A2 x.ks.length k2) e)
  obtain ⟨d0, d1, d2, d3, d4, d5⟩ := HB.out _ (Ext.refl _)
  unfold In.vals at HB d0 d1 d2 d3 d4 d5 ⊢
  clear d0 d2 d3 d4 d5
  have C1 := Lib.hid c1
  have C2 := Lib.hid c2
  clear c1 c2
  have hz := shapeZ_le x.o
  obtain ⟨z, hzz⟩ : ∃ z, shapeZ x.o = z := ⟨_, rfl⟩
  rw [hzz] at hz
  have HZ := Lib.hid hzz
  clear hzz
  obtain ⟨r0, hr0⟩ : ∃ r, rnl z = r := ⟨_, rfl⟩
  obtain ⟨r1, hr1⟩ : ∃ r, rnh z = r := ⟨_, rfl⟩
  obtain ⟨r2, hr2⟩ : ∃ r, rml z = r := ⟨_, rfl⟩
  obtain ⟨r3, hr3⟩ : ∃ r, rmh z = r := ⟨_, rfl⟩
  obtain ⟨r4, hr4⟩ : ∃ r, rtl z = r := ⟨_, rfl⟩
  obtain ⟨r5, hr5⟩ : ∃ r, rth z = r := ⟨_, rfl⟩
  have hi := fun W => run_index_rooms W z hz.1 hz.2
  rw [hr0, hr1, hr2, hr3, hr4, hr5] at hi
  have HR := Lib.hid (And.intro hr0 (And.intro hr1 (And.intro hr2 (And.intro hr3 (And.intro hr4 hr5)))))
  clear hr0 hr1 hr2 hr3 hr4 hr5
  go_enter Tryz.func258, Tryz.ntmps258
  go_wp2_with (first
    | (go_at_call 238; refine (lineOf_any _ _).mono ?_; rintro e w1 ⟨rfl, x1⟩; rw [C1.out, HZ.out]; obtain ⟨d10, d11, d12, d13, d14, d15⟩ := HB.out _ x1))
  have E0 := HB.out _ ((x1.alloc (.cells #[.string (nameZ x.o), .int .i64 z, .bool (endsZ x.o)] 261)).drew)
  obtain ⟨d20, d21, d22, d23, d24, d25⟩ := E0
  go_region_held3 (fun w' => w'.cell? ⟨w.heap.size, 0, none⟩ = some (.int .i64 x.a)) (first | assumption | go_keep) (first
      | (go_at_call 274; ((with_reducible refine (places_ext _).mono ?_); rintro e w2 ⟨rfl, x2⟩); have X2 := x1.trans (((Ext.refl _).alloc _).drew.trans x2); obtain ⟨d20, d21, d22, d23, d24, d25⟩ := HB.out _ X2)
      | (go_at_call 275; ((with_reducible refine (has_any _ _ _ _).mono ?_); rintro e w3 ⟨rfl, x3⟩; rw [C2.out]); have X3 := X2.trans x3; obtain ⟨d30, d31, d32, d33, d34, d35⟩ := HB.out _ X3))
  clear d1 d10 d11 d12 d13 d14 d15 d20 d21 d22 d23 d24 d25
  go_wp2_with fail
  go_cut [5] from 21 to 25 (fun r wr => ∃ g : Nat, r = .pointer (some ⟨g, 0, none⟩) ∧ w.heap.size < g ∧ Ext (w.alloc (.cells #[.int .i64 x.a, .int .i64 x.o, .int .i64 x.n, .int .i64 x.m, .slice A1 x.to.length k1, .slice A2 x.ks.length k2] 182)) wr ∧ wr.heap[g]? = some (.cells #[.int .i64 r0, .int .i64 r1, .int .i64 r2, .int .i64 r3, .int .i64 r4, .int .i64 r5] 289 (0, 0)))
  case first =>
    refine wp_region_noPanic ?_
    refine wp_region_held_drew (S := fun w' => Ext (w.alloc (.cells #[.int .i64 x.a, .int .i64 x.o, .int .i64 x.n, .int .i64 x.m, .slice A1 x.to.length k1, .slice A2 x.ks.length k2] 182)) w') (by kernel_rfl) X3.drew (fun e0 => ?_)
    refine wpAnyH_take (i := 1) (v := ?_) rfl (by kernel_rfl) (by kernel_rfl) (by kernel_rfl) (fun _ _ _ h => h) (Or.inl ⟨by rfl, ?_⟩) e0 ?_
    rotate_left
    · intro w' hw'
      go_simp
      try with_reducible rfl
    refine wpAnyH_take (i := 2) (v := ?_) rfl (by kernel_rfl) (by kernel_rfl) (by kernel_rfl) (fun _ _ _ h => h) (Or.inl ⟨by rfl, ?_⟩) e0 ?_
    rotate_left
    · intro w' hw'
      have hc := (HB.out _ hw').2.1
      go_simp
      try with_reducible rfl
    refine wpAnyH_ready (rs := [0, 5]) (by kernel_rfl) (by simp) ?_
    refine AllReadyH.cons rfl (fun K hK => ?_) ?_
    · skip
      refine step_call rfl 276 _ _ rfl #[] (by simp [go_sem]) (by simp [go_sem]) ?_
      refine (rooms_any _).mono ?_; rintro e w3 ⟨rfl, x2⟩; refine ⟨_, rfl, ?_⟩
      refine hK.out _ _ (e0.trans x2) (fun e1 => ?_)
      clear hK K
      refine wpAnyH_ready (rs := [3, 5]) (by kernel_rfl) (by simp) ?_
      refine AllReadyH.cons rfl (fun K hK => ?_) ?_
      · skip
        refine step_call rfl 267 _ _ rfl #[.int .i64 x.o] (by simp [go_sem]) (by simp [go_sem]) ?_
        refine (Shape_any _ _).mono ?_; rintro e w6 ⟨rfl, x5⟩; rw [HZ.out]; refine ⟨_, rfl, ?_⟩
        refine hK.out _ _ (e1.trans x5) (fun e4 => ?_)
        clear hK K
        refine wpAnyH_take (i := 4) (v := ?_) rfl (by kernel_rfl) (by kernel_rfl) (by kernel_rfl) (fun _ _ _ h => h) (Or.inl ⟨by rfl, ?_⟩) e4 ?_
        rotate_left
        · intro w' hw'
          go_simp
          try with_reducible rfl
        refine wpAnyH_ready (rs := [5]) (by kernel_rfl) (by simp) ?_
        refine AllReadyH.cons rfl (fun K hK => ?_) ?_
        · skip
          go_simp
          have l9 := e4.size
          have g8 := room_new _ e4
          refine hK.out _ _ (e4.alloc _) (fun e7 => ?_)
          clear hK K
          refine wpAnyH_ready (rs := [6]) (by kernel_rfl) (by simp) ?_
          refine AllReadyH.cons rfl (fun K hK => ?_) ?_
          · refine step_store_row rfl _ _ _ rfl _ #[.int .i64 r0, .int .i64 r1, .int .i64 r2, .int .i64 r3, .int .i64 r4, .int .i64 r5] rfl rfl 289 Z6 (id g8).2 (by kernel_rfl) rfl (by kernel_rfl) ?_
            refine hK.out _ _ (e7.setRow_ (id g8).1 _) (fun e10 => ?_)
            clear hK K
            refine wpAnyH_done (by kernel_rfl) ?_ _
            refine NoPanic.normal ?_
            go_wp2_with fail
            go_meet
            exact ⟨_, rfl, (by have := (id g8).1; simp at this; omega), e10, setRow_heap _ _ Z6 _ _ _ (id g8).2⟩
          · exact AllReadyH.nil
        · exact AllReadyH.nil
      refine AllReadyH.cons rfl (fun K hK => ?_) ?_
      · skip
        go_simp
        have l13 := e1.size
        have g12 := room_new _ e1
        refine hK.out _ _ (e1.alloc _) (fun e11 => ?_)
        clear hK K
        refine wpAnyH_ready (rs := [3]) (by kernel_rfl) (by simp) ?_
        refine AllReadyH.cons rfl (fun K hK => ?_) ?_
        · skip
          refine step_call rfl 267 _ _ rfl #[.int .i64 x.o] (by simp [go_sem]) (by simp [go_sem]) ?_
          refine (Shape_any _ _).mono ?_; rintro e w16 ⟨rfl, x15⟩; rw [HZ.out]; refine ⟨_, rfl, ?_⟩
          refine hK.out _ _ (e11.trans x15) (fun e14 => ?_)
          clear hK K
          refine wpAnyH_take (i := 4) (v := ?_) rfl (by kernel_rfl) (by kernel_rfl) (by kernel_rfl) (fun _ _ _ h => h) (Or.inl ⟨by rfl, ?_⟩) e14 ?_
          rotate_left
          · intro w' hw'
            go_simp
            try with_reducible rfl
          refine wpAnyH_ready (rs := [6]) (by kernel_rfl) (by simp) ?_
          refine AllReadyH.cons rfl (fun K hK => ?_) ?_
          · refine step_store_row rfl _ _ _ rfl _ #[.int .i64 r0, .int .i64 r1, .int .i64 r2, .int .i64 r3, .int .i64 r4, .int .i64 r5] rfl rfl 289 Z6 (room_ext g12 x15).2 (by kernel_rfl) rfl (by kernel_rfl) ?_
            refine hK.out _ _ (e14.setRow_ (room_ext g12 x15).1 _) (fun e17 => ?_)
            clear hK K
            refine wpAnyH_done (by kernel_rfl) ?_ _
            refine NoPanic.normal ?_
            go_wp2_with fail
            go_meet
            exact ⟨_, rfl, (by have := (room_ext g12 x15).1; simp at this; omega), e17, setRow_heap _ _ Z6 _ _ _ (room_ext g12 x15).2⟩
          · exact AllReadyH.nil
        · exact AllReadyH.nil
      · exact AllReadyH.nil
    refine AllReadyH.cons rfl (fun K hK => ?_) ?_
    · skip
      go_simp
      have l20 := e0.size
      have g19 := room_new _ e0
      refine hK.out _ _ (e0.alloc _) (fun e18 => ?_)
      clear hK K
      refine wpAnyH_ready (rs := [0]) (by kernel_rfl) (by simp) ?_
      refine AllReadyH.cons rfl (fun K hK => ?_) ?_
      · skip
        refine step_call rfl 276 _ _ rfl #[] (by simp [go_sem]) (by simp [go_sem]) ?_
        refine (rooms_any _).mono ?_; rintro e w23 ⟨rfl, x22⟩; refine ⟨_, rfl, ?_⟩
        refine hK.out _ _ (e18.trans x22) (fun e21 => ?_)
        clear hK K
        refine wpAnyH_ready (rs := [3]) (by kernel_rfl) (by simp) ?_
        refine AllReadyH.cons rfl (fun K hK => ?_) ?_
        · skip
          refine step_call rfl 267 _ _ rfl #[.int .i64 x.o] (by simp [go_sem]) (by simp [go_sem]) ?_
          refine (Shape_any _ _).mono ?_; rintro e w26 ⟨rfl, x25⟩; rw [HZ.out]; refine ⟨_, rfl, ?_⟩
          refine hK.out _ _ (e21.trans x25) (fun e24 => ?_)
          clear hK K
          refine wpAnyH_take (i := 4) (v := ?_) rfl (by kernel_rfl) (by kernel_rfl) (by kernel_rfl) (fun _ _ _ h => h) (Or.inl ⟨by rfl, ?_⟩) e24 ?_
          rotate_left
          · intro w' hw'
            go_simp
            try with_reducible rfl
          refine wpAnyH_ready (rs := [6]) (by kernel_rfl) (by simp) ?_
          refine AllReadyH.cons rfl (fun K hK => ?_) ?_
          · refine step_store_row rfl _ _ _ rfl _ #[.int .i64 r0, .int .i64 r1, .int .i64 r2, .int .i64 r3, .int .i64 r4, .int .i64 r5] rfl rfl 289 Z6 (room_ext (room_ext g19 x22) x25).2 (by kernel_rfl) rfl (by kernel_rfl) ?_
            refine hK.out _ _ (e24.setRow_ (room_ext (room_ext g19 x22) x25).1 _) (fun e27 => ?_)
            clear hK K
            refine wpAnyH_done (by kernel_rfl) ?_ _
            refine NoPanic.normal ?_
            go_wp2_with fail
            go_meet
            exact ⟨_, rfl, (by have := (room_ext (room_ext g19 x22) x25).1; simp at this; omega), e27, setRow_heap _ _ Z6 _ _ _ (room_ext (room_ext g19 x22) x25).2⟩
          · exact AllReadyH.nil
        · exact AllReadyH.nil
      · exact AllReadyH.nil
    · exact AllReadyH.nil
  case rest =>
    obtain ⟨g, rfl, hgg, X4, hgr⟩ := hcut
    have HG := Lib.hid (fun W (e : Ext wc W) => room6 hgr e)
    have X0 := (Ext.refl w).alloc (.cells #[.int .i64 x.a, .int .i64 x.o, .int .i64 x.n, .int .i64 x.m, .slice A1 x.to.length k1, .slice A2 x.ks.length k2] 182)
    have hM : mayP x = (inR r0 r1 x.n && inR r2 r3 x.m && inR r4 r5 x.to.length && x.to.all (inR 0 8191) && numbersP x && keysP x) := by
      obtain ⟨q0, q1, q2, q3, q4, q5⟩ := HR.out
      unfold mayP
      rw [C1.out, C2.out, HZ.out, q0, q1, q2, q3, q4, q5]
      simp only [Bool.true_and]
    have HM := Lib.hid hM
    have hb7 : inR r0 r1 x.n = true → inR r4 r5 x.to.length = true → shapeZ x.o = 6 → (-2147483648 ≤ x.n ∧ x.n ≤ 2147483647) ∧ x.to.length ≤ 1001 := by
      intro e1 e2 e3
      obtain ⟨q0, q1, q2, q3, q4, q5⟩ := HR.out
      have e4 := HZ.out
      rw [e3] at e4
      subst e4
      simp [rnl, rnh, rtl, rth] at q0 q1 q4 q5
      have e5 := of_decide_eq_true e1
      have e6 := of_decide_eq_true e2
      omega
    have HN := Lib.hid (fun W (e : Ext w W) (e1 : inR r0 r1 x.n = true) (e2 : inR r4 r5 x.to.length = true) => numbersMay_any x _ _ W (H1.out.ext e) (H2.out.ext e) (hb7 e1 e2))
    have HK := Lib.hid (fun W (e : Ext w W) => keysMay_any x _ _ W (H1.out.ext e) (H2.out.ext e))
    unfold In.vals at HN HK
    clear hb7 hM hi hgr d30 d31 d32 d33 d34 d35
    obtain ⟨d40, d41, d42, d43, d44, d45⟩ := HB.out _ X4
    obtain ⟨g40, g41, g42, g43, g44, g45⟩ := HG.out _ (Ext.refl _)
    go_wp2_with fail
    by_cases hb : inR r0 r1 x.n = true
    · have B3 := Lib.hid hb
      clear hb
      refine (has_any _ _ _ _).mono ?_
      rintro e w5 ⟨rfl, x5⟩
      rw [B3.out]
      have X5 := X4.trans x5
      have Y5 := x5
      obtain ⟨d30, d31, d32, d33, d34, d35⟩ := HB.out _ X5
      obtain ⟨g30, g31, g32, g33, g34, g35⟩ := HG.out _ Y5
      go_wp2_with fail
      by_cases hb : inR r2 r3 x.m = true
      · have B4 := Lib.hid hb
        clear hb
        refine (has_any _ _ _ _).mono ?_
        rintro e w6 ⟨rfl, x6⟩
        rw [B4.out]
        have X6 := X5.trans x6
        have Y6 := Y5.trans x6
        obtain ⟨d40, d41, d42, d43, d44, d45⟩ := HB.out _ X6
        obtain ⟨g40, g41, g42, g43, g44, g45⟩ := HG.out _ Y6
        go_wp2_with fail
        by_cases hb : inR r4 r5 x.to.length = true
        · have B5 := Lib.hid hb
          clear hb
          refine (has_any _ _ _ _).mono ?_
          rintro e w7 ⟨rfl, x7⟩
          rw [B5.out]
          have X7 := X6.trans x7
          have Y7 := Y6.trans x7
          obtain ⟨d50, d51, d52, d53, d54, d55⟩ := HB.out _ X7
          go_wp2_with fail
          by_cases hb : x.to.all (inR 0 8191) = true
          · have B6 := Lib.hid hb
            clear hb
            refine (allPlaces_any _ _ _ (H1.out.ext (X0.trans X7))).mono ?_
            rintro e w8 ⟨rfl, x8⟩
            rw [B6.out]
            have X8 := X7.trans x8
            have Y8 := Y7.trans x8
            obtain ⟨d60, d61, d62, d63, d64, d65⟩ := HB.out _ X8
            go_wp2_with fail
            by_cases hb : numbersP x = true
            · have B7 := Lib.hid hb
              clear hb
              refine (HN.out _ (X0.trans X8) B3.out B5.out).mono ?_
              rintro e w9 ⟨rfl, x9⟩
              rw [B7.out]
              have X9 := X8.trans x9
              have Y9 := Y8.trans x9
              obtain ⟨d70, d71, d72, d73, d74, d75⟩ := HB.out _ X9
              go_wp2_with fail
              by_cases hb : keysP x = true
              · have B8 := Lib.hid hb
                clear hb
                refine (HK.out _ (X0.trans X9)).mono ?_
                rintro e w10 ⟨rfl, x10⟩
                rw [B8.out]
                have X10 := X9.trans x10
                go_wp2
                go_ret
                exact ⟨ret_bb (by rw [HM.out, B3.out, B4.out, B5.out, B6.out, B7.out, B8.out]; rfl), X0.trans X10⟩
              · have B8 := Lib.hid (show keysP x = false by simpa using hb)
                clear hb
                refine (HK.out _ (X0.trans X9)).mono ?_
                rintro e w10 ⟨rfl, x10⟩
                rw [B8.out]
                have X10 := X9.trans x10
                go_wp2
                go_ret
                exact ⟨ret_bb (by rw [HM.out, B8.out]; simp), X0.trans X10⟩
            · have B7 := Lib.hid (show numbersP x = false by simpa using hb)
              clear hb
              refine (HN.out _ (X0.trans X8) B3.out B5.out).mono ?_
              rintro e w9 ⟨rfl, x9⟩
              rw [B7.out]
              have X9 := X8.trans x9
              have Y9 := Y8.trans x9
              obtain ⟨d70, d71, d72, d73, d74, d75⟩ := HB.out _ X9
              go_wp2
              go_ret
              exact ⟨ret_bb (by rw [HM.out, B7.out]; simp), X0.trans X9⟩
          · have B6 := Lib.hid (show x.to.all (inR 0 8191) = false by simpa using hb)
            clear hb
            refine (allPlaces_any _ _ _ (H1.out.ext (X0.trans X7))).mono ?_
            rintro e w8 ⟨rfl, x8⟩
            rw [B6.out]
            have X8 := X7.trans x8
            have Y8 := Y7.trans x8
            obtain ⟨d60, d61, d62, d63, d64, d65⟩ := HB.out _ X8
            go_wp2
            go_ret
            exact ⟨ret_bb (by rw [HM.out, B6.out]; simp), X0.trans X8⟩
        · have B5 := Lib.hid (show inR r4 r5 x.to.length = false by simpa using hb)
          clear hb
          refine (has_any _ _ _ _).mono ?_
          rintro e w7 ⟨rfl, x7⟩
          rw [B5.out]
          have X7 := X6.trans x7
          have Y7 := Y6.trans x7
          obtain ⟨d50, d51, d52, d53, d54, d55⟩ := HB.out _ X7
          go_wp2
          go_ret
          exact ⟨ret_bb (by rw [HM.out, B5.out]; simp), X0.trans X7⟩
      · have B4 := Lib.hid (show inR r2 r3 x.m = false by simpa using hb)
        clear hb
        refine (has_any _ _ _ _).mono ?_
        rintro e w6 ⟨rfl, x6⟩
        rw [B4.out]
        have X6 := X5.trans x6
        have Y6 := Y5.trans x6
        obtain ⟨d40, d41, d42, d43, d44, d45⟩ := HB.out _ X6
        obtain ⟨g40, g41, g42, g43, g44, g45⟩ := HG.out _ Y6
        go_wp2
        go_ret
        exact ⟨ret_bb (by rw [HM.out, B4.out]; simp), X0.trans X6⟩
    · have B3 := Lib.hid (show inR r0 r1 x.n = false by simpa using hb)
      clear hb
      refine (has_any _ _ _ _).mono ?_
      rintro e w5 ⟨rfl, x5⟩
      rw [B3.out]
      have X5 := X4.trans x5
      have Y5 := x5
      obtain ⟨d30, d31, d32, d33, d34, d35⟩ := HB.out _ X5
      obtain ⟨g30, g31, g32, g33, g34, g35⟩ := HG.out _ Y5
      go_wp2
      go_ret
      exact ⟨ret_bb (by rw [HM.out, B3.out]; simp), X0.trans X5⟩
end Go.Proofs.YtokmeomjdpfknaaGreatDoor
namespace Go.Proofs.YtokmeomjdpfknaaGreatDoor
open Go.RowKit
set_option linter.unusedVariables false

set_option maxRecDepth 100000 in
set_option maxHeartbeats 2000000 in
theorem mayBe_op (x : In) (v1 v2 : Value) (w : World) (h1 : Row w .i64 v1 x.to) (h2 : Row w .i64 v2 x.ks) (c1 : inOp x.o = false) :
    Calls Tryz.prog 258 #[.agg (x.vals v1 v2)] w fun e w' => e = .returned (.bool false) ∧ Ext w w' := by
  obtain ⟨A1, k1, rfl, -⟩ := h1
  obtain ⟨A2, k2, rfl, -⟩ := h2
  have HB := Lib.hid (fun W e => boxed (w := w) (W := W) (x := x) (v1 := .slice A1 x.to.length k1) (v2 := .slice A2 x.ks.length k2) e)
  obtain ⟨d0, d1, d2, d3, d4, d5⟩ := HB.out _ (Ext.refl _)
  unfold In.vals at HB d0 d1 d2 d3 d4 d5 ⊢
  clear d0 d2 d3 d4 d5
  have C1 := Lib.hid c1
  clear c1
  go_enter Tryz.func258, Tryz.ntmps258
  go_wp2_with (first
    | (go_at_call 238; refine (lineOf_any _ _).mono ?_; rintro e w1 ⟨rfl, x1⟩; rw [C1.out]))
  go_quiet (fail)
  go_wp2
  go_ret
  exact ⟨rfl, ((Ext.refl w).alloc _).trans ((x1.alloc _).drewN _)⟩
set_option maxRecDepth 100000 in
set_option maxHeartbeats 2000000 in
theorem mayBe_at (x : In) (v1 v2 : Value) (w : World) (h1 : Row w .i64 v1 x.to) (h2 : Row w .i64 v2 x.ks) (c1 : inOp x.o = true) (c2 : inR 0 8191 x.a = false) :
    Calls Tryz.prog 258 #[.agg (x.vals v1 v2)] w fun e w' => e = .returned (.bool false) ∧ Ext w w' := by
  obtain ⟨A1, k1, rfl, -⟩ := h1
  obtain ⟨A2, k2, rfl, -⟩ := h2
  have HB := Lib.hid (fun W e => boxed (w := w) (W := W) (x := x) (v1 := .slice A1 x.to.length k1) (v2 := .slice A2 x.ks.length k2) e)
  obtain ⟨d0, d1, d2, d3, d4, d5⟩ := HB.out _ (Ext.refl _)
  unfold In.vals at HB d0 d1 d2 d3 d4 d5 ⊢
  clear d0 d2 d3 d4 d5
  have C1 := Lib.hid c1
  have C2 := Lib.hid c2
  clear c1 c2
  go_enter Tryz.func258, Tryz.ntmps258
  go_wp2_with (first
    | (go_at_call 238; refine (lineOf_any _ _).mono ?_; rintro e w1 ⟨rfl, x1⟩; rw [C1.out]; obtain ⟨d10, d11, d12, d13, d14, d15⟩ := HB.out _ x1))
  have E0 := HB.out _ ((x1.alloc (.cells #[.string (nameZ x.o), .int .i64 (shapeZ x.o), .bool (endsZ x.o)] 261)).drew)
  obtain ⟨d20, d21, d22, d23, d24, d25⟩ := E0
  go_region_held3 (fun w' => w'.cell? ⟨w.heap.size, 0, none⟩ = some (.int .i64 x.a)) (first | assumption | go_keep) (first
      | (go_at_call 274; ((with_reducible refine (places_ext _).mono ?_); rintro e w2 ⟨rfl, x2⟩); have X2 := x1.trans (((Ext.refl _).alloc _).drew.trans x2); obtain ⟨d20, d21, d22, d23, d24, d25⟩ := HB.out _ X2)
      | (go_at_call 275; ((with_reducible refine (has_any _ _ _ _).mono ?_); rintro e w3 ⟨rfl, x3⟩; rw [C2.out]); have X3 := X2.trans x3; obtain ⟨d30, d31, d32, d33, d34, d35⟩ := HB.out _ X3))
  go_wp2
  go_ret
  exact ⟨rfl, ((Ext.refl w).alloc _).trans X3⟩
theorem mayBe_any (x : In) (v1 v2 : Value) (w : World) (h1 : Row w .i64 v1 x.to) (h2 : Row w .i64 v2 x.ks) :
    Calls Tryz.prog 258 #[.agg (x.vals v1 v2)] w fun e w' => e = .returned (.bool (mayI x)) ∧ Ext w w' := by
  rw [← mayP_eq]
  by_cases c1 : inOp x.o = true
  · by_cases c2 : inR 0 8191 x.a = true
    · exact mayBe_in x v1 v2 w h1 h2 c1 c2
    · have c2' : inR 0 8191 x.a = false := by simpa using c2
      rw [show mayP x = false by unfold mayP; rw [c1, c2']; rfl]
      exact mayBe_at x v1 v2 w h1 h2 c1 c2'
  · have c1' : inOp x.o = false := by simpa using c1
    rw [show mayP x = false by unfold mayP; rw [c1']; rfl]
    exact mayBe_op x v1 v2 w h1 h2 c1'
end Go.Proofs.YtokmeomjdpfknaaGreatDoor
