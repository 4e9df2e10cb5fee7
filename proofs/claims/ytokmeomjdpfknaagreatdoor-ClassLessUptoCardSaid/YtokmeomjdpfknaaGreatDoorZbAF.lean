/- Several texts of this proof, one behind the other. -/
import Derived.Test.YtokmeomjdpfknaaGreatDoorZbAD
import Derived.Test.YtokmeomjdpfknaaGreatDoorZbY
import Derived.Test.YtokmeomjdpfknaaGreatDoorZbAE
import Derived.Test.YtokmeomjdpfknaaGreatDoorZbA
namespace Go.Proofs.YtokmeomjdpfknaaGreatDoor
open Go.RowKit
set_option linter.unusedVariables false

theorem tyD_inj {a b : Ty} (h : tyD a = tyD b) : a = b := by
  obtain ⟨k, s⟩ := a
  obtain ⟨k', s'⟩ := b
  unfold tyD at h
  injection h with h1 h2
  simp only at h1 h2
  rw [h1, show s = s' from (show bs s.data.toList = bs s'.data.toList by rw [h2])]
theorem map_tyD_inj : ∀ {l m : List Ty}, l.map tyD = m.map tyD → l = m
  | [], [], _ => rfl
  | [], _ :: _, h => by cases h
  | _ :: _, [], h => by cases h
  | a :: l, b :: m, h => by
    rw [List.map_cons, List.map_cons] at h
    injection h with h1 h2
    rw [tyD_inj h1, map_tyD_inj h2]
theorem pr_inj {x y : Me} (h : x.pr = y.pr) : x.ret = y.ret ∧ x.args = y.args := by
  unfold Me.pr at h
  injection h with h1 h2
  exact ⟨tyD_inj h1, map_tyD_inj h2⟩
theorem me_same {x y : Me} (h1 : x.st = y.st) (h2 : x.ab = y.ab) (h3 : x.nm = y.nm) (h4 : x.pr = y.pr) (h5 : x.sk = y.sk) (h6 : x.lo = y.lo) (h7 : x.code = y.code) (h8 : x.hs = y.hs) : x = y := by
  obtain ⟨h4, h4'⟩ := pr_inj h4
  obtain ⟨a1, a2, a3, a4, a5, a6, a7, a8, a9⟩ := x
  obtain ⟨b1, b2, b3, b4, b5, b6, b7, b8, b9⟩ := y
  simp only at h1 h2 h3 h4 h4' h5 h6 h7 h8
  rw [h1, h2, h3, h4, h4', h5, h6, h7, h8]
theorem bool_ne {a b : Bool} (h : ¬ a = b) : (a == b) = false := by cases a <;> cases b <;> simp_all
theorem int_ne {a b : Int} (h : ¬ a = b) : (a == b) = false := by simpa using h
set_option maxRecDepth 100000 in
set_option maxHeartbeats 16000000 in
theorem sameMethod_any (x y : Me) (va vc vh va' vc' vh' : Value) (w : World) (hx : MeAt w x va vc vh) (hy : MeAt w y va' vc' vh') (rx : MeRoom x) (ry : MeRoom y) :
    Calls Tryz.prog 41 #[.agg (x.vals va vc vh), .agg (y.vals va' vc' vh')] w fun e w' => e = .returned (.bool (decide (x = y))) ∧ Ext w w' := by
  have HP := Lib.hid (fun W (e : Ext w W) => SameProto_k x y va va' W (hx.1.ext e) (hy.1.ext e) rx ry)
  have HB := Lib.hid (fun W (e : Ext w W) => equal_any vc vc' x.code y.code W (hx.2.1.ext e) (hy.2.1.ext e))
  have HH := Lib.hid (fun W (e : Ext w W) => equalH_any vh vh' x.hs y.hs W (hx.2.2.ext e) (hy.2.2.ext e))
  have X0 : Hid (∀ o p : Obj, Ext w ((w.alloc o).alloc p)) := Lib.hid (fun o p => ((Ext.refl w).alloc o).alloc p)
  have BX := Lib.hid (fun W (e : Ext ((w.alloc (.cells (x.vals va vc vh) 47)).alloc (.cells (y.vals va' vc' vh') 47)) W) => ((BK.new w (x.vals va vc vh) 47).ext ((Ext.refl _).alloc (.cells (y.vals va' vc' vh') 47))).ext e)
  have BY := Lib.hid (fun W (e : Ext ((w.alloc (.cells (x.vals va vc vh) 47)).alloc (.cells (y.vals va' vc' vh') 47)) W) => (show BK _ (w.heap.size + 1) (y.vals va' vc' vh') 47 from by have := BK.new (w.alloc (.cells (x.vals va vc vh) 47)) (y.vals va' vc' vh') 47; simpa [BK] using this).ext e)
  clear hx hy rx ry
  unfold Me.vals at BX BY ⊢
  by_cases h1 : x.st = y.st
  · by_cases h2 : x.ab = y.ab
    · by_cases h3 : x.nm = y.nm
      · by_cases h4 : x.pr = y.pr
        · by_cases h5 : x.sk = y.sk
          · by_cases h6 : x.lo = y.lo
            · by_cases h7 : x.code = y.code
              · by_cases h8 : x.hs = y.hs
                · have HE := Lib.hid (show decide (x = y) = true from decide_eq_true (me_same h1 h2 h3 h4 h5 h6 h7 h8))
                  simp only [decide_eq_true h4] at HP
                  simp only [decide_eq_true h7] at HB
                  simp only [decide_eq_true h8] at HH
                  have e1 : (x.st == y.st) = true := by rw [h1]; simp
                  have e2 : (x.ab == y.ab) = true := by rw [h2]; simp
                  have e3 : (x.nm.toList == y.nm.toList) = true := by rw [h3]; simp
                  have e5 : (x.sk == y.sk) = true := by rw [h5]; simp
                  have e6 : (x.lo == y.lo) = true := by rw [h6]; simp
                  clear h1 h2 h3 h5 h6 h4 h7 h8
                  go_enter Tryz.func41, Tryz.ntmps41
                  go_wp2_with fail
                  refine (HP.out _ (X0.out _ _)).mono ?_
                  rintro e w1 ⟨rfl, x1⟩
                  have X1 := Lib.hid ((X0.out _ _).trans x1)
                  have c6 : w1.cell? ⟨w.heap.size, 6, none⟩ = some (.int .i64 x.sk) := (BX.out w1 x1).cell 6
                  have d6 : w1.cell? ⟨w.heap.size + 1, 6, none⟩ = some (.int .i64 y.sk) := (BY.out w1 x1).cell 6
                  have c7 : w1.cell? ⟨w.heap.size, 7, none⟩ = some (.int .i64 x.lo) := (BX.out w1 x1).cell 7
                  have d7 : w1.cell? ⟨w.heap.size + 1, 7, none⟩ = some (.int .i64 y.lo) := (BY.out w1 x1).cell 7
                  have c8 : w1.cell? ⟨w.heap.size, 8, none⟩ = some (vc) := (BX.out w1 x1).cell 8
                  have d8 : w1.cell? ⟨w.heap.size + 1, 8, none⟩ = some (vc') := (BY.out w1 x1).cell 8
                  have c9 : w1.cell? ⟨w.heap.size, 9, none⟩ = some (vh) := (BX.out w1 x1).cell 9
                  have d9 : w1.cell? ⟨w.heap.size + 1, 9, none⟩ = some (vh') := (BY.out w1 x1).cell 9
                  clear x1 BX BY
                  go_wp2_with fail
                  refine (HB.out w1 X1.out).mono ?_
                  rintro e w2 ⟨rfl, rfl⟩
                  go_wp2_with fail
                  refine (HH.out _ X1.out).mono ?_
                  rintro e w3 ⟨rfl, m, rfl⟩
                  go_wp2
                  go_ret
                  exact ⟨by rw [HE.out]; rfl, X1.out.drewN m⟩
                · have HE := Lib.hid (show decide (x = y) = false from decide_eq_false fun e => h8 (by rw [e]))
                  simp only [decide_eq_true h4] at HP
                  simp only [decide_eq_true h7] at HB
                  simp only [decide_eq_false h8] at HH
                  have e1 : (x.st == y.st) = true := by rw [h1]; simp
                  have e2 : (x.ab == y.ab) = true := by rw [h2]; simp
                  have e3 : (x.nm.toList == y.nm.toList) = true := by rw [h3]; simp
                  have e5 : (x.sk == y.sk) = true := by rw [h5]; simp
                  have e6 : (x.lo == y.lo) = true := by rw [h6]; simp
                  clear h1 h2 h3 h5 h6 h4 h7 h8
                  go_enter Tryz.func41, Tryz.ntmps41
                  go_wp2_with fail
                  refine (HP.out _ (X0.out _ _)).mono ?_
                  rintro e w1 ⟨rfl, x1⟩
                  have X1 := Lib.hid ((X0.out _ _).trans x1)
                  have c6 : w1.cell? ⟨w.heap.size, 6, none⟩ = some (.int .i64 x.sk) := (BX.out w1 x1).cell 6
                  have d6 : w1.cell? ⟨w.heap.size + 1, 6, none⟩ = some (.int .i64 y.sk) := (BY.out w1 x1).cell 6
                  have c7 : w1.cell? ⟨w.heap.size, 7, none⟩ = some (.int .i64 x.lo) := (BX.out w1 x1).cell 7
                  have d7 : w1.cell? ⟨w.heap.size + 1, 7, none⟩ = some (.int .i64 y.lo) := (BY.out w1 x1).cell 7
                  have c8 : w1.cell? ⟨w.heap.size, 8, none⟩ = some (vc) := (BX.out w1 x1).cell 8
                  have d8 : w1.cell? ⟨w.heap.size + 1, 8, none⟩ = some (vc') := (BY.out w1 x1).cell 8
                  have c9 : w1.cell? ⟨w.heap.size, 9, none⟩ = some (vh) := (BX.out w1 x1).cell 9
                  have d9 : w1.cell? ⟨w.heap.size + 1, 9, none⟩ = some (vh') := (BY.out w1 x1).cell 9
                  clear x1 BX BY
                  go_wp2_with fail
                  refine (HB.out w1 X1.out).mono ?_
                  rintro e w2 ⟨rfl, rfl⟩
                  go_wp2_with fail
                  refine (HH.out _ X1.out).mono ?_
                  rintro e w3 ⟨rfl, m, rfl⟩
                  go_wp2
                  go_ret
                  exact ⟨by rw [HE.out]; rfl, X1.out.drewN m⟩
              · have HE := Lib.hid (show decide (x = y) = false from decide_eq_false fun e => h7 (by rw [e]))
                simp only [decide_eq_true h4] at HP
                simp only [decide_eq_false h7] at HB
                have e1 : (x.st == y.st) = true := by rw [h1]; simp
                have e2 : (x.ab == y.ab) = true := by rw [h2]; simp
                have e3 : (x.nm.toList == y.nm.toList) = true := by rw [h3]; simp
                have e5 : (x.sk == y.sk) = true := by rw [h5]; simp
                have e6 : (x.lo == y.lo) = true := by rw [h6]; simp
                clear h1 h2 h3 h5 h6 HH h4 h7
                go_enter Tryz.func41, Tryz.ntmps41
                go_wp2_with fail
                refine (HP.out _ (X0.out _ _)).mono ?_
                rintro e w1 ⟨rfl, x1⟩
                have X1 := Lib.hid ((X0.out _ _).trans x1)
                have c6 : w1.cell? ⟨w.heap.size, 6, none⟩ = some (.int .i64 x.sk) := (BX.out w1 x1).cell 6
                have d6 : w1.cell? ⟨w.heap.size + 1, 6, none⟩ = some (.int .i64 y.sk) := (BY.out w1 x1).cell 6
                have c7 : w1.cell? ⟨w.heap.size, 7, none⟩ = some (.int .i64 x.lo) := (BX.out w1 x1).cell 7
                have d7 : w1.cell? ⟨w.heap.size + 1, 7, none⟩ = some (.int .i64 y.lo) := (BY.out w1 x1).cell 7
                have c8 : w1.cell? ⟨w.heap.size, 8, none⟩ = some (vc) := (BX.out w1 x1).cell 8
                have d8 : w1.cell? ⟨w.heap.size + 1, 8, none⟩ = some (vc') := (BY.out w1 x1).cell 8
                clear x1 BX BY
                go_wp2_with fail
                refine (HB.out w1 X1.out).mono ?_
                rintro e w2 ⟨rfl, rfl⟩
                go_wp2
                go_ret
                exact ⟨by rw [HE.out]; rfl, X1.out⟩
            · have HE := Lib.hid (show decide (x = y) = false from decide_eq_false fun e => h6 (by rw [e]))
              have e6 := int_ne h6
              simp only [decide_eq_true h4] at HP
              have e1 : (x.st == y.st) = true := by rw [h1]; simp
              have e2 : (x.ab == y.ab) = true := by rw [h2]; simp
              have e3 : (x.nm.toList == y.nm.toList) = true := by rw [h3]; simp
              have e5 : (x.sk == y.sk) = true := by rw [h5]; simp
              clear h1 h2 h3 h5 HB HH h4 h6
              go_enter Tryz.func41, Tryz.ntmps41
              go_wp2_with fail
              refine (HP.out _ (X0.out _ _)).mono ?_
              rintro e w1 ⟨rfl, x1⟩
              have X1 := Lib.hid ((X0.out _ _).trans x1)
              have c6 : w1.cell? ⟨w.heap.size, 6, none⟩ = some (.int .i64 x.sk) := (BX.out w1 x1).cell 6
              have d6 : w1.cell? ⟨w.heap.size + 1, 6, none⟩ = some (.int .i64 y.sk) := (BY.out w1 x1).cell 6
              have c7 : w1.cell? ⟨w.heap.size, 7, none⟩ = some (.int .i64 x.lo) := (BX.out w1 x1).cell 7
              have d7 : w1.cell? ⟨w.heap.size + 1, 7, none⟩ = some (.int .i64 y.lo) := (BY.out w1 x1).cell 7
              clear x1 BX BY
              go_wp2
              go_ret
              exact ⟨by rw [HE.out]; rfl, X1.out⟩
          · have HE := Lib.hid (show decide (x = y) = false from decide_eq_false fun e => h5 (by rw [e]))
            have e5 := int_ne h5
            simp only [decide_eq_true h4] at HP
            have e1 : (x.st == y.st) = true := by rw [h1]; simp
            have e2 : (x.ab == y.ab) = true := by rw [h2]; simp
            have e3 : (x.nm.toList == y.nm.toList) = true := by rw [h3]; simp
            clear h1 h2 h3 HB HH h4 h5
            go_enter Tryz.func41, Tryz.ntmps41
            go_wp2_with fail
            refine (HP.out _ (X0.out _ _)).mono ?_
            rintro e w1 ⟨rfl, x1⟩
            have X1 := Lib.hid ((X0.out _ _).trans x1)
            have c6 : w1.cell? ⟨w.heap.size, 6, none⟩ = some (.int .i64 x.sk) := (BX.out w1 x1).cell 6
            have d6 : w1.cell? ⟨w.heap.size + 1, 6, none⟩ = some (.int .i64 y.sk) := (BY.out w1 x1).cell 6
            clear x1 BX BY
            go_wp2
            go_ret
            exact ⟨by rw [HE.out]; rfl, X1.out⟩
        · have HE := Lib.hid (show decide (x = y) = false from decide_eq_false fun e => h4 (by rw [e]))
          simp only [decide_eq_false h4] at HP
          have e1 : (x.st == y.st) = true := by rw [h1]; simp
          have e2 : (x.ab == y.ab) = true := by rw [h2]; simp
          have e3 : (x.nm.toList == y.nm.toList) = true := by rw [h3]; simp
          clear h1 h2 h3 HB HH h4
          go_enter Tryz.func41, Tryz.ntmps41
          go_wp2_with fail
          refine (HP.out _ (X0.out _ _)).mono ?_
          rintro e w1 ⟨rfl, x1⟩
          have X1 := Lib.hid ((X0.out _ _).trans x1)
          clear x1 BX BY
          go_wp2
          go_ret
          exact ⟨by rw [HE.out]; rfl, X1.out⟩
      · have HE := Lib.hid (show decide (x = y) = false from decide_eq_false fun e => h3 (by rw [e]))
        have e3 := str_ne h3
        have e1 : (x.st == y.st) = true := by rw [h1]; simp
        have e2 : (x.ab == y.ab) = true := by rw [h2]; simp
        clear h1 h2 HP BX BY HB HH h3
        go_enter Tryz.func41, Tryz.ntmps41
        go_wp2
        go_ret
        exact ⟨by rw [HE.out]; rfl, X0.out _ _⟩
    · have HE := Lib.hid (show decide (x = y) = false from decide_eq_false fun e => h2 (by rw [e]))
      have e2 := bool_ne h2
      have e1 : (x.st == y.st) = true := by rw [h1]; simp
      clear h1 HP BX BY HB HH h2
      go_enter Tryz.func41, Tryz.ntmps41
      go_wp2
      go_ret
      exact ⟨by rw [HE.out]; rfl, X0.out _ _⟩
  · have HE := Lib.hid (show decide (x = y) = false from decide_eq_false fun e => h1 (by rw [e]))
    have e1 := bool_ne h1
    clear HP BX BY HB HH h1
    go_enter Tryz.func41, Tryz.ntmps41
    go_wp2
    go_ret
    exact ⟨by rw [HE.out]; rfl, X0.out _ _⟩
end Go.Proofs.YtokmeomjdpfknaaGreatDoor
namespace Go.Proofs.YtokmeomjdpfknaaGreatDoor
open Go.RowKit
set_option linter.unusedVariables false

theorem bne_of {α : Type} [BEq α] {a b : α} (h : (a == b) = true) : (a != b) = false := by unfold bne; rw [h]; rfl
theorem bne_no {α : Type} [BEq α] {a b : α} (h : (a == b) = false) : (a != b) = true := by unfold bne; rw [h]; rfl
set_option maxRecDepth 100000 in
set_option maxHeartbeats 16000000 in
theorem refsameMethod_any (x y : Me) (va vc vh va' vc' vh' : Value) (w : World) (hx : MeAt w x va vc vh) (hy : MeAt w y va' vc' vh') (rx : MeRoom x) (ry : MeRoom y) :
    Calls Tryz.prog 43 #[.agg (x.vals va vc vh), .agg (y.vals va' vc' vh')] w fun e w' => e = .returned (.bool (decide (x = y))) ∧ Ext w w' := by
  have HP := Lib.hid (fun W (e : Ext w W) => refSameProto_k x y va va' W (hx.1.ext e) (hy.1.ext e) rx ry)
  have HB := Lib.hid (fun W (e : Ext w W) => (eqBytes_any vc vc' x.code y.code W (hx.2.1.ext e) (hy.2.1.ext e)).mono (R' := fun e w' => e = .returned (.bool (decide (x.code = y.code))) ∧ Ext W w') (by rintro e w' ⟨rfl, m, rfl⟩; exact ⟨rfl, (Ext.refl W).drewN m⟩))
  have HH1 := Lib.hid hx.2.2
  have HH2 := Lib.hid hy.2.2
  obtain ⟨Ah, ch, rfl, hc1, hm1, -⟩ := hx.2.2.cut
  obtain ⟨Bh, dh, rfl, hc2, hm2, -⟩ := hy.2.2.cut
  unfold maxLen at hm1 hm2
  have X0 : Hid (∀ o p : Obj, Ext w ((w.alloc o).alloc p)) := Lib.hid (fun o p => ((Ext.refl w).alloc o).alloc p)
  have BX := Lib.hid (fun W (e : Ext ((w.alloc (.cells (x.vals va vc (.slice Ah x.hs.length ch)) 47)).alloc (.cells (y.vals va' vc' (.slice Bh y.hs.length dh)) 47)) W) => ((BK.new w (x.vals va vc (.slice Ah x.hs.length ch)) 47).ext ((Ext.refl _).alloc (.cells (y.vals va' vc' (.slice Bh y.hs.length dh)) 47))).ext e)
  have BY := Lib.hid (fun W (e : Ext ((w.alloc (.cells (x.vals va vc (.slice Ah x.hs.length ch)) 47)).alloc (.cells (y.vals va' vc' (.slice Bh y.hs.length dh)) 47)) W) => (show BK _ (w.heap.size + 1) (y.vals va' vc' (.slice Bh y.hs.length dh)) 47 from by have := BK.new (w.alloc (.cells (x.vals va vc (.slice Ah x.hs.length ch)) 47)) (y.vals va' vc' (.slice Bh y.hs.length dh)) 47; simpa [BK] using this).ext e)
  clear hx hy rx ry
  unfold Me.vals at BX BY ⊢
  by_cases h1 : x.st = y.st
  · by_cases h2 : x.ab = y.ab
    · by_cases h3 : x.nm = y.nm
      · by_cases h4 : x.pr = y.pr
        · by_cases h5 : x.sk = y.sk
          · by_cases h6 : x.lo = y.lo
            · by_cases h7 : x.code = y.code
              · by_cases h8 : x.hs.length = y.hs.length
                · have HS := Lib.hid (fun h8 => me_same h1 h2 h3 h4 h5 h6 h7 h8)
                  simp only [decide_eq_true h4] at HP
                  simp only [decide_eq_true h7] at HB
                  have e1 : (x.st == y.st) = true := by rw [h1]; simp
                  have f1 := bne_of e1
                  have e2 : (x.ab == y.ab) = true := by rw [h2]; simp
                  have f2 := bne_of e2
                  have e3 : (x.nm.toList == y.nm.toList) = true := by rw [h3]; simp
                  have f3 := bne_of e3
                  have e5 : (x.sk == y.sk) = true := by rw [h5]; simp
                  have f5 := bne_of e5
                  have e6 : (x.lo == y.lo) = true := by rw [h6]; simp
                  have f6 := bne_of e6
                  obtain ⟨n, hn⟩ : ∃ n, x.hs.length = n := ⟨_, rfl⟩
                  have hn2 : y.hs.length = n := by rw [← h8, hn]
                  rw [hn] at HH1 hc1 BX BY ⊢
                  rw [hn2] at HH2 hc2 BX BY ⊢
                  have Hn := Lib.hid hn
                  have Hn2 := Lib.hid hn2
                  clear hn hn2
                  clear h1 h2 h3 h5 h6 h4 h7 h8
                  go_enter Tryz.func43, Tryz.ntmps43
                  go_wp2_with fail
                  refine (HP.out _ (X0.out _ _)).mono ?_
                  rintro e w1 ⟨rfl, x1⟩
                  have X1 := Lib.hid ((X0.out _ _).trans x1)
                  have E1 := Lib.hid x1
                  have c6 : w1.cell? ⟨w.heap.size, 6, none⟩ = some (.int .i64 x.sk) := (BX.out w1 x1).cell 6
                  have d6 : w1.cell? ⟨w.heap.size + 1, 6, none⟩ = some (.int .i64 y.sk) := (BY.out w1 x1).cell 6
                  have c7 : w1.cell? ⟨w.heap.size, 7, none⟩ = some (.int .i64 x.lo) := (BX.out w1 x1).cell 7
                  have d7 : w1.cell? ⟨w.heap.size + 1, 7, none⟩ = some (.int .i64 y.lo) := (BY.out w1 x1).cell 7
                  have c8 : w1.cell? ⟨w.heap.size, 8, none⟩ = some (vc) := (BX.out w1 x1).cell 8
                  have d8 : w1.cell? ⟨w.heap.size + 1, 8, none⟩ = some (vc') := (BY.out w1 x1).cell 8
                  clear x1
                  go_wp2_with fail
                  refine (HB.out w1 X1.out).mono ?_
                  rintro e w2 ⟨rfl, x2⟩
                  have X2 := Lib.hid (X1.out.trans x2)
                  have E2 := Lib.hid (E1.out.trans x2)
                  clear x2 c6 d6 c7 d7 c8 d8
                  have c9 := (BX.out w2 E2.out).cell 9
                  have d9 := (BY.out w2 E2.out).cell 9
                  simp at c9 d9
                  go_wp2_with fail
                  clear c9 d9
                  go_loopw [5] (fun i wr => ∃ k : Nat, k ≤ n ∧ i = .int .i64 k ∧ Hid (Ext w2 wr) ∧ Hid (x.hs.take k = y.hs.take k)) (fun i _ => n - (intOf i).toNat)
                  case atStart => exact ⟨0, by omega, rfl, Lib.hid (Ext.refl _), Lib.hid rfl⟩
                  case round =>
                    obtain ⟨k, hk, rfl, HY, Ht⟩ := hrel
                    rename World => wr
                    have c9 := (BX.out wr (E2.out.trans HY.out)).cell 9
                    have d9 := (BY.out wr (E2.out.trans HY.out)).cell 9
                    simp at c9 d9
                    by_cases hlt : k < n
                    · obtain ⟨b1, o1, rfl, hx1⟩ := rowH_at HH1.out (by have := Hn.out; omega)
                      obtain ⟨b2, o2, rfl, hx2⟩ := rowH_at HH2.out (by have := Hn2.out; omega)
                      obtain ⟨y0, y1, y2, y3⟩ := hx1 wr (X2.out.trans HY.out) k (by have := Hn.out; omega)
                      obtain ⟨u0, u1, u2, u3⟩ := hx2 wr (X2.out.trans HY.out) k (by have := Hn2.out; omega)
                      have hne := fun W => run_neqH (gh x.hs k) (gh y.hs k) W
                      unfold Hd.vals at hne
                      have ht1 := Lib.hid (gh_take (l := x.hs) (j := k) (by have := Hn.out; omega))
                      have ht2 := Lib.hid (gh_take (l := y.hs) (j := k) (by have := Hn2.out; omega))
                      clear hx1 hx2
                      by_cases he : gh x.hs k = gh y.hs k
                      · rw [decide_eq_true he] at hne
                        have HE := Lib.hid he
                        clear he
                        go_wp2_with fail
                        go_quiet (fail)
                        go_wp2_with fail
                        go_roundw
                        case rel => exact ⟨k + 1, by omega, by go_num, Lib.hid (HY.out.drewN _), Lib.hid (by rw [ht1.out, ht2.out, Ht.out, HE.out])⟩
                        case measure => simp [intOf]; omega
                      · rw [decide_eq_false he] at hne
                        have HE := Lib.hid (show decide (x = y) = false from decide_eq_false fun e => he (by rw [e]))
                        clear he
                        go_wp2_with fail
                        go_quiet (fail)
                        go_wp2
                        go_ret
                        exact ⟨ret_dd HE.out.symm, (X2.out.trans HY.out).drewN _⟩
                    · obtain rfl : k = n := by omega
                      go_wp2
                      go_ret
                      refine ⟨ret_dd ?_, X2.out.trans HY.out⟩
                      have := Ht.out
                      have e1 := Hn.out
                      have e2 := Hn2.out
                      rw [List.take_of_length_le (by omega), List.take_of_length_le (by omega)] at this
                      exact (decide_eq_true (HS.out this)).symm
                · have HE := Lib.hid (show decide (x = y) = false from decide_eq_false fun e => h8 (by rw [e]))
                  simp only [decide_eq_true h4] at HP
                  simp only [decide_eq_true h7] at HB
                  have e1 : (x.st == y.st) = true := by rw [h1]; simp
                  have f1 := bne_of e1
                  have e2 : (x.ab == y.ab) = true := by rw [h2]; simp
                  have f2 := bne_of e2
                  have e3 : (x.nm.toList == y.nm.toList) = true := by rw [h3]; simp
                  have f3 := bne_of e3
                  have e5 : (x.sk == y.sk) = true := by rw [h5]; simp
                  have f5 := bne_of e5
                  have e6 : (x.lo == y.lo) = true := by rw [h6]; simp
                  have f6 := bne_of e6
                  have f8 : ((x.hs.length : Int) != (y.hs.length : Int)) = true := by simp; omega
                  clear h1 h2 h3 h5 h6 HH1 HH2 h4 h7 h8
                  go_enter Tryz.func43, Tryz.ntmps43
                  go_wp2_with fail
                  refine (HP.out _ (X0.out _ _)).mono ?_
                  rintro e w1 ⟨rfl, x1⟩
                  have X1 := Lib.hid ((X0.out _ _).trans x1)
                  have E1 := Lib.hid x1
                  have c6 : w1.cell? ⟨w.heap.size, 6, none⟩ = some (.int .i64 x.sk) := (BX.out w1 x1).cell 6
                  have d6 : w1.cell? ⟨w.heap.size + 1, 6, none⟩ = some (.int .i64 y.sk) := (BY.out w1 x1).cell 6
                  have c7 : w1.cell? ⟨w.heap.size, 7, none⟩ = some (.int .i64 x.lo) := (BX.out w1 x1).cell 7
                  have d7 : w1.cell? ⟨w.heap.size + 1, 7, none⟩ = some (.int .i64 y.lo) := (BY.out w1 x1).cell 7
                  have c8 : w1.cell? ⟨w.heap.size, 8, none⟩ = some (vc) := (BX.out w1 x1).cell 8
                  have d8 : w1.cell? ⟨w.heap.size + 1, 8, none⟩ = some (vc') := (BY.out w1 x1).cell 8
                  clear x1
                  go_wp2_with fail
                  refine (HB.out w1 X1.out).mono ?_
                  rintro e w2 ⟨rfl, x2⟩
                  have X2 := Lib.hid (X1.out.trans x2)
                  have E2 := Lib.hid (E1.out.trans x2)
                  clear x2 c6 d6 c7 d7 c8 d8
                  have c9 := (BX.out w2 E2.out).cell 9
                  have d9 := (BY.out w2 E2.out).cell 9
                  simp at c9 d9
                  go_wp2
                  go_ret
                  exact ⟨by rw [HE.out]; rfl, X2.out⟩
              · have HE := Lib.hid (show decide (x = y) = false from decide_eq_false fun e => h7 (by rw [e]))
                simp only [decide_eq_true h4] at HP
                simp only [decide_eq_false h7] at HB
                have e1 : (x.st == y.st) = true := by rw [h1]; simp
                have f1 := bne_of e1
                have e2 : (x.ab == y.ab) = true := by rw [h2]; simp
                have f2 := bne_of e2
                have e3 : (x.nm.toList == y.nm.toList) = true := by rw [h3]; simp
                have f3 := bne_of e3
                have e5 : (x.sk == y.sk) = true := by rw [h5]; simp
                have f5 := bne_of e5
                have e6 : (x.lo == y.lo) = true := by rw [h6]; simp
                have f6 := bne_of e6
                clear h1 h2 h3 h5 h6 HH1 HH2 h4 h7
                go_enter Tryz.func43, Tryz.ntmps43
                go_wp2_with fail
                refine (HP.out _ (X0.out _ _)).mono ?_
                rintro e w1 ⟨rfl, x1⟩
                have X1 := Lib.hid ((X0.out _ _).trans x1)
                have E1 := Lib.hid x1
                have c6 : w1.cell? ⟨w.heap.size, 6, none⟩ = some (.int .i64 x.sk) := (BX.out w1 x1).cell 6
                have d6 : w1.cell? ⟨w.heap.size + 1, 6, none⟩ = some (.int .i64 y.sk) := (BY.out w1 x1).cell 6
                have c7 : w1.cell? ⟨w.heap.size, 7, none⟩ = some (.int .i64 x.lo) := (BX.out w1 x1).cell 7
                have d7 : w1.cell? ⟨w.heap.size + 1, 7, none⟩ = some (.int .i64 y.lo) := (BY.out w1 x1).cell 7
                have c8 : w1.cell? ⟨w.heap.size, 8, none⟩ = some (vc) := (BX.out w1 x1).cell 8
                have d8 : w1.cell? ⟨w.heap.size + 1, 8, none⟩ = some (vc') := (BY.out w1 x1).cell 8
                clear x1
                go_wp2_with fail
                refine (HB.out w1 X1.out).mono ?_
                rintro e w2 ⟨rfl, x2⟩
                have X2 := Lib.hid (X1.out.trans x2)
                have E2 := Lib.hid (E1.out.trans x2)
                clear x2 c6 d6 c7 d7 c8 d8
                go_wp2
                go_ret
                exact ⟨by rw [HE.out]; rfl, X2.out⟩
            · have HE := Lib.hid (show decide (x = y) = false from decide_eq_false fun e => h6 (by rw [e]))
              have e6 := int_ne h6
              have f6 := bne_no e6
              simp only [decide_eq_true h4] at HP
              have e1 : (x.st == y.st) = true := by rw [h1]; simp
              have f1 := bne_of e1
              have e2 : (x.ab == y.ab) = true := by rw [h2]; simp
              have f2 := bne_of e2
              have e3 : (x.nm.toList == y.nm.toList) = true := by rw [h3]; simp
              have f3 := bne_of e3
              have e5 : (x.sk == y.sk) = true := by rw [h5]; simp
              have f5 := bne_of e5
              clear h1 h2 h3 h5 HB HH1 HH2 h4 h6
              go_enter Tryz.func43, Tryz.ntmps43
              go_wp2_with fail
              refine (HP.out _ (X0.out _ _)).mono ?_
              rintro e w1 ⟨rfl, x1⟩
              have X1 := Lib.hid ((X0.out _ _).trans x1)
              have E1 := Lib.hid x1
              have c6 : w1.cell? ⟨w.heap.size, 6, none⟩ = some (.int .i64 x.sk) := (BX.out w1 x1).cell 6
              have d6 : w1.cell? ⟨w.heap.size + 1, 6, none⟩ = some (.int .i64 y.sk) := (BY.out w1 x1).cell 6
              have c7 : w1.cell? ⟨w.heap.size, 7, none⟩ = some (.int .i64 x.lo) := (BX.out w1 x1).cell 7
              have d7 : w1.cell? ⟨w.heap.size + 1, 7, none⟩ = some (.int .i64 y.lo) := (BY.out w1 x1).cell 7
              clear x1
              go_wp2
              go_ret
              exact ⟨by rw [HE.out]; rfl, X1.out⟩
          · have HE := Lib.hid (show decide (x = y) = false from decide_eq_false fun e => h5 (by rw [e]))
            have e5 := int_ne h5
            have f5 := bne_no e5
            simp only [decide_eq_true h4] at HP
            have e1 : (x.st == y.st) = true := by rw [h1]; simp
            have f1 := bne_of e1
            have e2 : (x.ab == y.ab) = true := by rw [h2]; simp
            have f2 := bne_of e2
            have e3 : (x.nm.toList == y.nm.toList) = true := by rw [h3]; simp
            have f3 := bne_of e3
            clear h1 h2 h3 HB HH1 HH2 h4 h5
            go_enter Tryz.func43, Tryz.ntmps43
            go_wp2_with fail
            refine (HP.out _ (X0.out _ _)).mono ?_
            rintro e w1 ⟨rfl, x1⟩
            have X1 := Lib.hid ((X0.out _ _).trans x1)
            have E1 := Lib.hid x1
            have c6 : w1.cell? ⟨w.heap.size, 6, none⟩ = some (.int .i64 x.sk) := (BX.out w1 x1).cell 6
            have d6 : w1.cell? ⟨w.heap.size + 1, 6, none⟩ = some (.int .i64 y.sk) := (BY.out w1 x1).cell 6
            clear x1
            go_wp2
            go_ret
            exact ⟨by rw [HE.out]; rfl, X1.out⟩
        · have HE := Lib.hid (show decide (x = y) = false from decide_eq_false fun e => h4 (by rw [e]))
          simp only [decide_eq_false h4] at HP
          have e1 : (x.st == y.st) = true := by rw [h1]; simp
          have f1 := bne_of e1
          have e2 : (x.ab == y.ab) = true := by rw [h2]; simp
          have f2 := bne_of e2
          have e3 : (x.nm.toList == y.nm.toList) = true := by rw [h3]; simp
          have f3 := bne_of e3
          clear h1 h2 h3 HB HH1 HH2 h4
          go_enter Tryz.func43, Tryz.ntmps43
          go_wp2_with fail
          refine (HP.out _ (X0.out _ _)).mono ?_
          rintro e w1 ⟨rfl, x1⟩
          have X1 := Lib.hid ((X0.out _ _).trans x1)
          have E1 := Lib.hid x1
          clear x1
          go_wp2
          go_ret
          exact ⟨by rw [HE.out]; rfl, X1.out⟩
      · have HE := Lib.hid (show decide (x = y) = false from decide_eq_false fun e => h3 (by rw [e]))
        have e3 := str_ne h3
        have f3 := bne_no e3
        have e1 : (x.st == y.st) = true := by rw [h1]; simp
        have f1 := bne_of e1
        have e2 : (x.ab == y.ab) = true := by rw [h2]; simp
        have f2 := bne_of e2
        clear h1 h2 HP BX BY HB HH1 HH2 h3
        go_enter Tryz.func43, Tryz.ntmps43
        go_wp2
        go_ret
        exact ⟨by rw [HE.out]; rfl, X0.out _ _⟩
    · have HE := Lib.hid (show decide (x = y) = false from decide_eq_false fun e => h2 (by rw [e]))
      have e2 := bool_ne h2
      have f2 := bne_no e2
      have e1 : (x.st == y.st) = true := by rw [h1]; simp
      have f1 := bne_of e1
      clear h1 HP BX BY HB HH1 HH2 h2
      go_enter Tryz.func43, Tryz.ntmps43
      go_wp2
      go_ret
      exact ⟨by rw [HE.out]; rfl, X0.out _ _⟩
  · have HE := Lib.hid (show decide (x = y) = false from decide_eq_false fun e => h1 (by rw [e]))
    have e1 := bool_ne h1
    have f1 := bne_no e1
    clear HP BX BY HB HH1 HH2 h1
    go_enter Tryz.func43, Tryz.ntmps43
    go_wp2
    go_ret
    exact ⟨by rw [HE.out]; rfl, X0.out _ _⟩
end Go.Proofs.YtokmeomjdpfknaaGreatDoor
namespace Go.Proofs.YtokmeomjdpfknaaGreatDoor
open Go.RowKit
set_option linter.unusedVariables false

theorem gm_take {l : List Me} {j : Nat} (h : j < l.length) : l.take (j + 1) = l.take j ++ [gm l j] := by
  rw [gm_get h, List.take_append_getElem h]
set_option maxRecDepth 100000 in
set_option maxHeartbeats 8000000 in
theorem equalM_any (v1 v2 : Value) (l1 l2 : List Me) (w : World) (h1 : RowM w v1 l1) (h2 : RowM w v2 l2) (r1 : ∀ m ∈ l1, MeRoom m) (r2 : ∀ m ∈ l2, MeRoom m) :
    Calls Tryz.prog 40 #[v1, v2, .func (.func 41) #[] #[]] w fun e w' => e = .returned (.bool (decide (l1 = l2))) ∧ Ext w w' := by
  have H1 := Lib.hid h1
  have H2 := Lib.hid h2
  have R1 := Lib.hid r1
  have R2 := Lib.hid r2
  obtain ⟨A1, c1, rfl, hc1, hm1, -⟩ := h1.cut
  obtain ⟨A2, c2, rfl, hc2, hm2, -⟩ := h2.cut
  clear h1 h2 r1 r2
  unfold maxLen at hm1 hm2
  by_cases hl : l1.length = l2.length
  · obtain ⟨n, hn⟩ : ∃ n, n = l1.length := ⟨_, rfl⟩
    rw [← hn] at hc1 H1 ⊢
    rw [← hl, ← hn] at hc2 H2 ⊢
    have Hn := Lib.hid hn
    have Hl := Lib.hid hl
    clear hn hl
    go_enter Tryz.func40, Tryz.ntmps40
    go_wp2
    go_loopw [17] (fun i wr => ∃ k : Nat, k ≤ n ∧ i = .int .i64 k ∧ Hid (Ext w wr) ∧ Hid (l1.take k = l2.take k)) (fun i _ => n - (intOf i).toNat)
    case atStart => exact ⟨0, by omega, rfl, Lib.hid (Ext.refl w), Lib.hid rfl⟩
    case round =>
      obtain ⟨k, hk, rfl, HX, Ht⟩ := hrel
      rename World => wo
      by_cases hlt : k < n
      · obtain ⟨b1, o1, rfl, hx1⟩ := H1.out.at (by have := Hn.out; omega)
        obtain ⟨b2, o2, rfl, hx2⟩ := H2.out.at (by have := Hn.out; have := Hl.out; omega)
        have hk1 : k < l1.length := by have := Hn.out; omega
        have hk2 : k < l2.length := by have := Hn.out; have := Hl.out; omega
        obtain ⟨va, vc, vh, hx1⟩ := hx1 k hk1
        obtain ⟨va', vc', vh', hx2⟩ := hx2 k hk2
        have ht1 := gm_take hk1
        have ht2 := gm_take hk2
        have rx := R1.out _ (gm_mem hk1)
        have ry := R2.out _ (gm_mem hk2)
        have hne : ¬ gm l1 k = gm l2 k → decide (l1 = l2) = false := fun he => decide_eq_false fun e => he (by rw [e])
        obtain ⟨x, hx⟩ : ∃ x, gm l1 k = x := ⟨_, rfl⟩
        obtain ⟨y, hy⟩ : ∃ x, gm l2 k = x := ⟨_, rfl⟩
        rw [hx] at hx1 ht1 rx hne
        rw [hy] at hx2 ht2 ry hne
        have m1 := (hx1 _ (Ext.refl w)).2
        have m2 := (hx2 _ (Ext.refl w)).2
        obtain ⟨Va, ca, rfl, -⟩ := (show ShT.Row w va x.args from m1.1).cut
        obtain ⟨Vc, cc, rfl, -⟩ := id (show Row w .u8 vc x.code from m1.2.1)
        obtain ⟨Vh, ch, rfl, -⟩ := (show ShH.Row w vh x.hs from m1.2.2).cut
        obtain ⟨Va', ca', rfl, -⟩ := (show ShT.Row w va' y.args from m2.1).cut
        obtain ⟨Vc', cc', rfl, -⟩ := id (show Row w .u8 vc' y.code from m2.2.1)
        obtain ⟨Vh', ch', rfl, -⟩ := (show ShH.Row w vh' y.hs from m2.2.2).cut
        obtain ⟨⟨y0, y1, y2, y3, y4, y5, y6, y7, y8, y9⟩, -⟩ := hx1 _ HX.out
        obtain ⟨⟨u0, u1, u2, u3, u4, u5, u6, u7, u8, u9⟩, -⟩ := hx2 _ (HX.out.alloc (.cells #[.bool x.st, .bool x.ab, .string x.nm, .int .i64 x.ret.k, .string x.ret.s, .slice Va x.args.length ca, .int .i64 x.sk, .int .i64 x.lo, .slice Vc x.code.length cc, .slice Vh x.hs.length ch] 47))
        have HS := Lib.hid (fun W (e : Ext w W) => sameMethod_any x y _ _ _ _ _ _ W (m1.ext e) (m2.ext e) rx ry)
        have XX := Lib.hid (fun p q : Obj => (HX.out.alloc p).alloc q)
        have HT1 := Lib.hid ht1
        have HT2 := Lib.hid ht2
        have HNE := Lib.hid hne
        unfold Me.vals at HS
        clear hx1 hx2 hx hy ht1 ht2 rx ry m1 m2 hk1 hk2 hne
        go_wp2_with fail
        refine (HS.out _ (XX.out _ _)).mono ?_
        rintro e w3 ⟨rfl, x3⟩
        have X3 := Lib.hid ((XX.out _ _).trans x3)
        clear x3 y0 y1 y2 y3 y4 y5 y6 y7 y8 y9 u0 u1 u2 u3 u4 u5 u6 u7 u8 u9
        by_cases he : x = y
        · rw [decide_eq_true he]
          have HE := Lib.hid he
          clear he
          go_wp2_with fail
          go_roundw
          case rel => exact ⟨k + 1, by omega, by go_num, X3, Lib.hid (by rw [HT1.out, HT2.out, Ht.out, HE.out])⟩
          case measure => simp [intOf]; omega
        · rw [decide_eq_false he]
          have HE := Lib.hid (HNE.out he)
          clear he
          go_wp2
          go_ret
          exact ⟨ret_dd HE.out.symm, X3.out⟩
      · obtain rfl : k = n := by omega
        go_wp2
        go_ret
        refine ⟨ret_dd ?_, HX.out⟩
        have := Ht.out
        rw [Hn.out] at this
        rw [List.take_length, Hl.out, List.take_length] at this
        exact (decide_eq_true this).symm
  · have hb : ((l1.length : Int) != (l2.length : Int)) = true := by simp; omega
    have HE := Lib.hid (show decide (l1 = l2) = false by rw [decide_eq_false_iff_not]; exact fun e => hl (by rw [e]))
    rw [HE.out]
    clear hl H1 H2 R1 R2
    go_enter Tryz.func40, Tryz.ntmps40
    go_wp2
    go_ret
    exact ⟨rfl, Ext.refl w⟩
end Go.Proofs.YtokmeomjdpfknaaGreatDoor
