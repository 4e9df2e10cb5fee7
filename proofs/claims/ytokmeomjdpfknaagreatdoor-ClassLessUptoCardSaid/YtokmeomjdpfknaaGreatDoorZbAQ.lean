/- Several texts of this proof, one behind the other. -/
import Derived.Test.YtokmeomjdpfknaaGreatDoorZbN
import Derived.Test.YtokmeomjdpfknaaGreatDoorZbM
import Derived.Test.YtokmeomjdpfknaaGreatDoorZbY
import Derived.Test.YtokmeomjdpfknaaGreatDoorZbAI
import Derived.Test.YtokmeomjdpfknaaGreatDoorZbV
import Derived.Test.YtokmeomjdpfknaaGreatDoorRows
import Derived.Test.YtokmeomjdpfknaaGreatDoorCards
import Derived.Test.YtokmeomjdpfknaaGreatDoorTie
import Derived.Test.YtokmeomjdpfknaaGreatDoorZbO
import Derived.Test.YtokmeomjdpfknaaGreatDoorZbAD
import Derived.ProofKit
import Derived.OpenShut
import Derived.ShutString
import Derived.ChangeOld
import Derived.SizedLaws
import Derived.Deep.DeepHandedRow
import Derived.Deep.DeepWitnessRowRef
import Derived.Lib.LaidIn
import Derived.Lib.LaidU8T
import Derived.Lib.LaidTab
namespace Go.Proofs.YtokmeomjdpfknaaGreatDoor
open Go.RowKit Go.ChangeShapes Go.WideShapes Go.Deep
set_option linter.unusedVariables false
section
variable {H : Type} {enc : TypeId × Value → H} {w : World}
theorem light_string {t : TypeId} {l : List UInt8} (h : Light t (.lit (.string l) : DataW H)) : l.length ≤ 140737488351232 := h l.length (by simp [DataW.weights])
theorem light_str {t : TypeId} {x : DataW H × List MemPlace} {s : ByteArray} (hx : x = (.lit (.string s.data.toList), [])) (h : Light t x.1) : s.size ≤ 140737488351232 := by
  subst hx
  have := light_string h
  rw [Lib.size_eq]
  exact this
theorem open_strG (fuel : Nat) (cs : List Value) (x : DataW H × List MemPlace) (h : DataW.trod enc Tryz.prog w 0 (fun _ => true) true fuel 9 cs = some x) (hl : Light 9 x.1) :
    ∃ y : ByteArray, cs = (ShS.vals y).toList ∧ ShS.nest w y ∧ y.size ≤ 140737488351232 := by
  obtain ⟨s, e, r, -⟩ := DataW.trod_string Tryz.underlying9 h
  exact ⟨s, e, trivial, light_str r hl⟩
set_option maxRecDepth 100000 in
theorem open_tyG (fuel : Nat) (cs : List Value) (x : DataW H × List MemPlace) (h : DataW.trod enc Tryz.prog w 0 (fun _ => true) true fuel 41 cs = some x) (hl : Light 41 x.1) :
    ∃ y : Ty, cs = y.vals.toList ∧ True ∧ TyOk y := by
  obtain ⟨ys, n', hn', hy, hlen, hyl, hf⟩ := DataW.trod_struct Tryz.underlying41 h
  have hc : cs.length = 2 := hlen.trans (by kernel_rfl)
  have k3 : Tryz.prog.cellsOf 3 = 1 := by kernel_rfl
  have k9 : Tryz.prog.cellsOf 9 = 1 := by kernel_rfl
  match cs, hc with
  | [c0, c1], _ =>
    have hyl' : ys.length = 2 := hyl
    clear hyl
    match ys, hyl' with
    | [y0, y1], _ =>
      subst hy
      have h0 : DataW.trod enc Tryz.prog w 0 (fun _ => true) true n' 3 [c0] = some y0 := by simpa [k3, k9] using hf 0 _ rfl
      have h1 : DataW.trod enc Tryz.prog w 0 (fun _ => true) true n' 9 [c1] = some y1 := by simpa [k3, k9] using hf 1 _ rfl
      obtain ⟨x0, e0, r0, w0⟩ := DataW.trod_int Tryz.underlying3 h0
      obtain ⟨x1, e1, r1, w1⟩ := DataW.trod_string Tryz.underlying9 h1
      have hs := light_str r1 (light_struct Tryz.underlying41 hl (j := 1) rfl rfl)
      injection e0 with e0
      injection e1 with e1
      subst e0 e1
      exact ⟨⟨x0, x1⟩, rfl, trivial, ⟨(bounds_i64 w0).1, (bounds_i64 w0).2⟩, hs⟩
set_option maxRecDepth 100000 in
theorem open_fieldG (fuel : Nat) (cs : List Value) (x : DataW H × List MemPlace) (h : DataW.trod enc Tryz.prog w 0 (fun _ => true) true fuel 63 cs = some x) (hl : Light 63 x.1) :
    ∃ y : Fd, cs = (ShF.vals y).toList ∧ ShF.nest w y ∧ (y.nm.size ≤ 140737488351232 ∧ TyOk y.ty) := by
  obtain ⟨ys, n', hn', hy, hlen, hyl, hf⟩ := DataW.trod_struct Tryz.underlying63 h
  have hc : cs.length = 4 := hlen.trans (by kernel_rfl)
  have k4 : Tryz.prog.cellsOf 4 = 1 := by kernel_rfl
  have k9 : Tryz.prog.cellsOf 9 = 1 := by kernel_rfl
  have kt : Tryz.prog.cellsOf 41 = 2 := by kernel_rfl
  match cs, hc with
  | [c0, c1, c2, c3], _ =>
    have hyl' : ys.length = 3 := hyl
    clear hyl
    match ys, hyl' with
    | [y0, y1, y2], _ =>
      subst hy
      have h0 : DataW.trod enc Tryz.prog w 0 (fun _ => true) true n' 4 [c0] = some y0 := by simpa [k4] using hf 0 _ rfl
      have h1 : DataW.trod enc Tryz.prog w 0 (fun _ => true) true n' 9 [c1] = some y1 := by simpa [k9] using hf 1 _ rfl
      have h2 : DataW.trod enc Tryz.prog w 0 (fun _ => true) true n' 41 [c2, c3] = some y2 := by simpa [kt] using hf 2 _ rfl
      obtain ⟨x0, e0, r0⟩ := DataW.trod_bool Tryz.underlying4 h0
      obtain ⟨x1, e1, r1, w1⟩ := DataW.trod_string Tryz.underlying9 h1
      have hs := light_str r1 (light_struct Tryz.underlying63 hl (j := 1) rfl rfl)
      obtain ⟨ty, et, -, ht⟩ := open_tyG _ _ _ h2 (light_struct Tryz.underlying63 hl (j := 2) rfl rfl)
      have et' : c2 = .int .i64 ty.k ∧ c3 = .string ty.s := by
        simp [Ty.vals] at et
        exact et
      obtain ⟨rfl, rfl⟩ := et'
      injection e0 with e0
      injection e1 with e1
      subst e0 e1
      exact ⟨⟨x0, x1, ty⟩, rfl, trivial, hs, ht⟩
set_option maxRecDepth 100000 in
theorem open_methQ (fuel : Nat) (cs : List Value) (x : DataW H × List MemPlace) (h : DataW.trod enc Tryz.prog w 0 (fun _ => true) true fuel 47 cs = some x) (hl : Light 47 x.1) :
    ∃ y : MeV, cs = (ShM.vals y).toList ∧ ShM.nest w y ∧ (MeRoom y.1 ∧ MeOk y.1) := by
  obtain ⟨ys, n', hn', hy, hlen, hyl, hf⟩ := DataW.trod_struct Tryz.underlying47 h
  have hc : cs.length = 10 := hlen.trans (by kernel_rfl)
  have k4 : Tryz.prog.cellsOf 4 = 1 := by kernel_rfl
  have k3 : Tryz.prog.cellsOf 3 = 1 := by kernel_rfl
  have k9 : Tryz.prog.cellsOf 9 = 1 := by kernel_rfl
  have kp : Tryz.prog.cellsOf 44 = 3 := by kernel_rfl
  have kt : Tryz.prog.cellsOf 41 = 2 := by kernel_rfl
  have kb : Tryz.prog.cellsOf 29 = 1 := by kernel_rfl
  have kh : Tryz.prog.cellsOf 45 = 1 := by kernel_rfl
  have ka : Tryz.prog.cellsOf 42 = 1 := by kernel_rfl
  have k8 : Tryz.prog.cellsOf 5 = 1 := by kernel_rfl
  have b8 : Tryz.prog.bytesOf 5 = 1 := by kernel_rfl
  match cs, hc with
  | [c0, c1, c2, c3, c4, c5, c6, c7, c8, c9], _ =>
    have hyl' : ys.length = 8 := hyl
    clear hyl
    match ys, hyl' with
    | [y0, y1, y2, y3, y4, y5, y6, y7], _ =>
      subst hy
      have h0 : DataW.trod enc Tryz.prog w 0 (fun _ => true) true n' 4 [c0] = some y0 := by simpa [k4] using hf 0 _ rfl
      have h1 : DataW.trod enc Tryz.prog w 0 (fun _ => true) true n' 4 [c1] = some y1 := by simpa [k4] using hf 1 _ rfl
      have h2 : DataW.trod enc Tryz.prog w 0 (fun _ => true) true n' 9 [c2] = some y2 := by simpa [k9] using hf 2 _ rfl
      have h3 : DataW.trod enc Tryz.prog w 0 (fun _ => true) true n' 44 [c3, c4, c5] = some y3 := by simpa [kp] using hf 3 _ rfl
      have h4 : DataW.trod enc Tryz.prog w 0 (fun _ => true) true n' 3 [c6] = some y4 := by simpa [k3] using hf 4 _ rfl
      have h5 : DataW.trod enc Tryz.prog w 0 (fun _ => true) true n' 3 [c7] = some y5 := by simpa [k3] using hf 5 _ rfl
      have h6 : DataW.trod enc Tryz.prog w 0 (fun _ => true) true n' 29 [c8] = some y6 := by simpa [kb] using hf 6 _ rfl
      have h7 : DataW.trod enc Tryz.prog w 0 (fun _ => true) true n' 45 [c9] = some y7 := by simpa [kh] using hf 7 _ rfl
      have l3 : Light 44 y3.1 := light_struct Tryz.underlying47 hl (j := 3) rfl rfl
      obtain ⟨x0, e0, r0⟩ := DataW.trod_bool Tryz.underlying4 h0
      obtain ⟨x1, e1, r1⟩ := DataW.trod_bool Tryz.underlying4 h1
      obtain ⟨x2, e2, r2, w2⟩ := DataW.trod_string Tryz.underlying9 h2
      have hs := light_str r2 (light_struct Tryz.underlying47 hl (j := 2) rfl rfl)
      obtain ⟨x4, e4, r4, w4⟩ := DataW.trod_int Tryz.underlying3 h4
      obtain ⟨x5, e5, r5, w5⟩ := DataW.trod_int Tryz.underlying3 h5
      obtain ⟨A6, n6, c6', l6, e6, q6, s6, z6⟩ := open_listI Tryz.underlying29 Tryz.underlying5 k8 b8 h6 (light_struct Tryz.underlying47 hl (j := 6) rfl rfl)
      obtain ⟨A7, n7, c7', l7, e7, q7, s7, z7, -⟩ := open_listG ShH (bytes := 32) (Q := fun _ => True) Tryz.underlying45 (by kernel_rfl) (by kernel_rfl) open_handG h7 (light_struct Tryz.underlying47 hl (j := 7) rfl rfl)
      obtain ⟨ps, n2, hn2, hp, hplen, hpl, hpf⟩ := DataW.trod_struct Tryz.underlying44 h3
      have hpl' : ps.length = 2 := hpl
      clear hpl
      match ps, hpl' with
      | [p0, p1], _ =>
        rw [hp] at l3
        have g0 : DataW.trod enc Tryz.prog w 0 (fun _ => true) true n2 41 [c3, c4] = some p0 := by simpa [kt] using hpf 0 _ rfl
        have g1 : DataW.trod enc Tryz.prog w 0 (fun _ => true) true n2 42 [c5] = some p1 := by simpa [ka] using hpf 1 _ rfl
        obtain ⟨ty, et, -, ht⟩ := open_tyG _ _ _ g0 (light_struct Tryz.underlying44 l3 (j := 0) rfl rfl)
        obtain ⟨A8, n8, c8', l8, e8, q8, s8, z8, hts⟩ := open_listG ShT (bytes := 24) (Q := TyOk) Tryz.underlying42 (by kernel_rfl) (by kernel_rfl) open_tyG g1 (light_struct Tryz.underlying44 l3 (j := 1) rfl rfl)
        have et' : c3 = .int .i64 ty.k ∧ c4 = .string ty.s := by
          simp [Ty.vals] at et
          exact et
        obtain ⟨rfl, rfl⟩ := et'
        injection e0 with e0
        injection e1 with e1
        injection e2 with e2
        injection e4 with e4
        injection e5 with e5
        injection e6 with e6
        injection e7 with e7
        injection e8 with e8
        subst e0 e1 e2 e4 e5 e6 e7 e8
        have z6' : l6.length ≤ reachBytes := by simpa using z6
        exact ⟨(⟨x0, x1, x2, ty, l8, x4, x5, l6, l7⟩, _, _, _), rfl, ⟨s8, s6, s7⟩, ⟨hs, ht, hts, z6'⟩, z6', z7, z8, bounds_i64 w4, bounds_i64 w5⟩
structure ClSize (c : Cl) : Prop where
  pool : c.pool.length * 56 ≤ 140737488351232
  ifs : c.ifs.length * 16 ≤ 140737488351232
  fds : c.fds.length * 48 ≤ 140737488351232
  mts : c.mts.length * 136 ≤ 140737488351232
  each : ∀ m ∈ c.mts, MeOk m
set_option maxRecDepth 100000 in
theorem open_classG (fuel : Nat) (cs : List Value) (x : DataW H × List MemPlace) (h : DataW.trod enc Tryz.prog w 0 (fun _ => true) true fuel 27 cs = some x) (hl : Light 27 x.1) :
    ∃ (c : Cl) (vp vi vf vm : Value), cs = (c.vals vp vi vf vm).toList ∧ ClAt w c vp vi vf vm ∧ ClRoom c ∧ ClSize c ∧ tot c.pool ≤ Rows.uptoBulk x.1 := by
  obtain ⟨ys, n', hn', hy, hlen, hyl, hf⟩ := DataW.trod_struct Tryz.underlying27 h
  have hc : cs.length = 7 := hlen.trans (by kernel_rfl)
  have k4 : Tryz.prog.cellsOf 4 = 1 := by kernel_rfl
  have k9 : Tryz.prog.cellsOf 9 = 1 := by kernel_rfl
  have kc : Tryz.prog.cellsOf 22 = 1 := by kernel_rfl
  have ks : Tryz.prog.cellsOf 23 = 1 := by kernel_rfl
  have kf : Tryz.prog.cellsOf 24 = 1 := by kernel_rfl
  have km : Tryz.prog.cellsOf 25 = 1 := by kernel_rfl
  match cs, hc with
  | [c0, c1, c2, c3, c4, c5, c6], _ =>
    have hyl' : ys.length = 7 := hyl
    clear hyl
    match ys, hyl' with
    | [y0, y1, y2, y3, y4, y5, y6], _ =>
      subst hy
      have h0 : DataW.trod enc Tryz.prog w 0 (fun _ => true) true n' 22 [c0] = some y0 := by simpa [kc] using hf 0 _ rfl
      have h1 : DataW.trod enc Tryz.prog w 0 (fun _ => true) true n' 9 [c1] = some y1 := by simpa [k9] using hf 1 _ rfl
      have h2 : DataW.trod enc Tryz.prog w 0 (fun _ => true) true n' 9 [c2] = some y2 := by simpa [k9] using hf 2 _ rfl
      have h3 : DataW.trod enc Tryz.prog w 0 (fun _ => true) true n' 4 [c3] = some y3 := by simpa [k4] using hf 3 _ rfl
      have h4 : DataW.trod enc Tryz.prog w 0 (fun _ => true) true n' 23 [c4] = some y4 := by simpa [ks] using hf 4 _ rfl
      have h5 : DataW.trod enc Tryz.prog w 0 (fun _ => true) true n' 24 [c5] = some y5 := by simpa [kf] using hf 5 _ rfl
      have h6 : DataW.trod enc Tryz.prog w 0 (fun _ => true) true n' 25 [c6] = some y6 := by simpa [km] using hf 6 _ rfl
      have hl0 : Light 22 y0.1 := light_struct Tryz.underlying27 hl (j := 0) rfl rfl
      obtain ⟨A0, n0, c0', l0, sp, e0, q0, s0, m0', hd0⟩ := open_consts h0
      obtain ⟨x1, e1, r1, w1⟩ := DataW.trod_string Tryz.underlying9 h1
      have hs1 := light_str r1 (light_struct Tryz.underlying27 hl (j := 1) rfl rfl)
      obtain ⟨x2, e2, r2, w2⟩ := DataW.trod_string Tryz.underlying9 h2
      have hs2 := light_str r2 (light_struct Tryz.underlying27 hl (j := 2) rfl rfl)
      obtain ⟨x3, e3, r3⟩ := DataW.trod_bool Tryz.underlying4 h3
      obtain ⟨A4, n4, c4', l4, e4, q4, s4, z4, hq4⟩ := open_listG ShS (bytes := 16) (Q := fun y => y.size ≤ 140737488351232) Tryz.underlying23 (by kernel_rfl) (by kernel_rfl) open_strG h4 (light_struct Tryz.underlying27 hl (j := 4) rfl rfl)
      obtain ⟨A5, n5, c5', l5, e5, q5, s5, z5, hq5⟩ := open_listG ShF (bytes := 48) (Q := fun y => y.nm.size ≤ 140737488351232 ∧ TyOk y.ty) Tryz.underlying24 (by kernel_rfl) (by kernel_rfl) open_fieldG h5 (light_struct Tryz.underlying27 hl (j := 5) rfl rfl)
      obtain ⟨A6, n6, c6', l6, e6, q6, s6, z6, hq6⟩ := open_listG ShM (bytes := 136) (Q := fun y => MeRoom y.1 ∧ MeOk y.1) Tryz.underlying25 (by kernel_rfl) (by kernel_rfl) open_methQ h6 (light_struct Tryz.underlying27 hl (j := 6) rfl rfl)
      have hp : (l0.length * 56 ≤ 140737488351232 ∧ ∀ y ∈ l0, y.t.size ≤ 140737488351232) ∧ tot l0 ≤ Rows.uptoBulk y0.1 := by
        rcases hd0 with ⟨rfl, hd⟩ | hd
        · exact ⟨⟨by simp, fun _ h => by cases h⟩, Nat.zero_le _⟩
        · rw [hd] at hl0 ⊢
          refine ⟨?_, bulk_consts _ _⟩
          have hw := light_slice Tryz.underlying22 hl0
          have hb : Tryz.prog.bytesOf 49 = 56 := by kernel_rfl
          rw [hb, List.length_map] at hw
          refine ⟨Nat.le_trans (Nat.mul_le_mul_right _ (Nat.le_add_right _ _)) hw.1, fun y hy => ?_⟩
          have := hw.2 _ (List.mem_map_of_mem hy) _ (dat_weightsP y)
          rw [Lib.size_eq]
          exact this
      injection e0 with e0
      injection e1 with e1
      injection e2 with e2
      injection e3 with e3
      injection e4 with e4
      injection e5 with e5
      injection e6 with e6
      subst e0 e1 e2 e3 e4 e5 e6
      refine ⟨⟨l0, x3, x1, x2, l4, l5, l6.map (·.1)⟩, _, _, _, _, rfl, ⟨s0.shp, s4, s5, l6, rfl, s6⟩, ⟨fun y hy => ⟨?_, hp.1.2 y hy⟩, hs1, hs2, hq4, hq5, fun m hm => ?_⟩, ⟨hp.1.1, z4, z5, by rw [List.length_map]; exact z6, fun m hm => ?_⟩, ?_⟩
      · exact s0.all y hy
      · obtain ⟨y, hy, rfl⟩ := List.mem_map.1 hm
        exact (hq6 y hy).1
      · obtain ⟨y, hy, rfl⟩ := List.mem_map.1 hm
        exact (hq6 y hy).2
      · refine Nat.le_trans hp.2 ?_
        simp only [List.map_cons, Rows.uptoBulk, Rows.uptoBulkAll]
        omega
end
theorem texts_room {c : Cl} (h : ClRoom c) : Texts c.pool := fun y hy => (h.pool y hy).2
theorem good_of {w : World} {c : Cl} {vp vi vf vm : Value} (h : ClAt w c vp vi vf vm) (hr : ClRoom c) : Good c := by
  refine ⟨(texts_room hr).told fun x hx => (hr.pool x hx).1, fun m hm => ?_⟩
  obtain ⟨es, e, hM⟩ := h.2.2.2
  rw [← e] at hm
  obtain ⟨y, hy, rfl⟩ := List.mem_map.1 hm
  exact (hM.low y hy).2.1.fit
end Go.Proofs.YtokmeomjdpfknaaGreatDoor
namespace Go.Proofs.YtokmeomjdpfknaaGreatDoor
open Go.ChangeShapes Go.WideShapes Go.ChangeAt Go.RowKit Go.Lib
set_option linter.unusedVariables false
def mostNums : List Int := [64, 256, 256, 256]
theorem accept_eq : (Rows.laid_unicode_utf8_acceptRanges : DataW Unit) = Lib.acceptData := by kernel_rfl
theorem first_eq : Rows.laid_unicode_utf8_first = Lib.firstData := by kernel_rfl
theorem most_eq : (Rows.laid_warpbeam_class_most : DataW Unit) = Lib.tabData .i64 mostNums := by kernel_rfl
def Listed : List (String × DataW Unit) := [("unicode/utf8.acceptRanges", Rows.laid_unicode_utf8_acceptRanges), ("warpbeam/class.most", Rows.laid_warpbeam_class_most), ("unicode/utf8.first", Rows.laid_unicode_utf8_first)]
theorem Listed_eq : Listed = [("unicode/utf8.acceptRanges", Lib.acceptData), ("warpbeam/class.most", Lib.tabData .i64 mostNums), ("unicode/utf8.first", Lib.firstData)] := by
  unfold Listed
  rw [accept_eq, first_eq, most_eq]
theorem tabIs_of_read {P : Program} {W : World} {name : String} {k : IntKind} {zs : List Int} {g : Nat} {t e : TypeId} {n : Nat}
    (hg : P.globalNamed name = some g) (hty : (P.globals[g]?).map (·.type) = some t) (ht : P.underlying t = some (.array n e)) (he : P.underlying e = some (.int k)) (hce : P.cellsOf e = 1) (hct : P.cellsOf t = n)
    (h : Lib.VarReads P W name (Lib.tabData k zs)) : Lib.TabIs P W name k zs := by
  obtain ⟨g', t', cs, fuel, p, hg', ht', hvar, hd⟩ := h
  obtain rfl := Option.some.inj (hg.symm.trans hg')
  obtain rfl := Option.some.inj (hty.symm.trans ht')
  unfold Lib.TabIs
  rw [hvar, ← Lib.cells_of_tab ht he hce hct hd]
theorem most_of {W : World} (h : Lib.TabIs Tryz.prog W "warpbeam/class.most" .i64 mostNums) : Most W := by
  unfold Lib.TabIs World.var? at h
  rw [show Tryz.prog.globalNamed "warpbeam/class.most" = some 0 from by kernel_rfl] at h
  simp only [Option.bind_some] at h
  cases hx : W.heap[0]? with
  | none => simp [hx] at h
  | some o =>
    rw [hx] at h
    cases o with
    | cells cs T z =>
      have h3 : cs = #[Value.int .i64 64, .int .i64 256, .int .i64 256, .int .i64 256] := by
        injection h
      subst h3
      refine ⟨lt_of_get hx, fun i hi => ?_⟩
      unfold World.cell?
      simp only [hx]
      match i, hi with
      | 0, _ => rfl
      | 1, _ => rfl
      | 2, _ => rfl
      | 3, _ => rfl
    | _ => simp at h
theorem tabs_of {W : World} (hL : laidMetH Tryz.prog Listed W) : Tabs W ∧ Most W := by
  rw [Listed_eq] at hL
  refine ⟨utf8Tabs_of_readsT (U8Types.of196 Tryz.lays196) ⟨by kernel_rfl, by kernel_rfl, by kernel_rfl, by kernel_rfl, by kernel_rfl, by kernel_rfl, by kernel_rfl⟩ (Lib.laidMet.reads hL (.tail _ (.tail _ (.head _)))) (Lib.laidMet.reads hL (.head _)), most_of ?_⟩
  exact tabIs_of_read (g := 0) (t := 174) (e := 3) (n := 4) (by kernel_rfl) (by kernel_rfl) Tryz.underlying174 Tryz.underlying3 (by kernel_rfl) (by kernel_rfl) (Lib.laidMet.reads hL (.tail _ (.head _)))
noncomputable def laidWorld (os : Os) : World :=
  let w0 := World.holding Tryz.prog os ⟨#[], #[], []⟩
  let put (h : Array Obj) (g : Nat) (cs : Array Value) : Array Obj := h.modify g fun
    | .cells _ t frozen => .cells cs t frozen
    | o => o
  let h1 := put w0.heap 2 (Lib.firstTab.map fun z => Value.int .u8 z).toArray
  let h2 := put h1 3 ((List.range 16).flatMap fun i => [Value.int .u8 (Lib.accLo i), Value.int .u8 (Lib.accHi i)]).toArray
  let h3 := put h2 0 (mostNums.map fun z => Value.int .i64 z).toArray
  { w0 with heap := h3 }
theorem laid_met (os : Os) (args : Array Value) : laidMet Tryz.prog Listed ((laidWorld os).forCall (fun _ _ => 0) ⟨#[], args, []⟩).memory := by
  rw [Listed_eq]
  exact (LaidIn.of_run (l := [("unicode/utf8.acceptRanges", Lib.acceptData), ("warpbeam/class.most", Lib.tabData .i64 mostNums), ("unicode/utf8.first", Lib.firstData)]) [2, 3, 0] 8 (by kernel_rfl) (by kernel_rfl) (by kernel_rfl) (by kernel_rfl)).met
end Go.Proofs.YtokmeomjdpfknaaGreatDoor
