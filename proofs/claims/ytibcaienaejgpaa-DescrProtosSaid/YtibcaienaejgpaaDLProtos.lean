/- DescrProtos: CheckProto, WriteProto, ArgWords and SameProto answer as the chapter says; what is handed in stays. Of all protos. -/
import Derived.Test.YtibcaienaejgpaaDOpen
import Derived.Test.YtibcaienaejgpaaDescY
import Derived.RegionCalls
import Derived.Deep.RegionWith
import Derived.Deep.RegionHeld3
import Derived.Deep.RegionLaw
import Derived.Deep.CutRange
namespace Go.Proofs.Ytibcaienaejgpaa
open Go.ChangeShapes Go.WideShapes Go.ChangeAt Go.RowKit
open Go.ChangeMaps (open_string shut_string)
set_option linter.unusedVariables false
/-- Three blocks' protos. -/
def Nine (g0 g1 g2 : Nat) (p q : Pr) (v v1 v2 : Value) (w : World) : Prop := AtP w g0 p v ∧ AtP w g1 q v1 ∧ AtP w g2 p v2 ∧ g0 < w.heap.size ∧ g1 < w.heap.size ∧ g2 < w.heap.size
theorem Nine.ext {g0 g1 g2 : Nat} {p q : Pr} {v v1 v2 : Value} {w w' : World} (h : Nine g0 g1 g2 p q v v1 v2 w) (x : Ext w w') : Nine g0 g1 g2 p q v v1 v2 w' := by
  obtain ⟨h0, h1, h2, l0, l1, l2⟩ := h
  have := x.size
  exact ⟨h0.ext x l0, h1.ext x l1, h2.ext x l2, by omega, by omega, by omega⟩
theorem BlkP.fill {w : World} {g : Nat} (h : BlkP w g) (x y z : Value) : (((w.setCell ⟨g, 0, none⟩ x).setCell ⟨g, 1, none⟩ y).setCell ⟨g, 2, none⟩ z).heap[g]? = some (.cells #[x, y, z] 29 (0, 0)) := by
  have h1 := heap_setCell_same w g 0 _ 29 x h
  have h2 := heap_setCell_same _ g 1 _ 29 y h1
  have h3 := heap_setCell_same _ g 2 _ 29 z h2
  exact h3
theorem two_new (w : World) (o p : Obj) : ((w.alloc o).alloc p).heap[w.heap.size + 1]? = some p := by
  have := heap_alloc_new (w.alloc o) p
  rw [show (w.alloc o).heap.size = w.heap.size + 1 by simp] at this
  exact this
set_option maxRecDepth 100000 in
set_option maxHeartbeats 8000000 in
theorem descrProtos_walk (w : World) (v : Value) (p : Pr) (h : RowT w v p.args) (hret : p.ret.s.length ≤ 140737488351232) (hl : p.args.length * 24 ≤ 140737488351232) (v2 : Value) (q : Pr) (h2 : RowT w v2 q.args) (hret2 : q.ret.s.length ≤ 140737488351232) (hl2 : q.args.length * 24 ≤ 140737488351232) : Calls Try.prog 5 #[.agg (p.vals v), .agg (q.vals v2)] w (fun e w' => e = .returned (.bool true) ∧ Ext w w') := by
  have hrow := Lib.hid h
  obtain ⟨A, c, rfl, hc, hm, ha, hf, hg⟩ := h
  unfold maxLen at hm
  obtain ⟨n, hn⟩ : ∃ n, n = p.args.length := ⟨_, rfl⟩
  rw [← hn] at hc hl hrow ⊢
  have Hn := Lib.hid hn
  obtain ⟨A2, c2, rfl, hc2, hm2, ha2, hf2, hg2⟩ := id h2
  unfold maxLen at hm2
  obtain ⟨m, hm'⟩ : ∃ m, m = q.args.length := ⟨_, rfl⟩
  rw [← hm'] at hc2 h2 ⊢
  have H2 := Lib.hid h2
  clear hn hm' ha ha2 hg hg2 hf hf2 h2
  unfold Pr.vals
  obtain ⟨W0, hW0⟩ : ∃ W0, W0 = (w.alloc (.cells #[.int .i64 p.ret.k, .string (bs p.ret.s), .slice A n c] 29)).alloc (.cells #[.int .i64 q.ret.k, .string (bs q.ret.s), .slice A2 m c2] 29) := ⟨_, rfl⟩
  have X0 : Hid (Ext w W0) := Lib.hid (by rw [hW0]; exact ((Ext.refl w).alloc _).alloc _)
  have hs0 : W0.heap.size = w.heap.size + 2 := by rw [hW0]; simp
  have hp0 : AtP W0 w.heap.size p (.slice A n c) := by
    rw [hW0]
    exact AtP.ext (AtP.of (p := p) (heap_alloc_new w _)) ((Ext.refl _).alloc _) (by simp)
  have hq0 : AtP W0 (w.heap.size + 1) q (.slice A2 m c2) := by
    rw [hW0]
    exact AtP.of (p := q) (two_new w _ _)
  have HP0 := Lib.hid hp0
  have HQ0 := Lib.hid hq0
  have HR0 := Lib.hid (hrow.out.ext X0.out)
  obtain ⟨p0, p1, p2⟩ := id hp0
  clear hp0 hq0
  go_enter Try.func5, Try.ntmps5
  go_wp2_with fail
  rw [← hW0]
  clear hW0
  go_cut [5] from 10 to 15 (fun s5 wx => ∃ g A1 k1, s5 = .pointer (some ⟨g, 0, none⟩) ∧ Hid (AtP wx g p (.slice A1 p.args.length k1)) ∧ Hid (RowT wx (.slice A1 p.args.length k1) p.args) ∧ Hid (Ext W0 wx) ∧ g < wx.heap.size)
  case first =>
    go_region_law (first
      | ((refine step_appT rfl _ _ (w.heap.size + 3) 27 23 _ 24 rfl Try.underlying27 infoT rfl (by omega) (.slice none 0 0) [] rfl (OwnT.nil _ _ _) (.slice A n c) p.args rfl (HR0.out.ext (((Ext.refl _).alloc _).drew)) (by rw [← Hn.out]; simp only [List.length_nil]; omega) (by simp; omega) ?_); intro v1 w1 ho1 hg1 hb1; have x1a : Ext (W0.alloc (.cells #[.int .i64 0, .string ⟨#[]⟩, .slice none 0 0] 29)) w1 := ((Ext.refl _).drew).grown hg1 (fun k hk => by cases hk); have x1 : Ext W0 w1 := ((Ext.refl W0).alloc _).trans x1a; obtain ⟨d0, d1, d2, f0, f1, f2⟩ := ((BlkP.new W0).ext x1a).cells; rw [hs0] at d0 d1 d2 f0 f1 f2; have hBK := ((BlkP.new W0).ext x1a); rw [hs0] at hBK; obtain ⟨p10, p11, p12⟩ := HP0.out.ext x1 (by omega); have hl1 : w.heap.size < w1.heap.size := (by have := x1.size; omega); have hl2' : ¬ w.heap.size = w1.heap.size := (by omega); obtain ⟨A1, k1, hv1, hk1, hm1, -⟩ := ho1.row; subst hv1)
      | ((refine step_appT rfl _ _ W0.heap.size 27 23 _ 24 rfl Try.underlying27 infoT rfl (by omega) (.slice none 0 0) [] rfl (OwnT.nil _ _ _) (.slice A n c) p.args rfl (HR0.out.ext ((Ext.refl _).drew)) (by rw [← Hn.out]; simp only [List.length_nil]; omega) (by simp) ?_); intro v1 w1 ho1 hg1 hb1; have x1 : Ext W0 w1 := ((Ext.refl W0).drew).grown hg1 (fun k hk => by cases hk); obtain ⟨p10, p11, p12⟩ := HP0.out.ext x1 (by omega); have hl1 : w.heap.size < w1.heap.size := (by have := x1.size; omega); have hl2' : ¬ w.heap.size = w1.heap.size := (by omega); obtain ⟨A1, k1, hv1, hk1, hm1, -⟩ := ho1.row; subst hv1))
    all_goals
      go_wp2_with fail
      go_meet
      first
        | exact ⟨_, A1, k1, rfl, Lib.hid (AtP.of (p := p) (heap_alloc_new w1 _)), Lib.hid (ho1.row.ext ((Ext.refl _).alloc _)), Lib.hid (x1.alloc _), by simp⟩
        | exact ⟨_, A1, k1, rfl, Lib.hid (AtP.of (p := p) (hBK.fill _ _ _)), Lib.hid (((ho1.set_ (R := w.heap.size + 2) (by omega) 0 _).set_ (R := w.heap.size + 2) (by omega) 1 _).set_ (R := w.heap.size + 2) (by omega) 2 _).row, Lib.hid (Ext.set_ (Ext.set_ (Ext.set_ x1 (by simp only; omega) _) (by simp only; omega) _) (by simp only; omega) _), lt_of_get (hBK.fill _ _ _)⟩
  case rest =>
    obtain ⟨g, A1, k1, rfl, HG, HRow, HX, hgl⟩ := hcut
    have R0 := Lib.hid (HR0.out.ext HX.out)
    have Q0 := Lib.hid (H2.out.ext (X0.out.trans HX.out))
    have hP := HP0.out.ext HX.out (by omega)
    have hQ := HQ0.out.ext HX.out (by omega)
    have hsc := HX.out.size
    have hlen : p.args.length ≤ 4611686018427387903 := by rw [← Hn.out]; omega
    have c1 := fun W (x : Ext wc W) => WriteProto_any (.slice A1 p.args.length k1) p W (HRow.out.ext x) hret
    have c2' := fun W (x : Ext wc W) => refWriteProto_any (.slice A n c) p W (R0.out.ext x) hret
    have c3 := fun W (x : Ext wc W) => CheckProto_any (.slice A1 p.args.length k1) p W (HRow.out.ext x) hret
    have c4 := fun W (x : Ext wc W) => refCheckProto_any (.slice A n c) p W (R0.out.ext x) hret
    have c5 := fun W (x : Ext wc W) => ArgWords_any (.slice A1 p.args.length k1) p W (HRow.out.ext x) hlen
    have c6 := fun W (x : Ext wc W) => refArgWords_any (.slice A n c) p W (R0.out.ext x) hlen
    have c7 := fun W (x : Ext wc W) => SameProto_any (.slice A1 p.args.length k1) (.slice A2 m c2) p q W (HRow.out.ext x) (Q0.out.ext x)
    have c8 := fun W (x : Ext wc W) => refSameProto_any (.slice A n c) (.slice A2 m c2) p q W (R0.out.ext x) (Q0.out.ext x)
    have c9 := fun W (x : Ext wc W) => refSameProto_any (.slice A1 p.args.length k1) (.slice A n c) p p W (HRow.out.ext x) (R0.out.ext x)
    rw [show eqP p p = true by simp [eqP]] at c9
    obtain ⟨Z, hZ⟩ : ∃ Z, Z = writeP p := ⟨_, rfl⟩
    obtain ⟨ck, hck⟩ : ∃ ck, ck = checkP p := ⟨_, rfl⟩
    obtain ⟨wk, hwk⟩ : ∃ wk, wk = wsum p.args := ⟨_, rfl⟩
    obtain ⟨eb, heb⟩ : ∃ eb, eb = eqP p q := ⟨_, rfl⟩
    rw [← hZ] at c1 c2'
    rw [← hck] at c3 c4
    rw [← hwk] at c5 c6
    rw [← heb] at c7 c8
    have hbs := bs_nil Z.1
    unfold Pr.vals at c1 c2' c3 c4 c5 c6 c7 c8 c9
    have C1 := Lib.hid c1
    have C2 := Lib.hid c2'
    have C3 := Lib.hid c3
    have C4 := Lib.hid c4
    have C5 := Lib.hid c5
    have C6 := Lib.hid c6
    have C7 := Lib.hid c7
    have C8 := Lib.hid c8
    have C9 := Lib.hid c9
    have XC := Lib.hid (X0.out.trans HX.out)
    clear c1 c2' c3 c4 c5 c6 c7 c8 c9 hZ hck hwk heb p0 p1 p2 hlen
    have f0 : Nine w.heap.size (w.heap.size + 1) g p q (.slice A n c) (.slice A2 m c2) (.slice A1 p.args.length k1) wc := ⟨hP, hQ, HG.out, by omega, by omega, hgl⟩
    clear hP hQ
    obtain ⟨-, -, ⟨z0, z1, z2⟩, -⟩ := id f0
    go_wp2_with fail
    refine (C1.out _ (Ext.refl _)).mono ?_
    rintro e w1 ⟨rfl, x1⟩
    have f1 := f0.ext x1
    have X1 := Lib.hid x1
    clear x1 z0 z1 z2 f0
    obtain ⟨⟨z0, z1, z2⟩, -, -, -⟩ := id f1
    go_wp2_with fail
    refine (C2.out _ X1.out).mono ?_
    rintro e w2 ⟨rfl, x2⟩
    have f2 := f1.ext x2
    have F0 := Lib.hid f2
    have X2 := Lib.hid (X1.out.trans x2)
    clear x2 z0 z1 z2 f1
    obtain ⟨⟨a00, a01, a02⟩, ⟨b00, b01, b02⟩, ⟨c00, c01, c02⟩, -⟩ := f2
    go_wp2_with fail
    go_region_held3 (fun w' => w'.cell? ⟨w.heap.size, 0, none⟩ = some (.int .i64 p.ret.k) ∧ w'.cell? ⟨w.heap.size, 1, none⟩ = some (.string (bs p.ret.s)) ∧ w'.cell? ⟨w.heap.size, 2, none⟩ = some (.slice A n c) ∧ w'.cell? ⟨w.heap.size + 1, 0, none⟩ = some (.int .i64 q.ret.k) ∧ w'.cell? ⟨w.heap.size + 1, 1, none⟩ = some (.string (bs q.ret.s)) ∧ w'.cell? ⟨w.heap.size + 1, 2, none⟩ = some (.slice A2 m c2) ∧ w'.cell? ⟨g, 0, none⟩ = some (.int .i64 p.ret.k) ∧ w'.cell? ⟨g, 1, none⟩ = some (.string (bs p.ret.s)) ∧ w'.cell? ⟨g, 2, none⟩ = some (.slice A1 p.args.length k1)) (first | go_keep | (refine ⟨?_, ?_, ?_, ?_, ?_, ?_, ?_, ?_, ?_⟩ <;> assumption)) (first
      | (go_at_call 34; ((with_reducible refine (C3.out _ (X2.out.trans ((Ext.refl w2).drew))).mono ?_); rintro e w11 ⟨rfl, x11'⟩); have x11 : Ext w2 w11 := ((Ext.refl w2).drew).trans x11'; obtain ⟨⟨a110, a111, a112⟩, ⟨b110, b111, b112⟩, ⟨c110, c111, c112⟩, -⟩ := F0.out.ext x11)
      | (go_at_call 35; ((with_reducible refine (C4.out _ (X2.out.trans x11)).mono ?_); rintro e w12 ⟨rfl, x12'⟩); have x12 : Ext w2 w12 := x11.trans x12'; obtain ⟨⟨a120, a121, a122⟩, ⟨b120, b121, b122⟩, ⟨c120, c121, c122⟩, -⟩ := F0.out.ext x12)
      | (go_at_call 36; ((with_reducible refine (C5.out _ (X2.out.trans x12)).mono ?_); rintro e w13 ⟨rfl, x13'⟩); have x13 : Ext w2 w13 := x12.trans x13'; obtain ⟨⟨a130, a131, a132⟩, ⟨b130, b131, b132⟩, ⟨c130, c131, c132⟩, -⟩ := F0.out.ext x13)
      | (go_at_call 37; ((with_reducible refine (C6.out _ (X2.out.trans x13)).mono ?_); rintro e w14 ⟨rfl, x14'⟩); have x14 : Ext w2 w14 := x13.trans x14'; obtain ⟨⟨a140, a141, a142⟩, ⟨b140, b141, b142⟩, ⟨c140, c141, c142⟩, -⟩ := F0.out.ext x14)
      | (go_at_call 38; ((with_reducible refine (C7.out _ (X2.out.trans x14)).mono ?_); rintro e w15 ⟨rfl, x15'⟩); have x15 : Ext w2 w15 := x14.trans x15'; obtain ⟨⟨a150, a151, a152⟩, ⟨b150, b151, b152⟩, ⟨c150, c151, c152⟩, -⟩ := F0.out.ext x15)
      | (go_at_call 16; ((with_reducible refine (C8.out _ (X2.out.trans x15)).mono ?_); rintro e w16 ⟨rfl, x16'⟩); have x16 : Ext w2 w16 := x15.trans x16'; obtain ⟨⟨a160, a161, a162⟩, ⟨b160, b161, b162⟩, ⟨c160, c161, c162⟩, -⟩ := F0.out.ext x16)
      | (go_at_call 16; ((with_reducible refine (C9.out _ (X2.out.trans x16)).mono ?_); rintro e w17 ⟨rfl, x17'⟩); have x17 : Ext w2 w17 := x16.trans x17'; obtain ⟨⟨a170, a171, a172⟩, ⟨b170, b171, b172⟩, ⟨c170, c171, c172⟩, -⟩ := F0.out.ext x17)
      | (go_at_call 19; ((with_reducible refine (works_any _).mono ?_); rintro e w18 ⟨rfl, x18'⟩); have x18 : Ext w2 w18 := x17.trans x18'; obtain ⟨⟨a180, a181, a182⟩, ⟨b180, b181, b182⟩, ⟨c180, c181, c182⟩, -⟩ := F0.out.ext x18))
    all_goals
      go_wp2
      go_ret
      exact ⟨rfl, XC.out.trans (X2.out.trans x18)⟩

set_option maxRecDepth 100000 in
theorem descrProtos_lifted (os : Os) (started : os.Started) (H : Type) (enc : TypeId × Value → H) :
    ReturnsInHanded {} Try.checked os 5 .any (Rows.descrProtosSpec.pre6 enc Try.prog Try.f5 Rows.descrProtosRow.domain false) (Rows.descrProtosSpec.post enc Try.prog Try.f5 false true false false) := by
  refine returnsInHanded_of_change_sized (C := Try.checked) own started (by kernel_rfl) Try.func5
    (ChangeSpec.witness6 (enc := enc) (C := Try.checked) false ⟨#[], #[.agg #[.int .i64 0, .string ⟨#[]⟩, .slice none 0 0], .agg #[.int .i64 0, .string ⟨#[]⟩, .slice none 0 0]], []⟩ 8 (by kernel_rfl) (by kernel_rfl) (by kernel_rfl) (by kernel_rfl)) ?_
  intro W base args ds gs before hval0 hW hcnd hsz0 _
  have hval : ∀ (j : Nat) t v, Try.f5.params[j]? = some t → args[j]? = some v → Value.okWide Try.prog W .any base t v := hval0
  have hsz : (DataW.weightsEach Try.prog (Try.f5.params.toList ++ Rows.descrProtosSpec.plain.varTypes Try.prog) (ds ++ gs)).all (· ≤ reachBytes) = true := hsz0
  have hW' := hW
  obtain ⟨p, q, hA0, hV, rfl, hfz, hnd⟩ := hW
  have hA : DataW.TrodAll enc Try.prog W 0 (fun _ => true) true Try.f5.params.toList args.toList ds p := hA0
  rw [Try.params5] at hA hval hsz
  obtain ⟨v0, vs0, d0, ds0, p0, q0, hargs, rfl, rfl, h0, r0⟩ := trodAll_cons hA
  obtain ⟨v1, vs1, d1, ds1, p1, q1, rfl, rfl, rfl, h1, r1⟩ := trodAll_cons r0
  obtain ⟨rfl, rfl, rfl⟩ := trodAll_nil r1
  obtain rfl : args = #[v0, v1] := by cases args; simp_all
  obtain ⟨rfl, rfl⟩ := trodVars_none hV
  obtain ⟨cs0, rfl, -⟩ := okWide_struct Try.underlying29 (hval 0 29 v0 rfl rfl)
  have k0 := h0
  have lt0 : ∀ x ∈ p0, x.block < W.heap.size := by obtain ⟨m, hm⟩ := k0; exact DataW.trod_lt m _ _ _ hm
  obtain ⟨a0, u0, e0, w0, z0, y0⟩ : ∃ (p : Pr) (u : Value), cs0 = p.vals u ∧ RowT W u p.args ∧ p.ret.s.length ≤ 140737488351232 ∧ p.args.length * 24 ≤ 140737488351232 := by
    obtain ⟨fuel, hf⟩ := h0
    obtain ⟨A, n, c, p, sp, da, hcs, hln, hrow, hd, hda⟩ := open_protoV hf
    have hd : d0 = _ := hd
    have hw := weights_at hsz (j := 0) rfl (show _ = some d0 from rfl)
    rw [hd] at hw
    obtain ⟨hr, hw2⟩ := proto_weights hw
    have hcs : cs0.toList = (p.vals (.slice A n c)).toList := by simpa [Value.cells] using hcs
    rcases hda with ⟨hnil, rfl⟩ | rfl
    · exact ⟨p, _, Array.toList_inj.1 hcs, hrow (fun y hy => by rw [hnil] at hy; cases hy), hr, by rw [hnil]; simp⟩
    · obtain ⟨b1, b2⟩ := types_weights hw2
      exact ⟨p, _, Array.toList_inj.1 hcs, hrow b2, hr, b1⟩
  subst e0
  obtain ⟨cs1, rfl, -⟩ := okWide_struct Try.underlying29 (hval 1 29 v1 rfl rfl)
  have k1 := h1
  have lt1 : ∀ x ∈ p1, x.block < W.heap.size := by obtain ⟨m, hm⟩ := k1; exact DataW.trod_lt m _ _ _ hm
  obtain ⟨a1, u1, e1, w1, z1, y1⟩ : ∃ (p : Pr) (u : Value), cs1 = p.vals u ∧ RowT W u p.args ∧ p.ret.s.length ≤ 140737488351232 ∧ p.args.length * 24 ≤ 140737488351232 := by
    obtain ⟨fuel, hf⟩ := h1
    obtain ⟨A, n, c, p, sp, da, hcs, hln, hrow, hd, hda⟩ := open_protoV hf
    have hd : d1 = _ := hd
    have hw := weights_at hsz (j := 1) rfl (show _ = some d1 from rfl)
    rw [hd] at hw
    obtain ⟨hr, hw2⟩ := proto_weights hw
    have hcs : cs1.toList = (p.vals (.slice A n c)).toList := by simpa [Value.cells] using hcs
    rcases hda with ⟨hnil, rfl⟩ | rfl
    · exact ⟨p, _, Array.toList_inj.1 hcs, hrow (fun y hy => by rw [hnil] at hy; cases hy), hr, by rw [hnil]; simp⟩
    · obtain ⟨b1, b2⟩ := types_weights hw2
      exact ⟨p, _, Array.toList_inj.1 hcs, hrow b2, hr, b1⟩
  subst e1
  clear hA0 hval0 hsz0
  refine (descrProtos_walk W u0 a0 w0 z0 y0 u1 a1 w1 z1 y1).mono fun e W' ⟨he, bel⟩ => ?_
  subst he
  exact ⟨_, rfl, _, _, _, [], _, [], hW', trodAll_mk1 (shut_bool Try.underlying4 _), (trodAll_cons_mk (Below.trod laidOut (by kernel_rfl) (of_decide_eq_true (by kernel_rfl)) k0 bel lt0) (trodAll_cons_mk (Below.trod laidOut (by kernel_rfl) (of_decide_eq_true (by kernel_rfl)) k1 bel lt1) trodAll_mk0)), rfl, bel.frame _, fun h => by cases h⟩

theorem descrProtos_over : Rows.descrProtosRow.holds Try.pinned (OpenSpec.ofChange Rows.descrProtosSpec) :=
  OpenClaim.holds_of_wide 5 Try.f5 rfl rfl rfl rfl rfl rfl rfl ⟨rfl, rfl, rfl, rfl, rfl⟩ rfl rfl rfl rfl rfl (by kernel_rfl) Try.func5 (by kernel_rfl)
    (of_decide_eq_true (by kernel_rfl)) (by unfold Func.isWrapper; first | (rw [if_pos (by decide +kernel)]; kernel_rfl) | (rw [if_neg (by decide +kernel)]; exact ⟨rfl, rfl⟩))
    (fun os started H enc _ => descrProtos_lifted os started H enc)

/-- The statement. -/
theorem descrProtos_proved : Rows.DescrProtosSaid := descrProtos_over
#print axioms descrProtos_proved
end Go.Proofs.Ytibcaienaejgpaa
