/- CodeBehind: code with more code behind it may be, and is both, one behind the other. Of all bytes, 4000 at most, twice. -/
import Derived.Test.YthobicnhophdlaaZf
import Derived.Test.YthobicnhophdlaaZb
import Derived.Test.YthobicnhophdlaaZa
import Derived.Test.YthobicnhophdlaaEq0
import Derived.Test.YthobicnhophdlaaSl
namespace Go.Proofs.Ythobicnhophdlaa
open Go.ChangeShapes Go.WideShapes Go.ChangeAt Go.RowKit
open Go.ChangeMaps (open_string shut_string)
set_option linter.unusedVariables false
theorem headI_slice {w : World} {v : Value} {l : List In} (h : RowI w v l) (q : Nat) (hq : q ≤ l.length) :
    ∃ v2, (∀ W, (Instr.sliceAt 23 v none (some (.int .i64 q)) none).run Try.prog W = .ok v2 W) ∧ (∀ W, (Instr.slice 23 v none (some (.int .i64 q)) none).run Try.prog W = .ok v2 W) ∧ RowI w v2 (l.take q) := by
  have hk := h
  obtain ⟨A, c, rfl, hc, hm, hA⟩ := h.cut
  have k1 : ¬ c < q := by omega
  have k3 : q ≤ c := by omega
  by_cases hb : l.length = 0
  · have hq0 : q = 0 := by omega
    subst hq0
    have e : l = [] := List.eq_nil_of_length_eq_zero hb
    subst e
    have nilrow : ∀ (A : Option Addr) (c : Nat), (A = none → c = 0) → c ≤ maxLen → RowI w (.slice A 0 c) [] := fun A c h1 h2 => ⟨[], rfl, A, c, rfl, Nat.zero_le _, h2, h1, fun h => by simp at h, fun _ h => by cases h⟩
    by_cases hc : c = 0
    · subst hc
      exact ⟨.slice A 0 0, fun W => by go_simp, fun W => by go_simp, nilrow _ _ (fun _ => rfl) (by simp [maxLen])⟩
    · obtain ⟨ad, rfl⟩ : ∃ ad, A = some ad := by
        cases A with
        | none => exact absurd (hA rfl) hc
        | some ad => exact ⟨ad, rfl⟩
      exact ⟨.slice (some (ad.add 0)) 0 c, fun W => by go_simp, fun W => by go_simp, nilrow _ _ (fun h => by cases h) hm⟩
  · obtain ⟨bl, o, rfl, -⟩ := hk.at (by omega)
    have k2 : ¬ c = 0 := by omega
    exact ⟨_, fun W => by go_simp, fun W => by go_simp, hk.head q hq⟩
theorem cut_rng {b : List Int} (hb : Bytes b) (hl : b.length ≤ 4000) (h : (cutZ b).2.2 = 0) : ∀ x ∈ (cutZ b).1, (0 ≤ x.a ∧ x.a < 4000) ∧ ∀ t ∈ x.to, 0 ≤ t ∧ t < 4000 := by
  obtain ⟨p1, p2, p3, p4, p5⟩ := cutZ_parts h
  have hall := cutF_all hb _ 0 rfl (by rw [p3]; exact h)
  rw [p3] at hall
  refine fun x hx => ⟨by have := (hall x hx).2; omega, fun t ht => ?_⟩
  obtain ⟨y, hy, e⟩ := hasAt_iff.1 (List.all_eq_true.1 (p4 x hx) t ht)
  have := (hall y hy).2
  omega
theorem gn_behind {l m : List In} {d : Int} {k : Nat} (hk : k < m.length) : gn (l ++ m.map (mv d)) (l.length + k) = mv d (gn m k) := by
  rw [gn_get hk]
  unfold gn
  rw [List.getD_eq_getElem?_getD, List.getElem?_append_right (by omega), show l.length + k - l.length = k by omega, List.getElem?_map, List.getElem?_eq_getElem hk]
  rfl
theorem newAt {w W : World} {cs : Array Value} {T : TypeId} (e : Ext (w.alloc (.cells cs T)) W) (i : Nat) : W.cell? ⟨w.heap.size, i, none⟩ = cs[i]? := by
  have h := (e.block w.heap.size (by simp)).trans (heap_alloc_new w _)
  rw [cell_of_row W _ i _ T (0, 0) h]
theorem gi_map {l : List Int} {d : Int} {j : Nat} (h : j < l.length) : gi (l.map (· + d)) j = gi l j + d := by
  simp [gi, h]
theorem cut4000 (n : Nat) : ∃ q, q ≤ n ∧ q ≤ 4000 ∧ (if (4000 : Int) < n then (4000 : Int) else n) = q := by
  by_cases h : 4000 < n
  · exact ⟨4000, by omega, by omega, by rw [if_pos (by omega)]; rfl⟩
  · exact ⟨n, Nat.le_refl _, by omega, by rw [if_neg (by omega)]⟩
set_option maxRecDepth 100000 in
set_option maxHeartbeats 8000000 in
theorem codeBehind_walk (w : World) (v : Value) (b1 : List Int) (h : Row w .u8 v b1) (hl : b1.length ≤ 140737488351232) (v' : Value) (b2 : List Int) (h' : Row w .u8 v' b2) (hl' : b2.length ≤ 140737488351232) :
    Calls Try.prog 3 #[v, v'] w fun e w' => e = .returned (.bool true) ∧ Ext w w' := by
  obtain ⟨q1, hq1, hq3, hif1⟩ := cut4000 b1.length
  obtain ⟨q2, hq2, hq4, hif2⟩ := cut4000 b2.length
  obtain ⟨va, r1, r1', ha⟩ := head_slice h q1 hq1
  obtain ⟨vb, r2, r2', hb⟩ := head_slice h' q2 hq2
  obtain ⟨L1, hL1⟩ : ∃ L, b1.take q1 = L := ⟨_, rfl⟩
  obtain ⟨L2, hL2⟩ : ∃ L, b2.take q2 = L := ⟨_, rfl⟩
  have n1 : L1.length ≤ 4000 := by rw [← hL1]; simp; omega
  have n2 : L2.length ≤ 4000 := by rw [← hL2]; simp; omega
  rw [hL1] at ha
  rw [hL2] at hb
  have HA := Lib.hid ha
  have HB := Lib.hid hb
  have N1 := Lib.hid n1
  have N2 := Lib.hid n2
  have HC1 := Lib.hid (fun W u (o : Row W .u8 u L1) => Cut_any u L1 W o)
  have HC2 := Lib.hid (fun W u (o : Row W .u8 u L2) => Cut_any u L2 W o)
  have HCC := Lib.hid (fun W u (o : Row W .u8 u (L1 ++ L2)) => Cut_any u (L1 ++ L2) W o)
  have HCP := Lib.hid (fun W (e : Ext w W) => copyBytes_any va L1 W (ha.ext e) (by omega))
  have HZ := Lib.hid (fun (e1 : (cutZ L1).2.2 = 0) (e2 : (cutZ L2).2.2 = 0) => cut_app (bytes_row ha) (bytes_row hb) n1 n2 e1 e2)
  have HRG := Lib.hid (cut_rng (bytes_row hb) n2)
  obtain ⟨R1, hR1⟩ : ∃ R, cutZ L1 = R := ⟨_, rfl⟩
  obtain ⟨R2, hR2⟩ : ∃ R, cutZ L2 = R := ⟨_, rfl⟩
  rw [hR1] at HC1 HZ
  rw [hR2] at HC2 HZ HRG
  obtain ⟨l, k1, e1⟩ := R1
  obtain ⟨m, k2, e2⟩ := R2
  simp only at HZ HRG
  obtain ⟨A, c, rfl, -⟩ := h
  obtain ⟨A', c', rfl, -⟩ := h'
  clear hR1 hR2 ha hb hL1 hL2 n1 n2 hq1 hq2 hq3 hq4 hl hl'
  go_enter Try.func3, Try.ntmps3
  go_wp2_with fail
  refine (HC1.out _ _ HA.out).mono ?_
  rintro e w1 ⟨v1, rfl, ⟨u1, rfl, o1⟩, x1⟩
  have P1 := Lib.hid o1.row
  have X1 := Lib.hid x1
  clear o1 x1 r1 r1' r2 r2' hif1 hif2
  go_wp2_with fail
  refine (HC2.out _ _ (HB.out.ext X1.out)).mono ?_
  rintro e w2 ⟨v2, rfl, ⟨u2, rfl, o2⟩, x2⟩
  have P2 := Lib.hid o2.row
  have P12 := Lib.hid (P1.out.ext x2)
  have X2 := Lib.hid (X1.out.trans x2)
  clear o2 x2
  by_cases he1 : e1 = 0
  · subst he1
    by_cases he2 : e2 = 0
    · subst he2
      have hz := HZ.out (by trivial) (by trivial)
      rw [hz] at HCC
      clear hz
      obtain ⟨Aa, ca, rfl, -⟩ := id HA.out
      obtain ⟨Ab, cb, rfl, -⟩ := id HB.out
      obtain ⟨Al, cl, rfl, -⟩ := P12.out.cut
      obtain ⟨Am, cm, rfl, -⟩ := P2.out.cut
      go_wp2_with fail
      refine (HCP.out _ X2.out).mono ?_
      rintro e w3 ⟨v3, rfl, o3, x3⟩
      have O3 := Lib.hid o3
      have X3 := Lib.hid (X2.out.trans x3)
      have HS2 := Lib.hid X2.out.size
      have X23 := Lib.hid x3
      have X3b := Lib.hid x3.size
      have B3 := Lib.hid (HB.out.ext X3.out)
      have P13 := Lib.hid (P12.out.ext x3)
      have P23 := Lib.hid (P2.out.ext x3)
      clear x3
      obtain ⟨A3, n3, c3, rfl⟩ := o3.slice
      clear o3
      go_wp2_with (first
        | (at_builtin; go_loud (refine wpList_app _ rfl _ _ w2.heap.size 22 5 _ 1 .u8 rfl Try.underlying22 info8 rfl (by omega) (.slice A3 n3 c3) L1 rfl O3.out (.slice Ab L2.length cb) L2 rfl B3.out (by have := N1.out; have := N2.out; omega) X3b.out ?_); intro u4 w4 o4 g4 _
           have x4 : Ext w w4 := X3.out.grown g4 (fun g h => by have := O3.out.low g h; have := HS2.out; omega)
           have x4' : Ext w2 w4 := X23.out.grown g4 (fun g h => O3.out.low g h)
           have R4 := Lib.hid o4.row
           have X4 := Lib.hid x4
           have X24 := Lib.hid x4'
           clear x4 x4' o4 g4))
      refine (HCC.out _ _ R4.out).mono ?_
      rintro e w5 ⟨v5, rfl, ⟨u5, rfl, o5⟩, x5⟩
      have P5 := Lib.hid o5.row
      have X5 := Lib.hid (X4.out.trans x5)
      have P15 := Lib.hid (P12.out.ext (X24.out.trans x5))
      have P25 := Lib.hid (P2.out.ext (X24.out.trans x5))
      clear o5 x5
      obtain ⟨LB, hLB⟩ : ∃ LB, LB = l ++ m.map (mv L1.length) := ⟨_, rfl⟩
      obtain ⟨nl, hnl⟩ : ∃ n, l.length = n := ⟨_, rfl⟩
      obtain ⟨nm, hnm⟩ : ∃ n, m.length = n := ⟨_, rfl⟩
      obtain ⟨d, hd⟩ : ∃ d, L1.length = d := ⟨_, rfl⟩
      have hlen : LB.length = nl + nm := by rw [hLB, List.length_append, List.length_map, hnl, hnm]
      have htk : LB.take nl = l := by rw [hLB, ← hnl]; exact List.take_left
      have hgn : ∀ k, k < nm → gn LB (nl + k) = mv d (gn m k) := fun k hk => by rw [hLB, ← hnl, ← hd]; exact gn_behind (by omega)
      have hrg := HRG.out trivial
      have hdn : d ≤ 4000 := by rw [← hd]; exact N1.out
      rw [← hLB] at P5
      have P5 : Hid (RowI w5 u5 LB) := P5
      obtain ⟨vh, s1, s2, hh⟩ := headI_slice P5.out nl (by omega)
      rw [htk] at hh
      have HH := Lib.hid hh
      obtain ⟨A5, c5, hv5, hc5, hm5, -⟩ := P5.out.cut
      rw [hlen] at hv5 hc5
      subst hv5
      unfold maxLen at hm5
      have HS := Lib.hid (fun W (e : Ext w5 W) => refSameL_any vh (.slice Al l.length cl) l l W (HH.out.ext e) (P15.out.ext e))
      rw [decide_eq_true (rfl : l = l)] at HS
      rw [hnl] at HS P15 ⊢
      rw [hnm] at P25 ⊢
      rw [hd]
      have Hnm := Lib.hid hnm
      have Hlen := Lib.hid hlen
      have HGN := Lib.hid hgn
      have HR := Lib.hid hrg
      have HDN := Lib.hid hdn
      have ew : IntKind.i64.wrap ((nl : Int) + (nm : Int)) = ((nl + nm : Nat) : Int) := by rw [IntKind.wrap_i64]; omega
      clear HA HB hh hLB hnl hnm hd hlen htk hgn hrg hdn HCC HC1 HC2 HCP HRG HZ N1 N2 P1 P2 P12 X1 X2 X23 X3b HS2 O3 B3 P13 P23 X3 X24 X4
      go_wp2_with fail
      refine (HS.out _ (Ext.refl _)).mono ?_
      rintro e w6 ⟨rfl, x6⟩
      have X56 := Lib.hid x6
      clear x6 s1 s2 HS
      go_wp2_with fail
      go_loopw [14] (fun i wr => ∃ (k : Nat), i = .int .i64 k ∧ k ≤ nm ∧ Hid (Ext w5 wr)) (fun i _ => nm - (intOf i).toNat)
      case atStart => exact ⟨0, rfl, by omega, X56⟩
      case round =>
        obtain ⟨k, rfl, hk, HX⟩ := hrel
        rename World => wo
        by_cases hlt : k < nm
        · have hkm : k < m.length := by have := Hnm.out; omega
          obtain ⟨b5, o5, rfl, hat5⟩ := P5.out.at (by have := Hlen.out; omega)
          obtain ⟨v1, v2, hat5⟩ := hat5 (nl + k) (by have := Hlen.out; omega)
          obtain ⟨bm, om, rfl, hatm⟩ := P25.out.at (by omega)
          obtain ⟨z1, z2, hatm⟩ := hatm k hkm
          obtain ⟨⟨y0, y1, y2, y3, y4, y5⟩, r1, r2⟩ := hat5 _ HX.out
          obtain ⟨A8, n8, rfl, -⟩ := r2
          obtain ⟨q8, hq8⟩ : ∃ q, (gn LB (nl + k)).ks.length = q := ⟨_, rfl⟩
          rw [hq8] at y5
          clear hq8
          obtain ⟨⟨c0, c1, c2, c3, c4, c5'⟩, q1, -⟩ := hatm _ HX.out
          rw [HGN.out k hlt] at y0 y1 y2 y3 r1
          have hr := HR.out _ (gn_mem hkm)
          have HA5 := Lib.hid hat5
          have HAM := Lib.hid hatm
          obtain ⟨x, hx⟩ : ∃ x, gn m k = x := ⟨_, rfl⟩
          rw [hx] at y0 y1 y2 y3 r1 c0 c1 c2 c3 q1 hr HAM
          obtain ⟨⟨ha0, ha1⟩, ht⟩ := hr
          obtain ⟨xa, xo, xn, xm, xt, xk⟩ := x
          unfold mv at y0 y1 y2 y3 r1
          simp only at y0 y1 y2 y3 r1 c0 c1 c2 c3 q1 ha0 ha1 ht
          have hd4 := HDN.out
          have ea : IntKind.i64.wrap (xa + (d : Int)) = xa + d := by rw [IntKind.wrap_i64]; omega
          obtain ⟨A6, n6, rfl, hl6, hm6, -⟩ := id r1
          rw [List.length_map] at hl6
          unfold maxLen at hm6
          obtain ⟨A7, n7, rfl, -⟩ := id q1
          rw [List.length_map] at y4
          have R1 := Lib.hid r1
          have Q1 := Lib.hid q1
          have HT := Lib.hid ht
          have ek : IntKind.i64.wrap ((nl : Int) + (k : Int)) = ((nl + k : Nat) : Int) := by rw [IntKind.wrap_i64]; omega
          have lb : bm < wo.heap.size := World.block_lt_of_cell? wo ⟨bm, om + k * 6, none⟩ c0
          have nb : ¬ bm = wo.heap.size := by omega
          clear hat5 hatm hx hkm r1 q1 ht ha0 ha1 hd4
          go_wp2_with fail
          go_quiet (fail)
          go_wp2_with fail
          clear y0 y1 y2 y3 y4 y5 c0 c1 c2 c3 c4 c5' ea ek
          go_loopw [16] (fun i ws => ∃ (j : Nat), i = .int .i64 j ∧ j ≤ xt.length ∧ Hid (Ext (wo.alloc (.cells #[.int .i64 (xa + d), .int .i64 xo, .int .i64 xn, .int .i64 xm, .slice A6 xt.length n6, .slice A8 q8 n8] 32)) ws)) (fun i _ => xt.length - (intOf i).toNat)
          case atStart => exact ⟨0, rfl, by omega, Lib.hid ((Ext.refl _).drewN _)⟩
          case round =>
            obtain ⟨j, rfl, hj, HY⟩ := hrel
            have HZ := Lib.hid (((Ext.refl wo).alloc _).trans HY.out)
            have y4 := (newAt HY.out 4).trans rfl
            obtain ⟨⟨-, -, -, -, c4, -⟩, -, -⟩ := HAM.out _ (HX.out.trans HZ.out)
            by_cases hlj : j < xt.length
            · obtain ⟨E1, m1, e1, -, -, -, -, g1⟩ := R1.out.ext HZ.out
              obtain ⟨E2, m2, e2', -, -, -, -, g2⟩ := Q1.out.ext HZ.out
              rw [List.length_map] at e1 g1
              injection e1 with e1 e1'
              injection e2' with e2 e2'
              obtain ⟨b6, o6, hA6, -, g1⟩ := g1 (by omega)
              obtain ⟨b7, o7, hA7, -, g2⟩ := g2 (by omega)
              have y6 := g1 j hlj
              have y7 := g2 j hlj
              rw [gi_map hlj] at y6
              rw [hA6] at e1
              rw [hA7] at e2
              subst e1 e2
              have hg := HT.out _ (gi_mem hlj)
              obtain ⟨z, hz⟩ : ∃ z, gi xt j = z := ⟨_, rfl⟩
              rw [hz] at y6 y7 hg
              have hd4 := HDN.out
              have ez : IntKind.i64.wrap (z + (d : Int)) = z + d := by rw [IntKind.wrap_i64]; omega
              clear g1 g2 hA6 hA7 e1' e2' hz hg hd4
              go_wp2_with fail
              go_quiet (fail)
              go_wp2_with fail
              go_roundw
              case rel => exact ⟨j + 1, by go_num, by omega, Lib.hid (HY.out.drewN _)⟩
              case measure => simp [intOf]; omega
            · go_wp2_with fail
              go_roundw
              case rel => exact ⟨k + 1, by go_num, by omega, Lib.hid (HX.out.trans HZ.out)⟩
              case measure => simp [intOf]; omega
        · go_wp2_with fail
          refine (awake_any _).mono ?_
          rintro e w7 ⟨rfl, x7⟩
          go_wp2
          go_ret
          exact ⟨rfl, (X5.out.trans HX.out).trans x7⟩
    · have hb : (e2 != 0) = true := by simpa using he2
      clear he2
      go_wp2_with fail
      refine (awake_any _).mono ?_
      rintro e w6 ⟨rfl, x6⟩
      go_wp2
      go_ret
      exact ⟨rfl, X2.out.trans x6⟩
  · have hb : (e1 != 0) = true := by simpa using he1
    clear he1
    go_wp2_with fail
    refine (awake_any _).mono ?_
    rintro e w6 ⟨rfl, x6⟩
    go_wp2
    go_ret
    exact ⟨rfl, X2.out.trans x6⟩

set_option maxRecDepth 100000 in
theorem codeBehind_lifted (os : Os) (started : os.Started) (H : Type) (enc : TypeId × Value → H) :
    ReturnsInHanded {} Try.checked os 3 .any (Rows.codeBehindSpec.pre6 enc Try.prog Try.f3 Rows.codeBehindRow.domain false) (Rows.codeBehindSpec.post enc Try.prog Try.f3 false true false false) := by
  refine returnsInHanded_of_change_sized (C := Try.checked) own started (by kernel_rfl) Try.func3
    (ChangeSpec.witness6 (enc := enc) (C := Try.checked) false ⟨#[], #[.slice none 0 0, .slice none 0 0], []⟩ 8 (by kernel_rfl) (by kernel_rfl) (by kernel_rfl) (by kernel_rfl)) ?_
  intro W base args ds gs before hval0 hW hcnd hsz0 _
  have hval : ∀ (j : Nat) t v, Try.f3.params[j]? = some t → args[j]? = some v → Value.okWide Try.prog W .any base t v := hval0
  have hsz : (DataW.weightsEach Try.prog (Try.f3.params.toList ++ Rows.codeBehindSpec.plain.varTypes Try.prog) (ds ++ gs)).all (· ≤ reachBytes) = true := hsz0
  have hW' := hW
  obtain ⟨p, q, hA0, hV, rfl, hfz, hnd⟩ := hW
  have hA : DataW.TrodAll enc Try.prog W 0 (fun _ => true) true Try.f3.params.toList args.toList ds p := hA0
  rw [Try.params3] at hA hval hsz
  obtain ⟨v0, vs0, d0, ds0, p0, q0, hargs, rfl, rfl, h0, r0⟩ := trodAll_cons hA
  obtain ⟨v1, vs1, d1, ds1, p1, q1, rfl, rfl, rfl, h1, r1⟩ := trodAll_cons r0
  obtain ⟨rfl, rfl, rfl⟩ := trodAll_nil r1
  obtain rfl : args = #[v0, v1] := by cases args; simp_all
  obtain ⟨rfl, rfl⟩ := trodVars_none hV
  obtain ⟨a0, len0, cap0, rfl⟩ := okWide_slice Try.underlying22 (hval 0 22 v0 rfl rfl)
  have k0 := h0
  have lt0 : ∀ x ∈ p0, x.block < W.heap.size := by obtain ⟨m, hm⟩ := k0; exact DataW.trod_lt m _ _ _ hm
  obtain ⟨l0, w0, z0⟩ : ∃ l, Row W .u8 (.slice a0 len0 cap0) l ∧ l.length ≤ 140737488351232 := by
    obtain ⟨fuel, hf⟩ := h0
    obtain ⟨A, n, c, l, hcs, hln, hrow, hb⟩ := open_listI (bytes := 1) Try.underlying22 Try.underlying5 (by kernel_rfl) (by kernel_rfl) hf (light_of hsz (j := 0) rfl rfl)
    simp [Value.cells] at hcs
    obtain ⟨rfl, rfl, rfl⟩ := hcs
    have e : reachBytes = 140737488351232 := rfl
    exact ⟨l, hrow, by omega⟩
  obtain ⟨a1, len1, cap1, rfl⟩ := okWide_slice Try.underlying22 (hval 1 22 v1 rfl rfl)
  have k1 := h1
  have lt1 : ∀ x ∈ p1, x.block < W.heap.size := by obtain ⟨m, hm⟩ := k1; exact DataW.trod_lt m _ _ _ hm
  obtain ⟨l1, w1, z1⟩ : ∃ l, Row W .u8 (.slice a1 len1 cap1) l ∧ l.length ≤ 140737488351232 := by
    obtain ⟨fuel, hf⟩ := h1
    obtain ⟨A, n, c, l, hcs, hln, hrow, hb⟩ := open_listI (bytes := 1) Try.underlying22 Try.underlying5 (by kernel_rfl) (by kernel_rfl) hf (light_of hsz (j := 1) rfl rfl)
    simp [Value.cells] at hcs
    obtain ⟨rfl, rfl, rfl⟩ := hcs
    have e : reachBytes = 140737488351232 := rfl
    exact ⟨l, hrow, by omega⟩
  clear hA0 hval0 hsz0
  refine (codeBehind_walk W (.slice a0 len0 cap0) l0 w0 z0 (.slice a1 len1 cap1) l1 w1 z1).mono fun e W' ⟨he, bel⟩ => ?_
  subst he
  exact ⟨_, rfl, _, _, _, [], _, [], hW', trodAll_mk1 (shut_bool Try.underlying4 _), (trodAll_cons_mk (Below.trod laidOut (by kernel_rfl) (of_decide_eq_true (by kernel_rfl)) k0 bel lt0) (trodAll_cons_mk (Below.trod laidOut (by kernel_rfl) (of_decide_eq_true (by kernel_rfl)) k1 bel lt1) trodAll_mk0)), rfl, bel.frame _, fun h => by cases h⟩

theorem codeBehind_over : Rows.codeBehindRow.holds Try.pinned (OpenSpec.ofChange Rows.codeBehindSpec) :=
  OpenClaim.holds_of_wide 3 Try.f3 rfl rfl rfl rfl rfl rfl rfl ⟨rfl, rfl, rfl, rfl, rfl⟩ rfl rfl rfl rfl rfl (by kernel_rfl) Try.func3 (by kernel_rfl)
    (of_decide_eq_true (by kernel_rfl)) (by unfold Func.isWrapper; first | (rw [if_pos (by decide +kernel)]; kernel_rfl) | (rw [if_neg (by decide +kernel)]; exact ⟨rfl, rfl⟩))
    (fun os started H enc _ => codeBehind_lifted os started H enc)

/-- The statement. -/
theorem codeBehind_proved : Rows.CodeBehindSaid := codeBehind_over
#print axioms codeBehind_proved

end Go.Proofs.Ythobicnhophdlaa
