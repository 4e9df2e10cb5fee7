/- OpsDecode: the instruction at a byte, and where the next one begins, or what is wrong, is the document's. Of all bytes and places. -/
import Derived.Test.YtdjenhgngjmkjaaOOpen
import Derived.Test.YtdjenhgngjmkjaaOpsAw
import Derived.Test.YtdjenhgngjmkjaaOpsDe
import Derived.Test.YtdjenhgngjmkjaaOpsRd
import Derived.Test.YtdjenhgngjmkjaaOpsC
import Derived.Test.YtdjenhgngjmkjaaEq0
namespace Go.Proofs.Ytdjenhgngjmkjaa
open Go.ChangeShapes Go.WideShapes Go.ChangeAt Go.RowKit
open Go.ChangeMaps (open_string shut_string)
set_option linter.unusedVariables false
theorem refDecode_any (v : Value) (l : List Int) (k : Int) (w : World) (h : Row w .u8 v l) (hl : l.length ≤ 140737488355328) :
    Calls Try.prog 14 #[v, .int .i64 k] w (Ret w (DecAns w.heap.size (opsDec l k))) := by
  by_cases hk : k < 0 ∨ (l.length : Int) ≤ k ∨ 8192 ≤ k
  · rw [show opsDec l k = (i0, 0, 9) by unfold opsDec; rw [if_pos hk]]
    exact refDecode_out v l k w h hk
  · obtain ⟨n, rfl⟩ : ∃ n : Nat, k = n := ⟨k.toNat, by omega⟩
    by_cases ho : 89 < gi l n
    · rw [dec_at (by omega) (by omega), if_pos ho]
      exact refDecode_op v l n w h (by omega) (by omega) ho
    · exact refDecode_in v l n w h hl (by omega) (by omega) (by omega)
set_option maxRecDepth 100000 in
set_option maxHeartbeats 4000000 in
theorem opsDecode_walk (w : World) (v : Value) (l : List Int) (h : Row w .u8 v l) (hl : l.length ≤ 140737488351232) (a : Int) (ha : -9223372036854775808 ≤ a ∧ a ≤ 9223372036854775807) : Calls Try.prog 3 #[v, .int .i64 a] w fun e w' => e = .returned (.bool true) ∧ Ext w w' := by
  have H0 := Lib.hid h
  obtain ⟨A, c, rfl, -⟩ := h
  have HC := Lib.hid (copyBytes_any _ l w H0.out (by omega))
  have HD := Lib.hid (fun W u (o : Row W .u8 u l) => Decode_any u l a W o)
  have HR := Lib.hid (fun W (e : Ext w W) => refDecode_any _ l a W (H0.out.ext e) (by omega))
  obtain ⟨R, hR⟩ : ∃ R, opsDec l a = R := ⟨_, rfl⟩
  rw [hR] at HD HR
  obtain ⟨x, n, er⟩ := R
  have HS := Lib.hid (fun W u1 u2 t1 t2 (o1 : Row W .i64 u1 x.to) (o2 : Row W .i64 u2 x.ks) (o3 : Row W .i64 t1 x.to) (o4 : Row W .i64 t2 x.ks) => refSame_any x x u1 u2 t1 t2 W o1 o2 o3 o4)
  have HQ := Lib.hid (fun W u (o : Row W .u8 u l) (e : Ext w W) => eqBytes_any u _ l l W o (H0.out.ext e))
  rw [show decide (l = l) = true by simp] at HQ
  unfold In.vals at HS
  clear hR ha hl
  go_enter Try.func3, Try.ntmps3
  go_wp2_with fail
  refine HC.out.mono ?_
  rintro e w1 ⟨v', rfl, o, x1⟩
  have O := Lib.hid o.row
  have X1 := Lib.hid x1
  clear o x1
  go_wp2_with fail
  refine (HD.out _ _ O.out).mono ?_
  rintro e w2 ⟨v2, rfl, ⟨u1, u2, rfl, o1, o2⟩, x2⟩
  obtain ⟨B1, n1, c1, rfl⟩ := o1.slice
  obtain ⟨B2, n2, c2, rfl⟩ := o2.slice
  have O1 := Lib.hid o1.row
  have O2 := Lib.hid o2.row
  have X2 := Lib.hid x2
  clear o1 o2 x2
  unfold In.vals
  go_wp2_with fail
  have A1 := Lib.hid ((Ext.refl w2).alloc (.cells #[.int .i64 x.a, .int .i64 x.o, .int .i64 x.n, .int .i64 x.m, .slice B1 n1 c1, .slice B2 n2 c2] 26))
  have HB := Lib.hid (fun W (e : Ext (w2.alloc (.cells #[.int .i64 x.a, .int .i64 x.o, .int .i64 x.n, .int .i64 x.m, .slice B1 n1 c1, .slice B2 n2 c2] 26)) W) => boxed (w := w2) (W := W) (x := x) (v1 := .slice B1 n1 c1) (v2 := .slice B2 n2 c2) e)
  unfold In.vals at HB
  refine (HR.out _ (X1.out.trans (X2.out.trans A1.out))).mono ?_
  rintro e w3 ⟨v3, rfl, ⟨t1, t2, rfl, o1, o2⟩, x3⟩
  obtain ⟨C1, m1, d1, rfl⟩ := o1.slice
  obtain ⟨C2, m2, d2, rfl⟩ := o2.slice
  unfold In.vals
  have A2 := Lib.hid ((Ext.refl w3).alloc (.cells #[.int .i64 x.a, .int .i64 x.o, .int .i64 x.n, .int .i64 x.m, .slice C1 m1 d1, .slice C2 m2 d2] 26))
  have O3 := Lib.hid o1.row
  have O4 := Lib.hid o2.row
  have X3 := Lib.hid x3
  clear o1 o2 x3
  obtain ⟨b0, b1, b2, b3, b4, b5⟩ := HB.out _ (X3.out.trans A2.out)
  go_wp2_with fail
  refine (HS.out _ _ _ _ _ (O1.out.ext (A1.out.trans (X3.out.trans A2.out))) (O2.out.ext (A1.out.trans (X3.out.trans A2.out))) (O3.out.ext A2.out) (O4.out.ext A2.out)).mono ?_
  rintro e w4 ⟨rfl, x4⟩
  rw [show decide True = true from rfl]
  have X4 := Lib.hid (A1.out.trans (X3.out.trans (A2.out.trans x4)))
  clear x4 b0 b1 b2 b3 b4 b5
  go_wp2_with fail
  refine (HQ.out _ _ (O.out.ext (X2.out.trans X4.out)) (X1.out.trans (X2.out.trans X4.out))).mono ?_
  rintro e w5 ⟨rfl, n5, rfl⟩
  go_wp2_with fail
  refine (awake_any _).mono ?_
  rintro e w6 ⟨rfl, x6⟩
  go_wp2
  go_ret
  exact ⟨rfl, X1.out.trans (X2.out.trans (X4.out.trans (((Ext.refl w4).drewN n5).trans x6)))⟩

set_option maxRecDepth 100000 in
theorem opsDecode_lifted (os : Os) (started : os.Started) (H : Type) (enc : TypeId × Value → H) :
    ReturnsInHanded {} Try.checked os 3 .any (Rows.opsDecodeSpec.pre6 enc Try.prog Try.f3 Rows.opsDecodeRow.domain false) (Rows.opsDecodeSpec.post enc Try.prog Try.f3 false true false false) := by
  refine returnsInHanded_of_change_sized (C := Try.checked) own started (by kernel_rfl) Try.func3
    (ChangeSpec.witness6 (enc := enc) (C := Try.checked) false ⟨#[], #[.slice none 0 0, .int .i64 0], []⟩ 8 (by kernel_rfl) (by kernel_rfl) (by kernel_rfl) (by kernel_rfl)) ?_
  intro W base args ds gs before hval0 hW hcnd hsz0 _
  have hval : ∀ (j : Nat) t v, Try.f3.params[j]? = some t → args[j]? = some v → Value.okWide Try.prog W .any base t v := hval0
  have hsz : (DataW.weightsEach Try.prog (Try.f3.params.toList ++ Rows.opsDecodeSpec.plain.varTypes Try.prog) (ds ++ gs)).all (· ≤ reachBytes) = true := hsz0
  have hW' := hW
  obtain ⟨p, q, hA0, hV, rfl, hfz, hnd⟩ := hW
  have hA : DataW.TrodAll enc Try.prog W 0 (fun _ => true) true Try.f3.params.toList args.toList ds p := hA0
  rw [Try.params3] at hA hval hsz
  obtain ⟨v0, vs0, d0, ds0, p0, q0, hargs, rfl, rfl, h0, r0⟩ := trodAll_cons hA
  obtain ⟨v1, vs1, d1, ds1, p1, q1, rfl, rfl, rfl, h1, r1⟩ := trodAll_cons r0
  obtain ⟨rfl, rfl, rfl⟩ := trodAll_nil r1
  obtain rfl : args = #[v0, v1] := by cases args; simp_all
  obtain ⟨rfl, rfl⟩ := trodVars_none hV
  obtain ⟨a0, len0, cap0, rfl⟩ := okWide_slice Try.underlying22 (hval 0 22 v0 rfl rfl)
  have k0 := h0
  have lt0 : ∀ x ∈ p0, x.block < W.heap.size := by obtain ⟨m, hm⟩ := k0; exact DataW.trod_lt m _ _ _ hm
  obtain ⟨l0, w0, z0⟩ : ∃ l, Row W .u8 (.slice a0 len0 cap0) l ∧ l.length ≤ 140737488351232 := by
    obtain ⟨fuel, hf⟩ := h0
    rcases open_ints Try.underlying22 Try.underlying5 (by kernel_rfl) hf with ⟨hcs, _⟩ | ⟨x, l, c, zs, hcs, _, hl, hm, hz, hx, hcell, hwz⟩
    · simp [Value.cells] at hcs
      obtain ⟨rfl, rfl, rfl⟩ := hcs
      exact ⟨[], (Own.nil 0 _ 0 _).row, by simp⟩
    · simp [Value.cells] at hcs
      obtain ⟨rfl, rfl, rfl⟩ := hcs
      simp only [if_true] at hz
      refine ⟨_, row_of_open hl hm hz hcell hwz, ?_⟩
      have hd : d0 = _ := congrArg Prod.fst hx
      have hs := sized_slice hsz (j := 0) rfl (by rw [hd]; rfl) Try.underlying22
      rw [bytes8] at hs
      simp only [lits, List.length_map, List.length_take, List.length_drop, reachBytes] at hs
      simp only [List.length_take]
      omega
  obtain ⟨a1, rfl, rfl, rfl, w1⟩ := open_int Try.underlying3 (hval 1 3 v1 rfl rfl) h1
  have z1 := bounds_i64 w1
  clear hA0 hval0 hsz0
  refine (opsDecode_walk W (.slice a0 len0 cap0) l0 w0 z0 a1 z1).mono fun e W' ⟨he, bel⟩ => ?_
  subst he
  exact ⟨_, rfl, _, _, _, [], _, [], hW', trodAll_mk1 (shut_bool Try.underlying4 _), (trodAll_cons_mk (Below.trod laidOut (by kernel_rfl) (of_decide_eq_true (by kernel_rfl)) k0 bel lt0) (trodAll_cons_mk (shut_int Try.underlying3 w1) trodAll_mk0)), rfl, bel.frame _, fun h => by cases h⟩

theorem opsDecode_over : Rows.opsDecodeRow.holds Try.pinned (OpenSpec.ofChange Rows.opsDecodeSpec) :=
  OpenClaim.holds_of_wide 3 Try.f3 rfl rfl rfl rfl rfl rfl rfl ⟨rfl, rfl, rfl, rfl, rfl⟩ rfl rfl rfl rfl rfl (by kernel_rfl) Try.func3 (by kernel_rfl)
    (of_decide_eq_true (by kernel_rfl)) (by unfold Func.isWrapper; first | (rw [if_pos (by decide +kernel)]; kernel_rfl) | (rw [if_neg (by decide +kernel)]; exact ⟨rfl, rfl⟩))
    (fun os started H enc _ => opsDecode_lifted os started H enc)

/-- The statement. -/
theorem opsDecode_proved : Rows.OpsDecodeSaid := opsDecode_over
#print axioms opsDecode_proved

end Go.Proofs.Ytdjenhgngjmkjaa
