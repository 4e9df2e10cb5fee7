/- The statements' own 'works', walked. -/
import Derived.Test.YtibcaienaejgpaaDescX
namespace Go.Proofs.Ytibcaienaejgpaa
open Go.RowKit
set_option linter.unusedVariables false

def w1P : Pr := ⟨t0, [⟨1, []⟩, ⟨5, []⟩, ⟨3, [98]⟩]⟩
def w2P : Pr := ⟨⟨1, []⟩, [⟨2, []⟩, ⟨1, []⟩]⟩
theorem RowT.cut {w : World} {v : Value} {l : List Ty} (h : RowT w v l) : ∃ A c, v = .slice A l.length c ∧ l.length ≤ c ∧ c ≤ maxLen := by
  obtain ⟨A, c, h1, h2, h3, -⟩ := h
  exact ⟨A, c, h1, h2, h3⟩
/-- A proto's cells in a block. -/
def AtP (w : World) (g : Nat) (p : Pr) (v : Value) : Prop := w.cell? ⟨g, 0, none⟩ = some (.int .i64 p.ret.k) ∧ w.cell? ⟨g, 1, none⟩ = some (.string (bs p.ret.s)) ∧ w.cell? ⟨g, 2, none⟩ = some v
theorem AtP.of {w : World} {g : Nat} {p : Pr} {v : Value} {T : TypeId} (h : w.heap[g]? = some (.cells (p.vals v) T (0, 0))) : AtP w g p v := by
  refine ⟨?_, ?_, ?_⟩
  all_goals
    rw [cell_of_row w g _ _ T (0, 0) h]
    rfl
theorem AtP.ext {w w' : World} {g : Nat} {p : Pr} {v : Value} (h : AtP w g p v) (he : Ext w w') (hg : g < w.heap.size) : AtP w' g p v := by
  obtain ⟨h0, h1, h2⟩ := h
  exact ⟨(he.cell (p := ⟨g, 0, none⟩) hg).trans h0, (he.cell (p := ⟨g, 1, none⟩) hg).trans h1, (he.cell (p := ⟨g, 2, none⟩) hg).trans h2⟩
/-- IsName, its answer given. -/
theorem name_any (l : List UInt8) (b : Bool) (h : nameB l = b) (hl : l.length ≤ 140737488351232) (w : World) :
    Calls Try.prog 17 #[.string (bs l)] w fun e w' => e = .returned (.bool b) ∧ Ext w w' := by
  subst h
  exact IsName_any l w hl
set_option maxHeartbeats 4000000 in
theorem works_any (w : World) : Calls Try.prog 19 #[] w fun e w' => e = .returned (.bool true) ∧ Ext w w' := by
  have c1 : ∀ W, Calls Try.prog 14 #[.string (bs [40, 73, 91, 74, 76, 98, 59, 41, 86])] W fun e w' => ∃ v, e = .returned (.tuple #[.agg #[.int .i64 0, .string (bs []), v], .int .i64 0]) ∧ RowT w' v w1P.args ∧ Ext W w' := fun W => by
    have := Proto_any [40, 73, 91, 74, 76, 98, 59, 41, 86] (by decide) W
    unfold ProtoAns at this
    rw [show protoZ [40, 73, 91, 74, 76, 98, 59, 41, 86] = (w1P, 0) by decide +kernel] at this
    exact this
  have c2 : ∀ W, Calls Try.prog 14 #[.string (bs [40, 74, 73, 41, 73])] W fun e w' => ∃ v, e = .returned (.tuple #[.agg #[.int .i64 1, .string (bs []), v], .int .i64 0]) ∧ RowT w' v w2P.args ∧ Ext W w' := fun W => by
    have := Proto_any [40, 74, 73, 41, 73] (by decide) W
    unfold ProtoAns at this
    rw [show protoZ [40, 74, 73, 41, 73] = (w2P, 0) by decide +kernel] at this
    exact this
  have C1 := Lib.hid c1
  have C2 := Lib.hid c2
  have i1 := Lib.hid (fun W => is_yes ⟨1, []⟩ (by decide) W)
  have i2 := Lib.hid (fun W => is_yes ⟨6, [97]⟩ (by decide) W)
  have n1 := Lib.hid (fun W => none_yes [86] (by decide) (by decide +kernel) (by decide +kernel) W)
  have n2 := Lib.hid (fun W => none_yes [91, 91, 73] (by decide) (by decide +kernel) (by decide +kernel) W)
  have n3 := Lib.hid (fun W => none_yes [76, 59] (by decide) (by decide +kernel) (by decide +kernel) W)
  have n4 := Lib.hid (fun W => none_yes [73, 73] (by decide) (by decide +kernel) (by decide +kernel) W)
  have m1 := Lib.hid (fun W => name_any [97, 36, 49] true (by decide) (by decide) W)
  have m2 := Lib.hid (fun W => name_any [49, 97] false (by decide) (by decide) W)
  have ww := Lib.hid (fun W => Words_any ⟨2, []⟩ W)
  rw [show wordsT ⟨2, []⟩ = 2 from rfl] at ww
  clear c1 c2
  go_enter Try.func19, Try.ntmps19
  go_wp2_with fail
  refine (C1.out _).mono ?_
  rintro e w1 ⟨v1, rfl, hr1, x1⟩
  obtain ⟨A1, k1, hv1, hk1, hm1⟩ := hr1.cut
  rw [show w1P.args.length = 3 from rfl] at hv1 hk1
  subst hv1
  unfold maxLen at hm1
  have R1 := Lib.hid (hr1.ext ((Ext.refl _).alloc (.cells (w1P.vals (.slice A1 3 k1)) 29)))
  have c3 := Lib.hid (WriteProto_any _ w1P _ R1.out (by decide))
  have hp1 := AtP.of (heap_alloc_new w1 (.cells (w1P.vals (.slice A1 3 k1)) 29))
  have HP1 := Lib.hid hp1
  have X1 := Lib.hid (x1.alloc (.cells (w1P.vals (.slice A1 3 k1)) 29))
  clear x1 hr1 hp1
  go_wp2_with fail
  refine c3.out.mono ?_
  rw [show writeP w1P = ([40, 73, 91, 74, 76, 98, 59, 41, 86], 0) by decide +kernel]
  rintro e w2 ⟨rfl, x2⟩
  have R2 := Lib.hid (R1.out.ext x2)
  have HP2 := Lib.hid (HP1.out.ext x2 (by simp))
  have X2 := Lib.hid (X1.out.trans x2)
  have hs2 : w1.heap.size < w2.heap.size := by have := x2.size; simp at this; omega
  clear x2
  go_wp2_with fail
  refine (C2.out _).mono ?_
  rintro e w3 ⟨v3, rfl, hr3, x3⟩
  obtain ⟨A3, k3, hv3, hk3, hm3⟩ := hr3.cut
  rw [show w2P.args.length = 2 from rfl] at hv3 hk3
  subst hv3
  unfold maxLen at hm3
  have R3 := Lib.hid (hr3.ext ((Ext.refl _).alloc (.cells (w2P.vals (.slice A3 2 k3)) 29)))
  have HP3 := Lib.hid (AtP.of (heap_alloc_new w3 (.cells (w2P.vals (.slice A3 2 k3)) 29)))
  have e3 : Ext w2 (w3.alloc (.cells (w2P.vals (.slice A3 2 k3)) 29)) := x3.alloc _
  have X3 := Lib.hid (X2.out.trans e3)
  have Q3 := Lib.hid (HP2.out.ext e3 hs2)
  have S3 := Lib.hid (R2.out.ext e3)
  have hs3 : w2.heap.size ≤ w3.heap.size := x3.size
  clear x3 hr3 e3
  go_wp2_with fail
  refine (i1.out _).mono ?_
  rintro e w4 ⟨rfl, x4⟩
  go_wp2_with fail
  refine (i2.out _).mono ?_
  rintro e w5 ⟨rfl, x5⟩
  go_wp2_with fail
  refine (n1.out _).mono ?_
  rintro e w6 ⟨rfl, x6⟩
  go_wp2_with fail
  refine (n2.out _).mono ?_
  rintro e w7 ⟨rfl, x7⟩
  go_wp2_with fail
  refine (n3.out _).mono ?_
  rintro e w8 ⟨rfl, x8⟩
  go_wp2_with fail
  refine (n4.out _).mono ?_
  rintro e w9 ⟨rfl, x9⟩
  have y9 := ((((x4.trans x5).trans x6).trans x7).trans x8).trans x9
  have X9 := Lib.hid (X3.out.trans y9)
  have hs9 := y9.size
  have hs9' : w3.heap.size < w9.heap.size := by simp at hs9; omega
  obtain ⟨a0, a1, a2⟩ := Q3.out.ext y9 (by simp; omega)
  obtain ⟨b0, b1, b2⟩ := HP3.out.ext y9 (by simp)
  have R9 := Lib.hid (R3.out.ext y9)
  have S9 := Lib.hid (S3.out.ext y9)
  clear x4 x5 x6 x7 x8 x9 y9 hs9
  obtain ⟨A, c, hv, hc1, hc2, hc3, hc4, hg⟩ := S9.out
  injection hv with hv1 hv2 hv3
  obtain ⟨bb, o, ha, hbb, hcell⟩ := hg (by decide)
  have hA : A1 = some ⟨bb, o, none⟩ := hv1.trans ha
  subst hA
  have r0 : w9.cell? ⟨bb, o, none⟩ = some (.int .i64 1) := (hcell 0 (by decide)).1
  have r1 : w9.cell? ⟨bb, o + 1, none⟩ = some (.string (bs [])) := (hcell 0 (by decide)).2
  have r2 : w9.cell? ⟨bb, o + 2, none⟩ = some (.int .i64 5) := (hcell 1 (by decide)).1
  have r3 : w9.cell? ⟨bb, o + 2 + 1, none⟩ = some (.string (bs [])) := (hcell 1 (by decide)).2
  have r4 : w9.cell? ⟨bb, o + 4, none⟩ = some (.int .i64 3) := (hcell 2 (by decide)).1
  have r5 : w9.cell? ⟨bb, o + 4 + 1, none⟩ = some (.string (bs [98])) := (hcell 2 (by decide)).2
  have r3' : w9.cell? ⟨bb, o + 3, none⟩ = some (.string (bs [])) := r3
  have r5' : w9.cell? ⟨bb, o + 5, none⟩ = some (.string (bs [98])) := r5
  have q0 : ∀ W, (binOp .eql 23 (.agg #[.int .i64 0, .string (bs [])]) (.agg #[.int .i64 0, .string ⟨#[]⟩])).run Try.prog W = .ok (.bool true) W := fun W => run_eqT t0 t0 W
  have q1 : ∀ W, (binOp .eql 23 (.agg #[.int .i64 1, .string (bs [])]) (.agg #[.int .i64 1, .string ⟨#[]⟩])).run Try.prog W = .ok (.bool true) W := fun W => run_eqT ⟨1, []⟩ ⟨1, []⟩ W
  have q2 : ∀ W, (binOp .eql 23 (.agg #[.int .i64 5, .string (bs [])]) (.agg #[.int .i64 5, .string ⟨#[]⟩])).run Try.prog W = .ok (.bool true) W := fun W => run_eqT ⟨5, []⟩ ⟨5, []⟩ W
  have q3 : ∀ W, (binOp .eql 23 (.agg #[.int .i64 3, .string (bs [98])]) (.agg #[.int .i64 3, .string ⟨#[98]⟩])).run Try.prog W = .ok (.bool true) W := fun W => run_eqT ⟨3, [98]⟩ ⟨3, [98]⟩ W
  have hk1' : 3 ≤ k1 := hk1
  clear hv1 ha hg hcell hv2 hv3 hc1 hc2 hc3 hc4
  unfold w1P at a0 a1
  simp only [t0] at a0 a1
  unfold w2P at b0 b1
  simp only at b0 b1
  have hbs := bs_nil [40, 73, 91, 74, 76, 98, 59, 41, 86]
  go_wp2_with fail
  refine (ww.out _).mono ?_
  rintro e w10 ⟨rfl, x10⟩
  have B0 := (x10.cell (p := ⟨w3.heap.size, 0, none⟩) hs9').trans b0
  have B1 := (x10.cell (p := ⟨w3.heap.size, 1, none⟩) hs9').trans b1
  have B2 := (x10.cell (p := ⟨w3.heap.size, 2, none⟩) hs9').trans b2
  have c4 := ArgWords_any _ w2P w10 (R9.out.ext x10) (by decide)
  rw [show wsum w2P.args = 3 from rfl] at c4
  have C4 := Lib.hid c4
  have X10 := Lib.hid (X9.out.trans x10)
  clear x10 c4
  go_wp2_with fail
  refine C4.out.mono ?_
  rintro e w11 ⟨rfl, x11⟩
  go_wp2_with fail
  refine (m1.out _).mono ?_
  rintro e w12 ⟨rfl, x12⟩
  go_wp2_with fail
  refine (m2.out _).mono ?_
  rintro e w13 ⟨rfl, x13⟩
  have X13 := Lib.hid (((X10.out.trans x11).trans x12).trans x13)
  clear x11 x12 x13
  go_wp2
  go_ret
  exact ⟨rfl, X13.out⟩
theorem ret_len {p : Pr} (h : checkP p = 0) : p.ret.s.length ≤ 140737488351232 := by
  unfold checkP at h
  split at h
  · cases h
  · split at h
    · rename_i _ ho
      unfold okP at ho
      simp only [Bool.and_eq_true, Bool.or_eq_true, decide_eq_true_eq] at ho
      rcases ho.1 with h1 | h1
      · rw [h1]
        decide
      · have := okT_name h1
        omega
    · cases h
theorem cell_alloc {w : World} {o : Obj} {a : Addr} {v : Value} (h : w.cell? a = some v) (hb : a.block < w.heap.size) : (w.alloc o).cell? a = some v := (((Ext.refl w).alloc o).cell hb).trans h
end Go.Proofs.Ytibcaienaejgpaa
