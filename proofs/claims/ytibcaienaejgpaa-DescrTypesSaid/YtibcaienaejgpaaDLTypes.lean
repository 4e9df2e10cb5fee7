/- DescrTypes: CheckType, WriteType, Words, Val, Elem and Over answer as the chapter says. Of every type. -/
import Derived.Test.YtibcaienaejgpaaDOpen
import Derived.Test.YtibcaienaejgpaaDescY
import Derived.RegionCalls
import Derived.Deep.RegionWith
import Derived.Deep.RegionHeld3
namespace Go.Proofs.Ytibcaienaejgpaa
open Go.ChangeShapes Go.WideShapes Go.ChangeAt Go.RowKit
open Go.ChangeMaps (open_string shut_string)
set_option linter.unusedVariables false
theorem AtT.more {w w' : World} {g : Nat} {t : Ty} {o : Obj} (h : AtT w g t) (hg : g < w.heap.size) (x : Ext (w.alloc o) w') : AtT w' g t ∧ g < w'.heap.size :=
  ⟨h.ext (((Ext.refl w).alloc o).trans x) hg, by have := x.size; simp at this; omega⟩
theorem AtT.made (w : World) (t : Ty) {w' : World} (x : Ext (w.alloc (.cells t.vals 23)) w') : AtT w' w.heap.size t ∧ w.heap.size < w'.heap.size :=
  ⟨(AtT.of (t := t) (heap_alloc_new w _)).ext x (by simp), by have := x.size; simp at this; omega⟩
/-- Five blocks' types. -/
def Ten (g0 g1 g2 g3 g4 : Nat) (t E O : Ty) (w : World) : Prop := AtT w g0 t ∧ AtT w g1 E ∧ AtT w g2 E ∧ AtT w g3 O ∧ AtT w g4 O ∧ g0 < w.heap.size ∧ g1 < w.heap.size ∧ g2 < w.heap.size ∧ g3 < w.heap.size ∧ g4 < w.heap.size
theorem Ten.ext {g0 g1 g2 g3 g4 : Nat} {t E O : Ty} {w w' : World} (h : Ten g0 g1 g2 g3 g4 t E O w) (x : Ext w w') : Ten g0 g1 g2 g3 g4 t E O w' := by
  obtain ⟨h0, h1, h2, h3, h4, l0, l1, l2, l3, l4⟩ := h
  have := x.size
  exact ⟨h0.ext x l0, h1.ext x l1, h2.ext x l2, h3.ext x l3, h4.ext x l4, by omega, by omega, by omega, by omega, by omega⟩
set_option maxRecDepth 100000 in
set_option maxHeartbeats 8000000 in
theorem descrTypes_walk (w : World) (t : Ty) (hk : I64 t.k) (hl : t.s.length ≤ 140737488351232) : Calls Try.prog 4 #[.agg t.vals] w (fun e w' => e = .returned (.bool true) ∧ Ext w w') := by
  have c1 := fun W => CheckType_any t W hl
  have c2 := fun W => refCheckType_any t W hl
  have c3 := fun W => Words_any t W
  have c4 := fun W => refWords_any t W
  have c5 := fun W => Val_any t W
  have c6 := fun W => refVal_any t W
  have c7 := fun W => WriteType_any t W hl
  have c8 := fun W => refWriteType_any t W hl
  have c9 := fun W => Elem_any t W hl
  have c10 := fun W => refElem_any t W
  have c11 := fun W => Over_any t W hl
  have c12 := fun W => refOver_any t W
  obtain ⟨k1, h1⟩ : ∃ k1, k1 = checkT t := ⟨_, rfl⟩
  obtain ⟨k3, h3⟩ : ∃ k3, k3 = wordsT t := ⟨_, rfl⟩
  obtain ⟨k5, h5⟩ : ∃ k5, k5 = valT t := ⟨_, rfl⟩
  obtain ⟨Z, h7⟩ : ∃ Z, Z = writeT t := ⟨_, rfl⟩
  obtain ⟨⟨E, eb⟩, h9⟩ : ∃ E, E = elemT t := ⟨_, rfl⟩
  obtain ⟨⟨O, ob⟩, h11⟩ : ∃ O, O = overT t := ⟨_, rfl⟩
  rw [← h1] at c1 c2
  rw [← h3] at c3 c4
  rw [← h5] at c5 c6
  rw [← h7] at c7 c8
  rw [← h9] at c9 c10
  rw [← h11] at c11 c12
  simp only at c9 c10 c11 c12
  have q1 := fun W => run_eqT E E W
  rw [show eqT E E = true by simp [eqT]] at q1
  have q2 := fun W => run_eqT O O W
  rw [show eqT O O = true by simp [eqT]] at q2
  have hbs := bs_nil Z.1
  unfold Ty.vals at c1 c2 c3 c4 c5 c6 c7 c8 c9 c10 c11 c12 q1 q2 ⊢
  have C1 := Lib.hid c1
  have C2 := Lib.hid c2
  have C3 := Lib.hid c3
  have C4 := Lib.hid c4
  have C5 := Lib.hid c5
  have C6 := Lib.hid c6
  have C7 := Lib.hid c7
  have C8 := Lib.hid c8
  have C9 := Lib.hid c9
  have C10 := Lib.hid c10
  have C11 := Lib.hid c11
  have C12 := Lib.hid c12
  clear c1 c2 c3 c4 c5 c6 c7 c8 c9 c10 c11 c12 h1 h3 h5 h7 h9 h11
  go_enter Try.func4, Try.ntmps4
  go_wp2_with fail
  refine (C7.out _).mono ?_
  rintro e w1 ⟨rfl, x1⟩
  obtain ⟨a1, la1⟩ := AtT.made w t x1
  have X1 := Lib.hid (((Ext.refl w).alloc (.cells t.vals 23)).trans x1)
  clear x1
  obtain ⟨y0, y1⟩ := id a1
  go_wp2_with fail
  refine (C8.out _).mono ?_
  rintro e w2 ⟨rfl, x2⟩
  have a2 := a1.ext x2 la1
  have la2 : w.heap.size < w2.heap.size := Nat.lt_of_lt_of_le la1 x2.size
  have X2 := Lib.hid (X1.out.trans x2)
  clear x2 y0 y1 a1
  obtain ⟨y0, y1⟩ := id a2
  go_wp2_with fail
  refine (C9.out _).mono ?_
  rintro e w3 ⟨rfl, x3⟩
  have a3 := a2.ext x3 la2
  have la3 : w.heap.size < w3.heap.size := Nat.lt_of_lt_of_le la2 x3.size
  have X3 := Lib.hid (X2.out.trans x3)
  clear x3 y0 y1 a2
  obtain ⟨y0, y1⟩ := id a3
  go_wp2_with fail
  refine (C10.out _).mono ?_
  rintro e w4 ⟨rfl, x4⟩
  obtain ⟨a4, la4⟩ := a3.more la3 x4
  obtain ⟨b4, lb4⟩ := AtT.made w3 E x4
  have X4 := Lib.hid ((X3.out.alloc _).trans x4)
  clear x4 y0 y1 a3
  obtain ⟨y0, y1⟩ := id a4
  go_wp2_with fail
  refine (C11.out _).mono ?_
  rintro e w5 ⟨rfl, x5⟩
  obtain ⟨a5, la5⟩ := a4.more la4 x5
  obtain ⟨b5, lb5⟩ := b4.more lb4 x5
  obtain ⟨d5, ld5⟩ := AtT.made w4 E x5
  have X5 := Lib.hid ((X4.out.alloc _).trans x5)
  clear x5 y0 y1 a4 b4
  obtain ⟨y0, y1⟩ := id a5
  go_wp2_with fail
  refine (C12.out _).mono ?_
  rintro e w6 ⟨rfl, x6⟩
  obtain ⟨a6, la6⟩ := a5.more la5 x6
  obtain ⟨b6, lb6⟩ := b5.more lb5 x6
  obtain ⟨d6, ld6⟩ := d5.more ld5 x6
  obtain ⟨g6, lg6⟩ := AtT.made w5 O x6
  have X6 := Lib.hid ((X5.out.alloc _).trans x6)
  clear x6 y0 y1 a5 b5 d5
  obtain ⟨W0, hW0⟩ : ∃ W0, W0 = w6.alloc (.cells #[.int .i64 O.k, .string (bs O.s)] 23) := ⟨_, rfl⟩
  have f0 : Ten w.heap.size w3.heap.size w4.heap.size w5.heap.size w6.heap.size t E O W0 := by
    have x : Ext w6 W0 := by rw [hW0]; exact (Ext.refl _).alloc _
    have hs : W0.heap.size = w6.heap.size + 1 := by rw [hW0]; simp
    exact ⟨a6.ext x la6, b6.ext x lb6, d6.ext x ld6, g6.ext x lg6, by rw [hW0]; exact AtT.of (t := O) (heap_alloc_new w6 _), by omega, by omega, by omega, by omega, by omega⟩
  have F0 := Lib.hid f0
  have X0 : Hid (Ext w W0) := Lib.hid (by rw [hW0]; exact X6.out.alloc _)
  obtain ⟨⟨a00, a01⟩, ⟨b00, b01⟩, ⟨c00, c01⟩, ⟨d00, d01⟩, ⟨e00, e01⟩, -⟩ := f0
  clear a6 b6 d6 g6
  go_wp2_with fail
  rw [← hW0]
  clear hW0
  go_region_held3 (fun w' => w'.cell? ⟨w.heap.size, 0, none⟩ = some (.int .i64 t.k) ∧ w'.cell? ⟨w.heap.size, 1, none⟩ = some (.string (bs t.s)) ∧ w'.cell? ⟨w3.heap.size, 0, none⟩ = some (.int .i64 E.k) ∧ w'.cell? ⟨w3.heap.size, 1, none⟩ = some (.string (bs E.s)) ∧ w'.cell? ⟨w4.heap.size, 0, none⟩ = some (.int .i64 E.k) ∧ w'.cell? ⟨w4.heap.size, 1, none⟩ = some (.string (bs E.s)) ∧ w'.cell? ⟨w5.heap.size, 0, none⟩ = some (.int .i64 O.k) ∧ w'.cell? ⟨w5.heap.size, 1, none⟩ = some (.string (bs O.s)) ∧ w'.cell? ⟨w6.heap.size, 0, none⟩ = some (.int .i64 O.k) ∧ w'.cell? ⟨w6.heap.size, 1, none⟩ = some (.string (bs O.s))) (first | go_keep | (refine ⟨?_, ?_, ?_, ?_, ?_, ?_, ?_, ?_, ?_, ?_⟩ <;> assumption)) (first
    | (go_at_call 26; ((with_reducible refine (C1.out _).mono ?_); rintro e w11 ⟨rfl, x11'⟩); have x11 : Ext W0 w11 := ((Ext.refl W0).drew).trans x11'; obtain ⟨⟨a110, a111⟩, ⟨b110, b111⟩, ⟨c110, c111⟩, ⟨d110, d111⟩, ⟨e110, e111⟩, -⟩ := F0.out.ext x11)
    | (go_at_call 27; ((with_reducible refine (C2.out _).mono ?_); rintro e w12 ⟨rfl, x12'⟩); have x12 : Ext W0 w12 := x11.trans x12'; obtain ⟨⟨a120, a121⟩, ⟨b120, b121⟩, ⟨c120, c121⟩, ⟨d120, d121⟩, ⟨e120, e121⟩, -⟩ := F0.out.ext x12)
    | (go_at_call 28; ((with_reducible refine (C3.out _).mono ?_); rintro e w13 ⟨rfl, x13'⟩); have x13 : Ext W0 w13 := x12.trans x13'; obtain ⟨⟨a130, a131⟩, ⟨b130, b131⟩, ⟨c130, c131⟩, ⟨d130, d131⟩, ⟨e130, e131⟩, -⟩ := F0.out.ext x13)
    | (go_at_call 29; ((with_reducible refine (C4.out _).mono ?_); rintro e w14 ⟨rfl, x14'⟩); have x14 : Ext W0 w14 := x13.trans x14'; obtain ⟨⟨a140, a141⟩, ⟨b140, b141⟩, ⟨c140, c141⟩, ⟨d140, d141⟩, ⟨e140, e141⟩, -⟩ := F0.out.ext x14)
    | (go_at_call 30; ((with_reducible refine (C5.out _).mono ?_); rintro e w15 ⟨rfl, x15'⟩); have x15 : Ext W0 w15 := x14.trans x15'; obtain ⟨⟨a150, a151⟩, ⟨b150, b151⟩, ⟨c150, c151⟩, ⟨d150, d151⟩, ⟨e150, e151⟩, -⟩ := F0.out.ext x15)
    | (go_at_call 31; ((with_reducible refine (C6.out _).mono ?_); rintro e w16 ⟨rfl, x16'⟩); have x16 : Ext W0 w16 := x15.trans x16'; obtain ⟨⟨a160, a161⟩, ⟨b160, b161⟩, ⟨c160, c161⟩, ⟨d160, d161⟩, ⟨e160, e161⟩, -⟩ := F0.out.ext x16)
    | (go_at_call 19; ((with_reducible refine (works_any _).mono ?_); rintro e w17 ⟨rfl, x17'⟩); have x17 : Ext W0 w17 := x16.trans x17'; obtain ⟨⟨a170, a171⟩, ⟨b170, b171⟩, ⟨c170, c171⟩, ⟨d170, d171⟩, ⟨e170, e171⟩, -⟩ := F0.out.ext x17))
  all_goals
    go_wp2
    go_ret
    exact ⟨rfl, X0.out.trans x17⟩

set_option maxRecDepth 100000 in
theorem descrTypes_lifted (os : Os) (started : os.Started) (H : Type) (enc : TypeId × Value → H) :
    ReturnsInHanded {} Try.checked os 4 .any (Rows.descrTypesSpec.pre6 enc Try.prog Try.f4 Rows.descrTypesRow.domain false) (Rows.descrTypesSpec.post enc Try.prog Try.f4 false true false false) := by
  refine returnsInHanded_of_change_sized (C := Try.checked) own started (by kernel_rfl) Try.func4
    (ChangeSpec.witness6 (enc := enc) (C := Try.checked) false ⟨#[], #[.agg #[.int .i64 0, .string ⟨#[]⟩]], []⟩ 8 (by kernel_rfl) (by kernel_rfl) (by kernel_rfl) (by kernel_rfl)) ?_
  intro W base args ds gs before hval0 hW hcnd hsz0 _
  have hval : ∀ (j : Nat) t v, Try.f4.params[j]? = some t → args[j]? = some v → Value.okWide Try.prog W .any base t v := hval0
  have hsz : (DataW.weightsEach Try.prog (Try.f4.params.toList ++ Rows.descrTypesSpec.plain.varTypes Try.prog) (ds ++ gs)).all (· ≤ reachBytes) = true := hsz0
  have hW' := hW
  obtain ⟨p, q, hA0, hV, rfl, hfz, hnd⟩ := hW
  have hA : DataW.TrodAll enc Try.prog W 0 (fun _ => true) true Try.f4.params.toList args.toList ds p := hA0
  rw [Try.params4] at hA hval hsz
  obtain ⟨v0, vs0, d0, ds0, p0, q0, hargs, rfl, rfl, h0, r0⟩ := trodAll_cons hA
  obtain ⟨rfl, rfl, rfl⟩ := trodAll_nil r0
  obtain rfl : args = #[v0] := by cases args; simp_all
  obtain ⟨rfl, rfl⟩ := trodVars_none hV
  obtain ⟨cs0, rfl, -⟩ := okWide_struct Try.underlying23 (hval 0 23 v0 rfl rfl)
  have k0 := h0
  have lt0 : ∀ x ∈ p0, x.block < W.heap.size := by obtain ⟨m, hm⟩ := k0; exact DataW.trod_lt m _ _ _ hm
  obtain ⟨a0, e0, i0, z0⟩ : ∃ t : Ty, cs0 = t.vals ∧ I64 t.k ∧ t.s.length ≤ 140737488351232 := by
    obtain ⟨fuel, hf⟩ := h0
    obtain ⟨y, hy, hd, hk⟩ := open_type hf
    have hd : d0 = _ := hd
    refine ⟨y, ?_, hk, ?_⟩
    · have hy : cs0.toList = y.vals.toList := by simpa [Value.cells] using hy
      exact Array.toList_inj.1 hy
    · exact weights_at hsz (j := 0) rfl (by rw [hd]; rfl) _ (dat_weights y)
  subst e0
  clear hA0 hval0 hsz0
  refine (descrTypes_walk W a0 i0 z0).mono fun e W' ⟨he, bel⟩ => ?_
  subst he
  exact ⟨_, rfl, _, _, _, [], _, [], hW', trodAll_mk1 (shut_bool Try.underlying4 _), (trodAll_cons_mk (Below.trod laidOut (by kernel_rfl) (of_decide_eq_true (by kernel_rfl)) k0 bel lt0) trodAll_mk0), rfl, bel.frame _, fun h => by cases h⟩

theorem descrTypes_over : Rows.descrTypesRow.holds Try.pinned (OpenSpec.ofChange Rows.descrTypesSpec) :=
  OpenClaim.holds_of_wide 4 Try.f4 rfl rfl rfl rfl rfl rfl rfl ⟨rfl, rfl, rfl, rfl, rfl⟩ rfl rfl rfl rfl rfl (by kernel_rfl) Try.func4 (by kernel_rfl)
    (of_decide_eq_true (by kernel_rfl)) (by unfold Func.isWrapper; first | (rw [if_pos (by decide +kernel)]; kernel_rfl) | (rw [if_neg (by decide +kernel)]; exact ⟨rfl, rfl⟩))
    (fun os started H enc _ => descrTypes_lifted os started H enc)

/-- The statement. -/
theorem descrTypes_proved : Rows.DescrTypesSaid := descrTypes_over
#print axioms descrTypes_proved
end Go.Proofs.Ytibcaienaejgpaa
