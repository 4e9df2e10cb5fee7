/- PoolMore: a constant behind the others that may be by itself changes nothing of what others tell, of any list, place and number; the row's five tables are as the library's texts lay them. -/
import Derived.Test.YtecgldkhjgcffaaDoorZsL
import Derived.Test.YtecgldkhjgcffaaDoorZsLM
import Derived.Test.YtecgldkhjgcffaaDoorZsX
import Derived.Test.YtecgldkhjgcffaaDoorZsA
import Derived.Test.YtecgldkhjgcffaaDoorZsG
import Derived.Lib.ItoaLen
import Derived.Lib.AppendIntMem
namespace Go.Proofs.YtecgldkhjgcffaaDoor
open Go.ChangeShapes Go.WideShapes Go.ChangeAt Go.RowKit
open Go.ChangeMaps (open_string shut_string)
set_option linter.unusedVariables false
theorem ext_grow (w : World) (k : Nat) (os : Array Obj) : Ext w (Go.Sort.grow (w.drewN k) os) :=
  ⟨rfl, rfl, rfl, by simp [Go.Sort.grow, World.drewN], fun i hi => by simp [Go.Sort.grow, World.drewN, Array.getElem?_append_left hi]⟩
theorem dec_ascii : ∀ (u : Nat) (b : UInt8), b ∈ Lib.decDigits u → b.toNat < 128 := by
  intro u
  induction u using Nat.strongRecOn with
  | _ u ih =>
    intro b hb
    rw [Lib.decDigits] at hb
    split at hb
    · rw [List.mem_singleton.1 hb, UInt8.toNat_ofNat']
      omega
    · rcases List.mem_append.1 hb with hb | hb
      · exact ih (u / 10) (by omega) b hb
      · rw [List.mem_singleton.1 hb, UInt8.toNat_ofNat']
        omega
theorem itoa_valid (n : Int) : Lib.validD (Lib.itoa n) = true := by
  have h : ∀ b ∈ Lib.itoa n, b.toNat < 128 := by
    intro b hb
    unfold Lib.itoa at hb
    split at hb
    · rcases List.mem_cons.1 hb with rfl | hb
      · decide
      · exact dec_ascii _ b hb
    · exact dec_ascii _ b hb
  rw [Lib.validD_ascii (Lib.itoa n).length (Lib.itoa n) (by rw [List.take_length]; exact h), List.drop_length]
  rfl
/-- The two that stand behind. -/
def two (n : Int) : List Cst := [⟨1, ⟨(Lib.itoa n).toArray⟩, 0, 0, 0, 0⟩, ⟨3, .empty, n, 0, 0, 0⟩]
theorem two_ok {n : Int} (hn : -9223372036854775808 ≤ n ∧ n ≤ 9223372036854775807) : ∀ x ∈ two n, x.ok := by
  intro x hx
  have h : x = ⟨1, ⟨(Lib.itoa n).toArray⟩, 0, 0, 0, 0⟩ ∨ x = ⟨3, .empty, n, 0, 0, 0⟩ := by simpa [two] using hx
  rcases h with rfl | rfl
  · exact ⟨⟨by simp, by simp⟩, i64_zero, i64_zero, i64_zero, i64_zero⟩
  · exact ⟨⟨by simp, by simp⟩, hn, i64_zero, i64_zero, i64_zero⟩
theorem gc_app {l m : List Cst} {j : Nat} (h : j < l.length) : gc (l ++ m) j = gc l j := by simp [gc, List.getElem?_append_left h]
theorem gc_app2 {l m : List Cst} (j : Nat) : gc (l ++ m) (l.length + j) = gc m j := by simp [gc, List.getElem?_append_right]
theorem isK_app {l m : List Cst} {i k : Int} (h : isK l i k = true) : isK (l ++ m) i k = true := by
  obtain ⟨j, rfl, h1, h2, h3⟩ := isK_at h
  exact isK_of h1 (by rw [List.length_append]; omega) (by rw [gc_app h2]; exact h3)
theorem isK_same {l m : List Cst} {j : Nat} (h : j < l.length) (k : Int) : isK (l ++ m) j k = isK l j k := by
  have e : gc (l ++ m) (j : Int).toNat = gc l (j : Int).toNat := gc_app h
  unfold isK
  rw [e, List.length_append]
  have h1 : decide ((j : Int) < ((l.length + m.length : Nat) : Int)) = true := by simp; omega
  have h2 : decide ((j : Int) < (l.length : Int)) = true := by simp; omega
  rw [h1, h2]
theorem may_app {l : List Cst} (m : List Cst) {x : Cst} (h : mayC l x = true) : mayC (l ++ m) x = true := by
  have h := of_decide_eq_true h
  refine decide_eq_true ?_
  rcases h with h | h | h | h | h
  · exact .inl h
  · exact .inr (.inl h)
  · exact .inr (.inr (.inl h))
  · exact .inr (.inr (.inr (.inl ⟨h.1, h.2.1, h.2.2.1, h.2.2.2.1, h.2.2.2.2.1, isK_app h.2.2.2.2.2⟩)))
  · exact .inr (.inr (.inr (.inr ⟨h.1, h.2.1, h.2.2.1, isK_app h.2.2.2.1, isK_app h.2.2.2.2.1, isK_app h.2.2.2.2.2⟩)))
theorem check_more {l : List Cst} (n : Int) (hc : checkC l = 0) (hl : l.length ≤ 4000) : checkC (l ++ two n) = 0 := by
  obtain ⟨h1, h2, h3, h4⟩ := check_all hc
  have hlen : (l ++ two n).length = l.length + 2 := by simp [two]
  refine checkC_yes (by omega) (by omega) ⟨by rw [gc_app h2]; exact h3, fun j hj1 hj2 => ?_⟩
  by_cases hj : j < l.length
  · rw [gc_app hj]
    exact may_app _ (h4 j hj1 hj)
  · by_cases hj0 : j = l.length + 0
    · rw [hj0, gc_app2]
      exact decide_eq_true (.inl ⟨rfl, rfl, rfl, rfl, rfl, itoa_valid n⟩)
    · rw [show j = l.length + 1 by omega, gc_app2]
      exact decide_eq_true (.inr (.inr (.inl ⟨rfl, toList_nil.2 rfl, rfl, rfl, rfl⟩)))
theorem text_more {l : List Cst} (m : List Cst) {j : Nat} (h : j < l.length) : tText (l ++ m) j = tText l j := by
  have e : gc (l ++ m) (j : Int).toNat = gc l (j : Int).toNat := gc_app h
  unfold tText
  rw [isK_same h, e]
theorem class_more {l : List Cst} (m : List Cst) {j : Nat} (h : j < l.length) (hc : checkC l = 0) : tClass (l ++ m) j = tClass l j := by
  have e : gc (l ++ m) (j : Int).toNat = gc l (j : Int).toNat := gc_app h
  unfold tClass
  rw [isK_same h, e]
  by_cases hk : isK l j 4 = true
  · rw [if_pos hk, if_pos hk]
    obtain ⟨q, hq, q1, q2, q3⟩ := isK_at hk
    have : q = j := by omega
    subst this
    have hm := of_decide_eq_true ((check_all hc).2.2.2 q q1 q2)
    have ha : isK l (gc l q).a 1 = true := by
      rcases hm with h | h | h | h | h
      · omega
      · omega
      · omega
      · exact h.2.2.2.2.2
      · omega
    obtain ⟨r, hr, r1, r2, r3⟩ := isK_at ha
    have e2 : gc l (q : Int).toNat = gc l q := rfl
    rw [e2, hr]
    exact text_more m r2
  · rw [if_neg hk, if_neg hk]
theorem num_more (l : List Cst) (n : Int) (hl : 0 < l.length) : tNum (l ++ two n) ((l.length : Int) + 1) 3 = (n, 0) := by
  have h := tNum_yes (l := l ++ two n) (j := l.length + 1) (k := 3) (.inr rfl) (by omega) (by simp [two]) (by rw [gc_app2]; rfl)
  rw [gc_app2] at h
  exact h
theorem two_lit (w : World) (g : Nat) (n : Int) (hn : -9223372036854775808 ≤ n ∧ n ≤ 9223372036854775807) (hg : g = w.heap.size) :
    RowC (w.alloc (.cells #[.int .i64 1, .string ⟨(Lib.itoa n).toArray⟩, .int .i64 0, .int .i64 0, .int .i64 0, .int .i64 0, .int .i64 3, .string ⟨#[]⟩, .int .i64 n, .int .i64 0, .int .i64 0, .int .i64 0] 44)) (.slice (some ⟨g, 0, none⟩) 2 2) (two n) :=
  RowC.litA g 2 _ (two n) rfl hg (two_ok hn) (by simp [two]) rfl
set_option maxRecDepth 100000 in
set_option maxHeartbeats 8000000 in
theorem poolMore_walk (w : World) (hT : Tabs w) (hP : Lib.TabIs Tryd.prog w "internal/strconv.uint64pow10" .u64 Lib.pow10Tab) (v : Value) (l : List Cst) (h : RowC w v l) (hl : l.length * 56 ≤ 140737488351232 ∧ Texts l) (i : Int) (hi : -9223372036854775808 ≤ i ∧ i ≤ 9223372036854775807) (n : Int) (hn : -9223372036854775808 ≤ n ∧ n ≤ 9223372036854775807) : Calls Tryd.prog 9 #[v, .int .i64 i, .int .i64 n] w (RetB w true) := by
  have HX := Lib.hid hl.2
  have HPB := Lib.hid (Lib.tabBelow_of_tabIs hP)
  by_cases hc : checkC l = 0
  · obtain ⟨h1, h2, ha⟩ := check_all hc
    by_cases h4 : 4000 < l.length
    · have HC := Lib.hid hc
      obtain ⟨A, cp, rfl, hcl, hcm, -, -, -⟩ := id h
      clear hc hP ha
      go_enter Tryd.func9, Tryd.ntmps9
      go_wp2_with fail
      refine (works_any _ hT).mono ?_
      rintro e w1 ⟨rfl, x1⟩
      go_wp2_with fail
      refine (Check_any _ l _ (by exact h.ext x1) (hT.ext x1) HX.out).mono ?_
      rw [HC.out]
      rintro e w2 ⟨rfl, x2'⟩
      go_wp2
      go_ret
      exact ⟨rfl, x1.trans x2'⟩
    · have hz : (gc l 0).k = 0 := by rw [ha.1]; rfl
      have hok := h.all
      obtain ⟨j, hj, hjn⟩ := bring_nat i h2
      have hji : I64 (j : Int) := ⟨by omega, by omega⟩
      have HJ := Lib.hid hj
      have HC := Lib.hid hc
      have HZ := Lib.hid hz
      have HZ2 : Hid ((gc (l ++ two n) 0).k = 0) := by rw [Hid, gc_app h2]; exact hz
      have HC2 := Lib.hid (check_more n hc (by omega))
      have hte := text_more (two n) hjn
      have hce := class_more (two n) hjn hc
      have HN := Lib.hid (num_more l n h2)
      have HX2 : Hid (Texts (l ++ two n)) := fun y hy => by
        rcases List.mem_append.1 hy with hy | hy
        · exact HX.out y hy
        · have h : y = ⟨1, ⟨(Lib.itoa n).toArray⟩, 0, 0, 0, 0⟩ ∨ y = ⟨3, .empty, n, 0, 0, 0⟩ := by simpa [two] using hy
          rcases h with rfl | rfl
          · have := Lib.itoa_length_le n hn.1 hn.2
            simp only [ByteArray.size, List.size_toArray]
            omega
          · exact Nat.zero_le _
      have cT := fun W hW => Text_any v l j W hW hji HZ.out HX.out
      have cC := fun W hW => ClassName_any v l j W hW hji HZ.out HX.out
      have cT2 := fun u W hW => Text_any u (l ++ two n) j W hW hji HZ2.out HX2.out
      have cC2 := fun u W hW => ClassName_any u (l ++ two n) j W hW hji HZ2.out HX2.out
      rw [hte] at cT2
      rw [hce] at cC2
      obtain ⟨⟨t1, t2⟩, ht⟩ : ∃ t, t = tText l j := ⟨_, rfl⟩
      obtain ⟨⟨u1, u2⟩, hu⟩ : ∃ t, t = tClass l j := ⟨_, rfl⟩
      rw [← ht] at cT cT2
      rw [← hu] at cC cC2
      simp only at cT cT2 cC cC2
      obtain ⟨q, hq⟩ : ∃ q, l.length = q := ⟨_, rfl⟩
      have HQ := Lib.hid hq
      have hlen2 : (l ++ two n).length = q + 2 := by rw [← hq]; simp [two]
      have HL2 := Lib.hid hlen2
      rw [hq] at h1 h2 h4 hjn
      have CT := Lib.hid cT
      have CC := Lib.hid cC
      have CT2 := Lib.hid cT2
      have CC2 := Lib.hid cC2
      obtain ⟨A, cp, hvv, hcl, hcm, -, -, -⟩ := id h
      rw [hq] at hvv hcl HJ HN
      subst hvv
      unfold maxLen at hcm
      clear hc hP ha hz hj hte hce cT cC cT2 cC2 ht hu hq hlen2
      go_enter Tryd.func9, Tryd.ntmps9
      go_wp2_with fail
      refine (works_any _ hT).mono ?_
      rintro e w1 ⟨rfl, x1⟩
      go_wp2_with fail
      refine (Check_any _ l _ (by exact h.ext x1) (hT.ext x1) HX.out).mono ?_
      rw [HC.out]
      rintro e w2 ⟨rfl, x2'⟩
      have x2 := x1.trans x2'
      go_wp2_with (first
        | (at_builtin; refine wpList_appC _ rfl _ _ w2.heap.size 24 44 _ 56 rfl Tryd.underlying24 infoC rfl (by omega) _ [] rfl (OwnC.nil _ _ _) _ l rfl (h.ext x2) (by rw [HQ.out]; simp; omega) (Nat.le_refl _) ?_; intro v3 w3 ho3 hg3 hb3; rw [List.nil_append] at ho3; have x3' : Ext w2 w3 := (Ext.refl _).grown hg3 (fun g hg => by cases hg))
        | (go_at_call 26; refine (Tryd.strconv_Itoa n hn.1 hn.2 _ (HPB.out _ (x2.trans x3'))).mono ?_; rintro e w4 ⟨rfl, k4, os4, hw4⟩; have x4' : Ext w3 w4 := (by rw [hw4]; exact ext_grow _ _ _); clear hw4)
        | (at_builtin; go_loud (refine wpList_appC _ rfl _ _ w2.heap.size 24 44 _ 56 rfl Tryd.underlying24 infoC rfl (by omega) v3 l rfl (ho3.ext (x4'.alloc _)) _ (two n) rfl (two_lit _ _ n hn rfl) (by rw [HQ.out]; simp [two]; omega) (by have := (x3'.trans x4').size; simp; omega) ?_); intro v5 w5 ho5 hg5 hb5; have x5' : Ext w2 w5 := ((x3'.trans x4').alloc _).grown hg5 ho3.low))
      have HO5 := Lib.hid ho5
      have x5 := x2.trans x5'
      clear ho3 hg3 hb3 ho5 hg5 hb5
      go_wp2_with fail
      refine (bring_any i q _ hi.1 hi.2 (by omega) (by omega)).mono ?_
      rw [HJ.out]
      rintro e w6 ⟨rfl, rfl⟩
      go_wp2_with fail
      refine (CT.out _ (by exact h.ext x5)).mono ?_
      rintro e w7 ⟨rfl, x7⟩
      go_wp2_with fail
      refine (CT2.out v5 _ (by exact HO5.out.row.ext x7)).mono ?_
      rintro e w8 ⟨rfl, x8'⟩
      have x8 := x7.trans x8'
      go_wp2_with fail
      refine (CC.out _ (by exact h.ext (x5.trans x8))).mono ?_
      rintro e w9 ⟨rfl, x9'⟩
      have x9 := x8.trans x9'
      go_wp2_with fail
      refine (CC2.out v5 _ (by exact HO5.out.row.ext x9)).mono ?_
      rintro e w10 ⟨rfl, x10'⟩
      have x10 := x9.trans x10'
      go_wp2_with fail
      refine (Num_any v5 (l ++ two n) _ 3 _ (by exact HO5.out.row.ext x10) (by unfold I64; omega) (by unfold I64; omega) HZ2.out).mono ?_
      rw [HN.out]
      rintro e w11 ⟨rfl, x11'⟩
      have x11 := x10.trans x11'
      go_wp2_with fail
      refine (Check_any v5 (l ++ two n) _ (by exact HO5.out.row.ext x11) (hT.ext (x5.trans x11)) HX2.out).mono ?_
      rw [HC2.out]
      rintro e w12 ⟨rfl, x12'⟩
      go_wp2
      go_ret
      exact ⟨rfl, x5.trans (x11.trans x12')⟩
  · have HCB := Lib.hid (show ((checkC l) != 0) = true by simpa using hc)
    have hcb := HCB.out
    clear hc hP
    go_enter Tryd.func9, Tryd.ntmps9
    go_wp2_with fail
    refine (works_any _ hT).mono ?_
    rintro e w1 ⟨rfl, x1⟩
    go_wp2_with fail
    refine (Check_any v l _ (by exact h.ext x1) (hT.ext x1) HX.out).mono ?_
    rintro e w2 ⟨rfl, x2'⟩
    go_wp2
    go_ret
    exact ⟨rfl, x1.trans x2'⟩

theorem poolMore_fits (os : Os) {H : Type} (enc : TypeId × Value → H) :
    (OpenSpec.ofChange Rows.poolMoreSpec).preRow enc Tryd.prog Tryd.f9 Rows.poolMoreRow.domain false Rows.poolMoreRow.laid ((laidWorld5 os).forCall (fun _ _ => 0) ⟨#[], #[.slice none 0 0, .int .i64 0, .int .i64 0], []⟩).memory #[.slice none 0 0, .int .i64 0, .int .i64 0] := by
  have hw : (DataW.whole enc Tryd.prog ((laidWorld5 os).forCall (fun _ _ => 0) ⟨#[], #[.slice none 0 0, .int .i64 0, .int .i64 0], []⟩).memory Tryd.f9.params.toList Rows.poolMoreSpec.vars false (#[.slice none 0 0, .int .i64 0, .int .i64 0] : Array Value).toList 8).map (fun x => (x.1, x.2.1)) = some ([.nil, .lit (.int .i64 0), .lit (.int .i64 0)], []) := by kernel_rfl
  obtain ⟨⟨x1, x2, x3⟩, hx, hx1⟩ := Option.map_eq_some_iff.1 hw
  simp only [Prod.mk.injEq] at hx1
  obtain ⟨rfl, rfl⟩ := hx1
  exact OpenSpec.preRow_of_cond 8 hx (by kernel_rfl) (fun k hk => by cases hk) (by kernel_rfl) (laid_met5 os _)

set_option maxRecDepth 100000 in
set_option maxHeartbeats 2000000 in
theorem poolMore_lifted (os : Os) (started : os.Started) (H : Type) (enc : TypeId × Value → H) (F : Stop.Interp) :
    ReturnsInHanded {} Tryd.checked os 9 .any ((OpenSpec.ofChange Rows.poolMoreSpec).preRow enc Tryd.prog Tryd.f9 Rows.poolMoreRow.domain false Rows.poolMoreRow.laid) (((OpenSpec.ofChange Rows.poolMoreSpec).at F).post enc Tryd.prog Tryd.f9 false true false false) := by
  refine returnsInHanded_of_row (C := Tryd.checked) (s := (OpenSpec.ofChange Rows.poolMoreSpec)) own started (by kernel_rfl) Tryd.func9
    (witness_row_atRef (enc := enc) (C := Tryd.checked) false (laidWorld5 os) #[.slice none 0 0, .int .i64 0, .int .i64 0] rfl (by kernel_rfl) (by kernel_rfl) (by kernel_rfl) (poolMore_fits os enc)) ?_
  intro W base args ds gs before hval0 hW _ hcond hsz0 hL _ _
  obtain ⟨hT, hP⟩ := tabs_of5 hL
  have hval : ∀ (j : Nat) t v, Tryd.f9.params[j]? = some t → args[j]? = some v → Value.okWide Tryd.prog W .any base t v := hval0
  have hsz : (DataW.weightsEach Tryd.prog (Tryd.f9.params.toList ++ Rows.poolMoreSpec.plain.varTypes Tryd.prog) (ds ++ gs)).all (· ≤ reachBytes) = true := hsz0
  have hW' := hW
  obtain ⟨p, q, hA0, hV, rfl, hfz, hnd⟩ := hW
  have hA : DataW.TrodAll enc Tryd.prog W 0 (fun _ => true) true Tryd.f9.params.toList args.toList ds p := hA0
  rw [Tryd.params9] at hA hval hsz
  obtain ⟨v0, vs0, d0, ds0, p0, q0, hargs, rfl, rfl, h0, r0⟩ := trodAll_cons hA
  obtain ⟨v1, vs1, d1, ds1, p1, q1, rfl, rfl, rfl, h1, r1⟩ := trodAll_cons r0
  obtain ⟨v2, vs2, d2, ds2, p2, q2, rfl, rfl, rfl, h2, r2⟩ := trodAll_cons r1
  obtain ⟨rfl, rfl, rfl⟩ := trodAll_nil r2
  obtain rfl : args = #[v0, v1, v2] := by cases args; simp_all
  obtain ⟨rfl, rfl⟩ := trodVars_none hV
  obtain ⟨a0, len0, cap0, rfl⟩ := okWide_slice Tryd.underlying24 (hval 0 24 v0 rfl rfl)
  have k0 := h0
  have lt0 : ∀ x ∈ p0, x.block < W.heap.size := by obtain ⟨m, hm⟩ := k0; exact DataW.trod_lt m _ _ _ hm
  obtain ⟨l0, w0, z0⟩ : ∃ l, RowC W (.slice a0 len0 cap0) l ∧ (l.length * 56 ≤ 140737488351232 ∧ Texts l) := by
    obtain ⟨fuel, hf⟩ := h0
    obtain ⟨A, n, c, l, sp, hcs, hln, hrow, hmx, hd⟩ := open_consts hf
    simp [Value.cells] at hcs
    obtain ⟨rfl, rfl, rfl⟩ := hcs
    refine ⟨l, hrow, ?_⟩
    rcases hd with ⟨rfl, hd⟩ | hd
    · exact ⟨by simp, fun y hy => by cases hy⟩
    · have hd : d0 = _ := hd
      exact consts_weights hsz (j := 0) rfl (by rw [← hd]; rfl)
  obtain ⟨a1, rfl, rfl, rfl, w1⟩ := open_int Tryd.underlying3 (hval 1 3 v1 rfl rfl) h1
  have z1 := bounds_i64 w1
  obtain ⟨a2, rfl, rfl, rfl, w2⟩ := open_int Tryd.underlying3 (hval 2 3 v2 rfl rfl) h2
  have z2 := bounds_i64 w2
  clear hA0 hval0 hsz0 hcond
  refine (poolMore_walk W hT hP (.slice a0 len0 cap0) l0 w0 z0 a1 z1 a2 z2).mono fun e W' ⟨he, bel⟩ => ?_
  subst he
  exact ⟨_, rfl, _, _, _, [], _, [], hW', trodAll_mk1 (shut_bool Tryd.underlying4 _), (trodAll_cons_mk (Below.trod laidOut (by kernel_rfl) (of_decide_eq_true (by kernel_rfl)) k0 bel lt0) (trodAll_cons_mk (shut_int Tryd.underlying3 w1) (trodAll_cons_mk (shut_int Tryd.underlying3 w2) trodAll_mk0))), rfl, bel.frame _, fun h => by cases h⟩

theorem poolMore_over : Rows.PoolMoreSaid :=
  OpenClaim.holds_of_cond 9 Tryd.f9 rfl rfl rfl rfl rfl rfl rfl ⟨rfl, rfl, rfl, rfl, rfl⟩ rfl rfl rfl rfl rfl (by kernel_rfl) Tryd.func9 (by kernel_rfl)
    (of_decide_eq_true (by kernel_rfl)) (by unfold Func.isWrapper; first | (rw [if_pos (by decide +kernel)]; kernel_rfl) | (rw [if_neg (by decide +kernel)]; exact ⟨rfl, rfl⟩))
    (fun os started H enc _ F => by rw [OpenClaim.pre_eq_preRow]; exact poolMore_lifted os started H enc F)
theorem poolMore_plain (f : FuncId) (fn : Func) (hf : Tryd.pinned.checked.prog.funcNamed "warpbeam/warpbeamlaw04.PoolMore" = some f) (hfn : Tryd.pinned.checked.prog.funcs[f]? = some fn) :
    false = Tryd.pinned.checked.prog.looks [] ∧ ∀ (j : Nat) t, fn.params[j]? = some t → Tryd.pinned.checked.prog.wantsStandIn t = false := by
  obtain rfl : f = 9 := Option.some.inj ((show Tryd.prog.funcNamed "warpbeam/warpbeamlaw04.PoolMore" = some 9 by kernel_rfl).symm.trans hf) |>.symm
  obtain rfl : fn = Tryd.f9 := (Option.some.inj (Tryd.func9.symm.trans hfn)).symm
  refine ⟨by kernel_rfl, fun j t ht => ?_⟩
  rw [Tryd.params9] at ht
  have hm := Array.mem_of_getElem? ht
  simp only [List.mem_toArray, List.mem_cons, List.not_mem_nil, or_false] at hm
  rcases hm with rfl | rfl | rfl
  · exact (show Tryd.prog.wantsStandIn 24 = false by kernel_rfl)
  · exact (show Tryd.prog.wantsStandIn 3 = false by kernel_rfl)
  · exact (show Tryd.prog.wantsStandIn 3 = false by kernel_rfl)

/-- The statement. -/
theorem poolMore_proved : Rows.PoolMoreCardSaid :=
  Claim7.holds_tied_plain_at .later [] _ _ _ _ poolMore_over (fun _ h => by cases h) (by kernel_rfl) (fun _ h => by cases h) poolMore_row_tie rfl ⟨rfl, rfl⟩ (by kernel_rfl) rfl poolMore_plain (by kernel_rfl)
#print axioms poolMore_proved
end Go.Proofs.YtecgldkhjgcffaaDoor
