/- Several texts of this proof, one behind the other. -/
import Derived.Test.YtladeaofhdaloaaDoorYaD
import Derived.Test.YtladeaofhdaloaaDoorProg
import Derived.Deep.RegionHeld3
import Derived.Lib.Bytealg
namespace Go.Proofs.YtladeaofhdaloaaDoor
open Go.RowKit
set_option linter.unusedVariables false

theorem grown_drewG {w w' : World} {row : Option Nat} (h : w.grownBy w' row) : w.grownBy w'.drew row := ⟨h.os, h.tape, h.output, h.size, h.block⟩
theorem AtK.cellsW {W0 w : World} {B g n c : Nat} {l : List KlV} (h : (ShKW W0).Own B w (.slice (some ⟨g, 0, none⟩) n c) l) (j : Nat) (x : KlV) (hx : l[j]? = some x) : AtK w g (j * 7) x ∧ NestK W0 x ∧ j < l.length := by
  have hj : j < l.length := by
    rcases Nat.lt_or_ge j l.length with h | h
    · exact h
    · rw [List.getElem?_eq_none h] at hx; cases hx
  obtain ⟨b, o, hA, hat⟩ := h.row.at (by omega)
  injection hA with hA
  injection hA with h1 h2
  subst h1 h2
  have h3 := hat w (Ext.refl w) j hj
  have e : (ShKW W0).el l j = x := by
    unfold Shp.el
    rw [List.getD_eq_getElem?_getD, hx]
    rfl
  rw [e] at h3
  refine ⟨?_, h3.2, hj⟩
  have := AtK.ofW h3.1
  rw [Nat.zero_add] at this
  exact this
theorem own_some {W0 w : World} {B n c : Nat} {A : Option Addr} {l : List KlV} (h : (ShKW W0).Own B w (.slice A n c) l) (hl : 0 < l.length) : ∃ g, A = some ⟨g, 0, none⟩ ∧ n = l.length ∧ l.length ≤ c ∧ (∀ j, w.frozen? ⟨g, j, none⟩ = false) := by
  rcases h.1.2 with ⟨h1, h2⟩ | ⟨g, cap, cur, h1, hb, hg, hn, hm, hs, ht⟩
  · omega
  · injection h1 with e1 e2 e3
    exact ⟨g, e1, e2, by omega, fun j => by simp [World.frozen?, hg]⟩
set_option maxRecDepth 100000 in
set_option maxHeartbeats 4000000 in
theorem swapRange_any {W0 w : World} {B n a b len c : Nat} {A : Option Addr} {cmp : Value} (P X Q Y S : List KlV) (hX : X.length = n) (hY : Y.length = n) (ha : P.length = a) (hb : P.length + n + Q.length = b)
    (ho : (ShKW W0).Own B w (.slice A len c) (P ++ (X ++ (Q ++ (Y ++ S))))) (hl : (P ++ (X ++ (Q ++ (Y ++ S)))).length ≤ 64) :
    Calls Tryd.prog 96 #[.slice A len c, .int .i64 a, .int .i64 b, .int .i64 n, cmp] w fun e w' => e = .returned (.tuple #[]) ∧ (ShKW W0).Own B w' (.slice A len c) (P ++ (Y ++ (Q ++ (X ++ S)))) ∧ w.grownBy w' (Value.slice A len c).ownBlock := by
  have hl2 : P.length + (n + (Q.length + (n + S.length))) ≤ 64 := by simpa [hX, hY] using hl
  have HST := Lib.hid (fun i hi => sw_step P X Q Y S n i hX hY hi)
  have HLN := Lib.hid (fun i => sw_len P X Q Y S i)
  have HA := Lib.hid (sw_all P X Q Y S n hX hY)
  have HO := Lib.hid (show (ShKW W0).Own B w (.slice A len c) (sw P X Q Y S 0) by rw [sw_zero]; exact ho)
  have HXY := Lib.hid (And.intro hX hY)
  have HPa := Lib.hid ha
  have HPb := Lib.hid hb
  have ha2 : a + n ≤ 64 := by omega
  have hb2 : b + n ≤ 64 := by omega
  have hab : a + n ≤ b := by omega
  clear ho hl hX hY hl2 ha hb
  go_enter Tryd.func96, Tryd.ntmps96
  go_wp2_with fail
  go_loopw [10] (fun i wr => ∃ k : Nat, i = .int .i64 k ∧ k ≤ n ∧ Hid ((ShKW W0).Own B wr (.slice A len c) (sw P X Q Y S k)) ∧ Hid (w.grownBy wr (Value.slice A len c).ownBlock)) (fun i _ => n - (intOf i).toNat)
  case atStart => exact ⟨0, rfl, Nat.zero_le _, HO, Lib.hid (World.grownBy.refl _ _)⟩
  case round =>
    obtain ⟨k, rfl, hk, HW, HG⟩ := hrel
    rename World => wr
    clear HO
    by_cases hlt : k < n
    · have hltz : (k : Int) < (n : Int) := by omega
      obtain ⟨x, y, hx, hy, hsx, hsy, hst⟩ := HST.out k hlt
      rw [HPb.out] at hsy hst
      rw [HPa.out] at hsx hst
      have hll := HLN.out k
      have hpos : 0 < (sw P X Q Y S k).length := by have := HXY.out.1; omega
      obtain ⟨g, rfl, hln, hc, hfr⟩ := own_some HW.out hpos
      obtain ⟨cx, nx, lx⟩ := AtK.cellsW HW.out (a + k) x hsx
      obtain ⟨cy, ny, ly⟩ := AtK.cellsW HW.out (b + k) y hsy
      obtain ⟨x0, x1, x2, x3, x4, x5, x6⟩ := cx
      obtain ⟨y0, y1, y2, y3, y4, y5, y6⟩ := cy
      have HW1 := Lib.hid HW.out
      have wka : IntKind.i64.wrap ((a : Int) + (k : Int)) = ((a + k : Nat) : Int) := by rw [IntKind.wrap_i64]; omega
      have wkb : IntKind.i64.wrap ((b : Int) + (k : Int)) = ((b + k : Nat) : Int) := by rw [IntKind.wrap_i64]; omega
      have ia0 : (0 : Int) ≤ ((a + k : Nat) : Int) := by omega
      have ib0 : (0 : Int) ≤ ((b + k : Nat) : Int) := by omega
      have ia1 : ((a + k : Nat) : Int) < (len : Int) := by omega
      have ib1 : ((b + k : Nat) : Int) < (len : Int) := by omega
      have HLE := Lib.hid hln
      clear hll hpos hln hc
      have hta : ((a : Int) + (k : Int)).toNat = a + k := by omega
      have htb : ((b : Int) + (k : Int)).toNat = b + k := by omega
      have ita : (((a + k : Nat) : Int)).toNat = a + k := by omega
      have itb : (((b + k : Nat) : Int)).toNat = b + k := by omega
      go_wp2_with fail
      go_region
      have O1 := st7_own HW1.out (a + k) lx y ny
      have O2 := st7_own O1 (b + k) (by rw [List.length_set]; exact ly) x nx
      rw [hst] at O2
      have O3 := Lib.hid (O2.ext (Ext.refl _).drew)
      have G3 := Lib.hid (grown_drewG (st7_only (st7_only (show w.grownBy wr (some g) from HG.out) ((a + k) * 7) y) ((b + k) * 7) x))
      obtain ⟨W, hW⟩ : ∃ W, (st7 (st7 wr g ((a + k) * 7) y) g ((b + k) * 7) x).drew = W := ⟨_, rfl⟩
      rw [hW] at O3 G3
      unfold st7 at hW
      rw [hW]
      clear O1 O2 HW1 hW
      go_wp2_with fail
      go_roundw
      case rel => exact ⟨k + 1, by go_num, hlt, O3, G3⟩
      case measure => simp [intOf]; omega
    · have hltz : ¬ (k : Int) < (n : Int) := by omega
      go_wp2
      go_end0
      obtain rfl : k = n := by omega
      have := HW.out
      rw [HA.out] at this
      exact ⟨rfl, this, HG.out⟩
end Go.Proofs.YtladeaofhdaloaaDoor
namespace Go.Proofs.YtladeaofhdaloaaDoor
open Go.RowKit
set_option linter.unusedVariables false

theorem swapRange_at {W0 w : World} {B len c : Nat} {a b n : Int} {A : Option Addr} {cmp : Value} (P X Q Y S : List KlV) (hX : (X.length : Int) = n) (hY : (Y.length : Int) = n) (ha : (P.length : Int) = a) (hb : (P.length : Int) + n + Q.length = b)
    (ho : (ShKW W0).Own B w (.slice A len c) (P ++ (X ++ (Q ++ (Y ++ S))))) (hl : (P ++ (X ++ (Q ++ (Y ++ S)))).length ≤ 64) :
    Calls Tryd.prog 96 #[.slice A len c, .int .i64 a, .int .i64 b, .int .i64 n, cmp] w fun e w' => e = .returned (.tuple #[]) ∧ (ShKW W0).Own B w' (.slice A len c) (P ++ (Y ++ (Q ++ (X ++ S)))) ∧ w.grownBy w' (Value.slice A len c).ownBlock := by
  subst hX ha hb
  have h := swapRange_any (n := X.length) (a := P.length) (b := P.length + X.length + Q.length) (cmp := cmp) P X Q Y S rfl (by omega) rfl rfl ho hl
  push_cast at h
  exact h
set_option maxRecDepth 100000 in
set_option maxHeartbeats 4000000 in
theorem rotate_any {W0 w : World} {B a m b len c : Nat} {A : Option Addr} {cmp : Value} (P U V S : List KlV) (hU : 0 < U.length) (hV : 0 < V.length) (ha : P.length = a) (hm : P.length + U.length = m) (hb : m + V.length = b)
    (ho : (ShKW W0).Own B w (.slice A len c) (P ++ (U ++ (V ++ S)))) (hl : (P ++ (U ++ (V ++ S))).length ≤ 64) :
    Calls Tryd.prog 95 #[.slice A len c, .int .i64 a, .int .i64 m, .int .i64 b, cmp] w fun e w' => e = .returned (.tuple #[]) ∧ (ShKW W0).Own B w' (.slice A len c) (P ++ (V ++ (U ++ S))) ∧ w.grownBy w' (Value.slice A len c).ownBlock := by
  have hl2 : P.length + (U.length + (V.length + S.length)) ≤ 64 := by simpa using hl
  have HL := Lib.hid hl2
  have ham : a ≤ m := by omega
  have hmb : m ≤ b := by omega
  have hb64 : b ≤ 64 := by omega
  have H0 : Hid (∃ L U' V' R : List KlV, U'.length = m - a ∧ V'.length = b - m ∧ P.length + L.length + (m - a) = m ∧ V ++ U = L ++ (V' ++ (U' ++ R)) ∧ (ShKW W0).Own B w (.slice A len c) (P ++ (L ++ (U' ++ (V' ++ (R ++ S)))))) :=
    Lib.hid ⟨[], U, V, [], by omega, by omega, by simp; omega, by simp, by simpa using ho⟩
  have e1 : (m : Int) - (a : Int) = ((m - a : Nat) : Int) := by omega
  have e2 : (b : Int) - (m : Int) = ((b - m : Nat) : Int) := by omega
  have hp0 : 0 < m - a := by omega
  have hq0 : 0 < b - m := by omega
  clear hU hV ha hm hb ho hl hl2
  go_enter Tryd.func95, Tryd.ntmps95
  go_wp2_with fail
  go_loopw [10, 11] (fun i j wr => ∃ p q : Nat, i = .int .i64 p ∧ j = .int .i64 q ∧ 0 < p ∧ 0 < q ∧ p ≤ m ∧ m + q ≤ 64 ∧ Hid (∃ L U' V' R : List KlV, U'.length = p ∧ V'.length = q ∧ P.length + L.length + p = m ∧ V ++ U = L ++ (V' ++ (U' ++ R)) ∧ (ShKW W0).Own B wr (.slice A len c) (P ++ (L ++ (U' ++ (V' ++ (R ++ S)))))) ∧ Hid (w.grownBy wr (Value.slice A len c).ownBlock)) (fun i j _ => (intOf i).toNat + (intOf j).toNat)
  case atStart => exact ⟨m - a, b - m, by go_num, by go_num, hp0, hq0, by omega, by omega, H0, Lib.hid (World.grownBy.refl _ _)⟩
  case round =>
    obtain ⟨p, q, rfl, rfl, hp, hq, hpm, hqm, HI, HG⟩ := hrel
    rename World => wr
    clear H0 e1 e2
    by_cases hpq : p = q
    · have hz : (p : Int) = (q : Int) := by omega
      go_wp2_with fail
      obtain ⟨L, U', V', R, q1, q2, q3, q4, q5⟩ := HI.out
      have hs : P.length + (L.length + (U'.length + (V'.length + (R.length + S.length)))) ≤ 64 := by
        have h1 := congrArg List.length q4
        simp only [List.length_append] at h1
        have := HL.out
        omega
      refine (swapRange_at (W0 := W0) (B := B) (P ++ L) U' [] V' (R ++ S) (by omega) (by omega) (by simp; omega) (by simp; omega) (by simpa using q5) (by simpa using hs)).mono ?_
      rintro e w' ⟨rfl, h1, h2⟩
      have HO := Lib.hid h1
      have HG2 := Lib.hid (HG.out.trans h2)
      clear h1 h2 q1 q2 q3 q5
      go_wp2
      go_end0
      refine ⟨rfl, ?_, HG2.out⟩
      have e : P ++ (V ++ (U ++ S)) = P ++ (V ++ U ++ S) := by simp
      rw [e, q4]
      simpa using HO.out
    · have hz : ¬ (p : Int) = (q : Int) := by omega
      by_cases hlt : q < p
      · have hltz : (q : Int) < (p : Int) := by omega
        go_wp2_with fail
        obtain ⟨L, U', V', R, q1, q2, q3, q4, q5⟩ := HI.out
        have hs : P.length + (L.length + (U'.length + (V'.length + (R.length + S.length)))) ≤ 64 := by
          have h1 := congrArg List.length q4
          simp only [List.length_append] at h1
          have := HL.out
          omega
        have e1 : U'.take q ++ U'.drop q = U' := List.take_append_drop _ _
        have l1 : (U'.take q).length = q := by simp; omega
        have l2 : (U'.drop q).length = p - q := by simp; omega
        generalize U'.take q = X at e1 l1
        generalize U'.drop q = Q at e1 l2
        subst e1
        refine (swapRange_at (W0 := W0) (B := B) (P ++ L) X Q V' (R ++ S) (by omega) (by omega) (by simp; omega) (by simp; omega) (by simpa using q5) (by simp at hs ⊢; omega)).mono ?_
        rintro e w' ⟨rfl, h1, h2⟩
        have HO : Hid (∃ L U' V' R : List KlV, U'.length = p - q ∧ V'.length = q ∧ P.length + L.length + (p - q) = m ∧ V ++ U = L ++ (V' ++ (U' ++ R)) ∧ (ShKW W0).Own B w' (.slice A len c) (P ++ (L ++ (U' ++ (V' ++ (R ++ S)))))) :=
          Lib.hid ⟨L ++ V', Q, X, R, l2, l1, by simp; omega, by rw [q4]; simp, by simpa using h1⟩
        have HG2 := Lib.hid (HG.out.trans h2)
        clear h1 h2 q1 q2 q3 q5 q4 hs l1 l2 HI HG
        go_wp2_with fail
        go_roundw
        case rel => exact ⟨p - q, q, by go_num, rfl, by omega, by omega, by omega, by omega, HO, HG2⟩
        case measure => simp [intOf]; omega
      · have hltz : ¬ (q : Int) < (p : Int) := by omega
        go_wp2_with fail
        obtain ⟨L, U', V', R, q1, q2, q3, q4, q5⟩ := HI.out
        have hs : P.length + (L.length + (U'.length + (V'.length + (R.length + S.length)))) ≤ 64 := by
          have h1 := congrArg List.length q4
          simp only [List.length_append] at h1
          have := HL.out
          omega
        have e1 : V'.take (q - p) ++ V'.drop (q - p) = V' := List.take_append_drop _ _
        have l1 : (V'.take (q - p)).length = q - p := by simp; omega
        have l2 : (V'.drop (q - p)).length = p := by simp; omega
        generalize V'.take (q - p) = Q at e1 l1
        generalize V'.drop (q - p) = Y at e1 l2
        subst e1
        refine (swapRange_at (W0 := W0) (B := B) (P ++ L) U' Q Y (R ++ S) (by omega) (by omega) (by simp; omega) (by simp; omega) (by simpa using q5) (by simp at hs ⊢; omega)).mono ?_
        rintro e w' ⟨rfl, h1, h2⟩
        have HO : Hid (∃ L U' V' R : List KlV, U'.length = p ∧ V'.length = q - p ∧ P.length + L.length + p = m ∧ V ++ U = L ++ (V' ++ (U' ++ R)) ∧ (ShKW W0).Own B w' (.slice A len c) (P ++ (L ++ (U' ++ (V' ++ (R ++ S)))))) :=
          Lib.hid ⟨L, Y, Q, U' ++ R, l2, l1, by omega, by rw [q4]; simp, by simpa using h1⟩
        have HG2 := Lib.hid (HG.out.trans h2)
        clear h1 h2 q1 q2 q3 q5 q4 hs l1 l2 HI HG
        go_wp2_with fail
        go_roundw
        case rel => exact ⟨p, q - p, rfl, by go_num, by omega, by omega, by omega, by omega, HO, HG2⟩
        case measure => simp [intOf]; omega
end Go.Proofs.YtladeaofhdaloaaDoor
namespace Go.Proofs.YtladeaofhdaloaaDoor
open Go.RowKit
set_option linter.unusedVariables false

def cfK (x y : KlV) : Int := Lib.compareBytes x.k.nm.data.toList y.k.nm.data.toList
def cbK (x y : KlV) : Bool := nlt x.k.nm y.k.nm
theorem cf_neg (x y : KlV) : decide (cfK x y < 0) = cbK x y := nlt_cmp _ _
theorem cf_yes {x y : KlV} (h : cbK x y = true) : cfK x y < 0 := by rw [← cf_neg] at h; exact of_decide_eq_true h
theorem cf_no {x y : KlV} (h : cbK x y = false) : ¬ cfK x y < 0 := by rw [← cf_neg] at h; exact of_decide_eq_false h
theorem swoK : SWO cbK := ⟨fun a => nlt_irr _, fun a b d h1 h2 => bl_tr _ _ _ h1 h2, fun a b d h1 h2 => nlt_ntr h1 h2⟩
set_option maxRecDepth 100000 in
theorem scompare_any (a b : ByteArray) (w : World) :
    Calls Tryd.prog 66 #[.string a, .string b] w fun e w' => e = .returned (.int .i64 (Lib.compareBytes a.data.toList b.data.toList)) ∧ w = w' := by
  have HR := Lib.hid (Lib.run_compareString (P := Tryd.prog) a b w)
  obtain ⟨r, hr⟩ : ∃ r, Lib.compareBytes a.data.toList b.data.toList = r := ⟨_, rfl⟩
  rw [hr] at HR ⊢
  clear hr
  go_enter Tryd.func66, Tryd.ntmps66
  go_wp2
  rw [run_callFunc_extern Tryd.func94 (by kernel_rfl) (by kernel_rfl) (by kernel_rfl) (e := Extern.BytealgCompare.compare) (by kernel_rfl), HR.out]
  simp only [Result.andThen]
  rw [Oper.upon_value]
  go_wp2
  go_ret
  exact ⟨rfl, rfl⟩
theorem grown_allocG {w w' : World} {row : Option Nat} (h : w.grownBy w' row) (o : Obj) : w.grownBy (w'.alloc o) row :=
  ⟨h.os, h.tape, h.output, Nat.le_trans h.size (by simp), fun k hk hne => (heap_alloc_old w' o (Nat.lt_of_lt_of_le hk h.size)).trans (h.block k hk hne)⟩
set_option maxRecDepth 100000 in
theorem cmp_any (x y : KlV) (w : World) :
    Calls Tryd.prog 65 #[.agg x.vals, .agg y.vals] w fun e w' => e = .returned (.int .i64 (cfK x y)) ∧ w.grownBy w' none := by
  have HC := Lib.hid (fun W => scompare_any x.k.nm y.k.nm W)
  obtain ⟨r, hr⟩ : ∃ r, cfK x y = r := ⟨_, rfl⟩
  unfold cfK at hr
  rw [hr] at HC
  unfold cfK
  rw [hr]
  clear hr
  unfold KlV.vals
  go_enter Tryd.func65, Tryd.ntmps65
  go_wp2_with fail
  refine (HC.out _).mono ?_
  rintro e w' ⟨rfl, rfl⟩
  go_wp2
  go_ret
  refine ⟨rfl, ?_⟩
  exact grown_allocG (grown_allocG (World.grownBy.refl w none) _) _
end Go.Proofs.YtladeaofhdaloaaDoor
namespace Go.Proofs.YtladeaofhdaloaaDoor
open Go.RowKit
set_option linter.unusedVariables false

def OwnT (W0 : World) (B : Nat) (w : World) (A : Option Addr) (len c : Nat) (T : List (KlV × Nat)) : Prop := (ShKW W0).Own B w (.slice A len c) (T.map Prod.fst)
abbrev tK : KlV × Nat → KlV × Nat → Prop := tl cbK
abbrev cmpV : Value := .func (.func 65) #[] #[]
section
variable {W0 w : World} {B len c : Nat} {A : Option Addr} {T : List (KlV × Nat)}
theorem OwnT.head (h : OwnT W0 B w A len c T) (hl : 0 < T.length) : ∃ g, A = some ⟨g, 0, none⟩ ∧ len = T.length ∧ T.length ≤ c ∧ (∀ j, w.frozen? ⟨g, j, none⟩ = false) := by
  have := own_some (l := T.map Prod.fst) h (by simpa using hl)
  simpa using this
theorem OwnT.at {g : Nat} (h : OwnT W0 B w (some ⟨g, 0, none⟩) len c T) (j : Nat) (x : KlV × Nat) (hx : T[j]? = some x) : AtK w g (j * 7) x.1 ∧ NestK W0 x.1 ∧ j < T.length := by
  have := AtK.cellsW h j x.1 (by rw [List.getElem?_map, hx]; rfl)
  simpa using this
theorem AtK.ext {b o : Nat} {e : KlV} {w' : World} (h : AtK w b o e) (hx : Ext w w') (hb : b < w.heap.size) : AtK w' b o e := by
  obtain ⟨h0, h1, h2, h3, h4, h5, h6⟩ := h
  exact ⟨(hx.cell (p := ⟨b, o, none⟩) hb).trans h0, (hx.cell (p := ⟨b, o + 1, none⟩) hb).trans h1, (hx.cell (p := ⟨b, o + 2, none⟩) hb).trans h2, (hx.cell (p := ⟨b, o + 3, none⟩) hb).trans h3, (hx.cell (p := ⟨b, o + 4, none⟩) hb).trans h4, (hx.cell (p := ⟨b, o + 5, none⟩) hb).trans h5, (hx.cell (p := ⟨b, o + 6, none⟩) hb).trans h6⟩
theorem grown_extG {a b' d : World} {row : Option Nat} (h : a.grownBy b' row) (e : Ext b' d) : a.grownBy d row := ⟨e.os.trans h.os, e.tape.trans h.tape, e.output.trans h.output, Nat.le_trans h.size e.size, fun k hk hne => (e.block k (Nat.lt_of_lt_of_le hk h.size)).trans (h.block k hk hne)⟩
theorem OwnT.ext {w' : World} (h : OwnT W0 B w A len c T) (e : Ext w w') : OwnT W0 B w' A len c T := Shp.Own.ext h e
theorem OwnT.swap {g : Nat} {P S : List (KlV × Nat)} {y x : KlV × Nat} (h : OwnT W0 B w (some ⟨g, 0, none⟩) len c (P ++ y :: x :: S)) (ny : NestK W0 y.1) (nx : NestK W0 x.1) :
    OwnT W0 B (st7 (st7 w g ((P.length + 1) * 7) y.1) g (P.length * 7) x.1).drew (some ⟨g, 0, none⟩) len c (P ++ x :: y :: S) := by
  have h1 := st7_own (l := (P ++ y :: x :: S).map Prod.fst) h (P.length + 1) (by simp) y.1 ny
  have h2 := st7_own h1 P.length (by simp) x.1 nx
  have e : (((P ++ y :: x :: S).map Prod.fst).set (P.length + 1) y.1).set P.length x.1 = (P ++ x :: y :: S).map Prod.fst := by simp
  rw [e] at h2
  exact Shp.Own.ext h2 (Ext.refl _).drew
theorem OwnT.swap' {g : Nat} {P S : List (KlV × Nat)} {y x : KlV × Nat} (h : OwnT W0 B w (some ⟨g, 0, none⟩) len c (P ++ y :: x :: S)) (ny : NestK W0 y.1) (nx : NestK W0 x.1) :
    OwnT W0 B (st7 (st7 w g (P.length * 7) x.1) g ((P.length + 1) * 7) y.1).drew (some ⟨g, 0, none⟩) len c (P ++ x :: y :: S) := by
  have h1 := st7_own (l := (P ++ y :: x :: S).map Prod.fst) h P.length (by simp) x.1 nx
  have h2 := st7_own h1 (P.length + 1) (by simp) y.1 ny
  have e : (((P ++ y :: x :: S).map Prod.fst).set P.length x.1).set (P.length + 1) y.1 = (P ++ x :: y :: S).map Prod.fst := by simp
  rw [e] at h2
  exact Shp.Own.ext h2 (Ext.refl _).drew
end
set_option maxRecDepth 100000 in
set_option maxHeartbeats 4000000 in
theorem insertion_any {W0 w : World} {B a b len c : Nat} {A : Option Addr} (P X S : List (KlV × Nat)) (ha : P.length = a) (hb : a + X.length = b) (ht : Tg X) (ho : OwnT W0 B w A len c (P ++ (X ++ S))) (hl : (P ++ (X ++ S)).length ≤ 64) :
    Calls Tryd.prog 92 #[.slice A len c, .int .i64 a, .int .i64 b, cmpV] w fun e w' => e = .returned (.tuple #[]) ∧ (∃ C, Sd cbK X C ∧ OwnT W0 B w' A len c (P ++ (C ++ S))) ∧ w.grownBy w' (Value.slice A len c).ownBlock := by
  have hl2 : P.length + (X.length + S.length) ≤ 64 := by simpa using hl
  have hb64 : b ≤ 64 := by omega
  have HL := Lib.hid (And.intro ha (And.intro hb hl2))
  have HT := Lib.hid ht
  have H0 : Hid (∃ X1 X2 C1, X = X1 ++ X2 ∧ (X1.length = a + 1 - a ∨ X = []) ∧ Sd cbK X1 C1 ∧ OwnT W0 B w A len c (P ++ (C1 ++ (X2 ++ S)))) := by
    rcases X with _ | ⟨x, X⟩
    · exact ⟨[], [], [], rfl, .inr rfl, Sd.nil, ho⟩
    · exact ⟨[x], X, [x], rfl, .inl (by simp), ⟨Srt.one x, List.Perm.refl _⟩, ho⟩
  have ha64 : a ≤ 64 := by omega
  clear ha hb ht ho hl hl2
  go_enter Tryd.func92, Tryd.ntmps92
  go_wp2_with fail
  go_loopw [8] (fun i wr => ∃ k : Nat, i = .int .i64 k ∧ a + 1 ≤ k ∧ k ≤ 65 ∧ Hid (∃ X1 X2 C1, X = X1 ++ X2 ∧ (X1.length = k - a ∨ X = []) ∧ Sd cbK X1 C1 ∧ OwnT W0 B wr A len c (P ++ (C1 ++ (X2 ++ S)))) ∧ Hid (w.grownBy wr (Value.slice A len c).ownBlock)) (fun i _ => 65 - (intOf i).toNat)
  case atStart => exact ⟨a + 1, by go_num, Nat.le_refl _, by have := HL.out; omega, H0, Lib.hid (World.grownBy.refl _ _)⟩
  case round =>
    obtain ⟨k, rfl, hak, hk65, HI, HG⟩ := hrel
    rename World => wr
    clear H0
    by_cases hlt : k < b
    · have hltz : (k : Int) < (b : Int) := by omega
      obtain ⟨X1, X2, C1, q1, q2, q3, q4⟩ := HI.out
      have hX2 : ∃ x X2', X2 = x :: X2' := by
        rcases X2 with _ | ⟨x, X2'⟩
        · exfalso
          obtain ⟨h1, h2, h3⟩ := HL.out
          rw [List.append_nil] at q1
          rcases q2 with q2 | q2
          · rw [← q1] at q2; omega
          · rw [q2] at h2; simp at h2; omega
        · exact ⟨x, X2', rfl⟩
      obtain ⟨x, X2', rfl⟩ := hX2
      have hX1 : X1.length = k - a := by
        rcases q2 with q2 | q2
        · exact q2
        · rw [q2] at q1; simp at q1
      have hC1 : C1.length = k - a := q3.len.trans hX1
      have htg : ∀ z, z ∈ X1 → ∀ y, y ∈ [x] → z.2 < y.2 := by
        have h1 := HT.out
        rw [q1] at h1
        intro z hz y hy
        rw [List.mem_singleton.1 hy]
        exact h1.app.2.2 z hz x (List.mem_cons_self ..)
      have HAG := Lib.hid (Sd.agr (cb := cbK) htg q3 (⟨Srt.one x, List.Perm.refl _⟩ : Sd cbK [x] [x]))
      have HOUT : Hid (∀ (A' B' : List (KlV × Nat)) (ws : World), C1 = A' ++ B' → (∀ y ∈ A', tK y x) → (∀ y ∈ B', tK x y) → OwnT W0 B ws A len c (P ++ (A' ++ (x :: (B' ++ (X2' ++ S))))) →
          ∃ X1 X2 C1, X = X1 ++ X2 ∧ (X1.length = k + 1 - a ∨ X = []) ∧ Sd cbK X1 C1 ∧ OwnT W0 B ws A len c (P ++ (C1 ++ (X2 ++ S)))) := by
        show ∀ _, _
        intro A' B' ws e hA hB h
        subst e
        refine ⟨X1 ++ [x], X2', A' ++ x :: B', by rw [q1]; simp, .inl (by simp; omega), ⟨ins_done q3.1 hA hB, ?_⟩, by simpa using h⟩
        exact List.perm_middle.trans ((q3.2.cons x).trans (by simpa using (List.perm_append_comm (l₁ := [x]) (l₂ := X1))))
      have HIN : Hid (∃ A' B' : List (KlV × Nat), C1 = A' ++ B' ∧ P.length + A'.length = k ∧ (∀ y ∈ B', tK x y) ∧ OwnT W0 B wr A len c (P ++ (A' ++ (x :: (B' ++ (X2' ++ S)))))) :=
        Lib.hid ⟨C1, [], by simp, by have := HL.out; omega, fun y hy => by (cases hy), by simpa using q4⟩
      have HS := Lib.hid q3.1
      have HC1 := Lib.hid hC1
      clear HI q1 q2 q3 q4 hX1 hC1 htg
      go_wp2_with fail
      go_loopw [9] (fun j ws => ∃ m : Nat, j = .int .i64 m ∧ a ≤ m ∧ m ≤ k ∧ Hid (∃ A' B' : List (KlV × Nat), C1 = A' ++ B' ∧ P.length + A'.length = m ∧ (∀ y ∈ B', tK x y) ∧ OwnT W0 B ws A len c (P ++ (A' ++ (x :: (B' ++ (X2' ++ S)))))) ∧ Hid (w.grownBy ws (Value.slice A len c).ownBlock)) (fun j _ => (intOf j).toNat)
      case atStart => exact ⟨k, rfl, by omega, Nat.le_refl _, HIN, HG⟩
      case round =>
        obtain ⟨m, rfl, ham, hmk, HJ, HGs⟩ := hrel
        rename World => ws
        clear HIN HG
        by_cases hma : a < m
        · have hmaz : (a : Int) < (m : Int) := by omega
          obtain ⟨A', B', r1, r2, r3, r4⟩ := HJ.out
          have hA' : ∃ A'' y, A' = A'' ++ [y] := by
            rcases List.eq_nil_or_concat A' with h | ⟨A'', y, h⟩
            · rw [h] at r2; have := HL.out; simp at r2; omega
            · exact ⟨A'', y, by simpa using h⟩
          obtain ⟨A'', y, rfl⟩ := hA'
          have rl : (P ++ A'').length + 1 = m := by simp at r2 ⊢; omega
          have r5 : OwnT W0 B ws A len c ((P ++ A'') ++ y :: x :: (B' ++ (X2' ++ S))) := by simpa using r4
          obtain ⟨g, rfl, hln, hc0, hfr⟩ := r5.head (by simp; omega)
          have hlen : m < len := by rw [hln]; simp at rl ⊢; omega
          obtain ⟨c1, n1, -⟩ := r5.at (P ++ A'').length y (by simp)
          obtain ⟨c2, n2, -⟩ := r5.at ((P ++ A'').length + 1) x (by rw [List.getElem?_append_right (by omega)]; simp)
          have hy : tK y x ∧ cbK x.1 y.1 = false ∨ tK x y ∧ cbK x.1 y.1 = true := by
            have h1 := HAG.out y (by rw [r1]; simp) x (List.mem_singleton.2 rfl)
            cases e : cbK x.1 y.1
            · exact .inl ⟨h1.2 e, rfl⟩
            · exact .inr ⟨h1.1 e, rfl⟩
          have HR5 := Lib.hid r5
          have HN := Lib.hid (And.intro n1 n2)
          have HR1 := Lib.hid r1
          have HR3 := Lib.hid r3
          have HR4 := Lib.hid r4
          have hgb : g < ws.heap.size := (Shp.Own.high (S := ShKW W0) r5) g rfl
          obtain ⟨p, hp⟩ : ∃ p, (P ++ A'').length = p := ⟨_, rfl⟩
          rw [hp] at rl c1 c2
          have HP := Lib.hid hp
          obtain rfl : m = p + 1 := by omega
          have hap : (a : Int) < (p : Int) + 1 := by omega
          have hpl : (p : Int) + 1 < (len : Int) := by omega
          have hpl0 : (p : Int) < (len : Int) := by omega
          have p0 : (0 : Int) ≤ (p : Int) + 1 := by omega
          have p1 : ((p : Int) + 1).toNat = p + 1 := by omega
          have hwp : IntKind.i64.wrap (p : Int) = (p : Int) := by rw [IntKind.wrap_i64]; omega
          obtain ⟨x', hx'⟩ : ∃ x', x.1 = x' := ⟨_, rfl⟩
          obtain ⟨y', hy'⟩ : ∃ y', y.1 = y' := ⟨_, rfl⟩
          have HXY := Lib.hid (And.intro hx' hy')
          rw [hx'] at c2
          rw [hy'] at c1
          have HG1 := Lib.hid (show w.grownBy ws (some g) from HGs.out)
          have HC := Lib.hid (fun W => cmp_any x' y' W)
          have HF := Lib.hid (fun W (e : Ext ws W) => And.intro (c1.ext e hgb) (c2.ext e hgb))
          have e1 := (Ext.refl ws).drew
          have f0 := HF.out _ e1
          unfold AtK at f0
          have hneg : (tK y x ∧ ¬ cfK x' y' < 0) ∨ (tK x y ∧ cfK x' y' < 0) := by
            rcases hy with ⟨h1, h2⟩ | ⟨h1, h2⟩
            · rw [hx', hy'] at h2; exact .inl ⟨h1, cf_no h2⟩
            · rw [hx', hy'] at h2; exact .inr ⟨h1, cf_yes h2⟩
          obtain ⟨r, hr⟩ : ∃ r, cfK x' y' = r := ⟨_, rfl⟩
          rw [hr] at hneg HC
          clear r1 r2 r3 r4 r5 hln hc0 n1 n2 hp hx' hy' hr c1 c2 hy HJ HGs hgb
          unfold KlV.vals at HC
          rcases hneg with ⟨ht, hneg⟩ | ⟨ht, hneg⟩
          · have HTT := Lib.hid ht
            clear ht
            go_wp2_with fail
            go_region_held3 (fun w' => w'.cell? ⟨g, p * 7, none⟩ = some (.slice y'.vp.A y'.vp.n y'.vp.c) ∧ w'.cell? ⟨g, p * 7 + 1, none⟩ = some (.string y'.k.nm) ∧ w'.cell? ⟨g, p * 7 + 2, none⟩ = some (.string y'.k.sup) ∧ w'.cell? ⟨g, p * 7 + 3, none⟩ = some (.bool y'.k.inf) ∧ w'.cell? ⟨g, p * 7 + 4, none⟩ = some (.slice y'.vi.A y'.vi.n y'.vi.c) ∧ w'.cell? ⟨g, p * 7 + 5, none⟩ = some (.slice y'.vf.A y'.vf.n y'.vf.c) ∧ w'.cell? ⟨g, p * 7 + 6, none⟩ = some (.slice y'.vm.A y'.vm.n y'.vm.c) ∧ w'.cell? ⟨g, (p + 1) * 7, none⟩ = some (.slice x'.vp.A x'.vp.n x'.vp.c) ∧ w'.cell? ⟨g, (p + 1) * 7 + 1, none⟩ = some (.string x'.k.nm) ∧ w'.cell? ⟨g, (p + 1) * 7 + 2, none⟩ = some (.string x'.k.sup) ∧ w'.cell? ⟨g, (p + 1) * 7 + 3, none⟩ = some (.bool x'.k.inf) ∧ w'.cell? ⟨g, (p + 1) * 7 + 4, none⟩ = some (.slice x'.vi.A x'.vi.n x'.vi.c) ∧ w'.cell? ⟨g, (p + 1) * 7 + 5, none⟩ = some (.slice x'.vf.A x'.vf.n x'.vf.c) ∧ w'.cell? ⟨g, (p + 1) * 7 + 6, none⟩ = some (.slice x'.vm.A x'.vm.n x'.vm.c)) (first | go_keep | with_reducible assumption | assumption) (first
              | (go_at_call 65; (with_reducible refine (HC.out _).mono ?_); rintro e w5 ⟨rfl, x5⟩; have e5 := e1.grown x5 (fun g h => by cases h); have f1 := HF.out w5 e5; unfold AtK at f1))
            go_wp2_with fail
            have HNX : Hid (∃ X1 X2 C1, X = X1 ++ X2 ∧ (X1.length = k + 1 - a ∨ X = []) ∧ Sd cbK X1 C1 ∧ OwnT W0 B w5 (some ⟨g, 0, none⟩) len c (P ++ (C1 ++ (X2 ++ S)))) := by
              refine HOUT.out (A'' ++ [y]) B' w5 HR1.out ?_ HR3.out (HR4.out.ext e5)
              have h1 := HS.out
              rw [HR1.out] at h1
              exact last_all (tl_tr swoK) h1 HTT.out
            have HG5 := Lib.hid (grown_extG HG1.out e5)
            clear f1 f0 x5 e5 e1
            go_roundw
            case rel => exact ⟨k + 1, by go_num, by omega, by omega, HNX, HG5⟩
            case measure => first | (simp [intOf]; omega) | simp [intOf]
          · have HTT := Lib.hid ht
            clear ht
            go_wp2_with fail
            go_region_held3 (fun w' => w'.cell? ⟨g, p * 7, none⟩ = some (.slice y'.vp.A y'.vp.n y'.vp.c) ∧ w'.cell? ⟨g, p * 7 + 1, none⟩ = some (.string y'.k.nm) ∧ w'.cell? ⟨g, p * 7 + 2, none⟩ = some (.string y'.k.sup) ∧ w'.cell? ⟨g, p * 7 + 3, none⟩ = some (.bool y'.k.inf) ∧ w'.cell? ⟨g, p * 7 + 4, none⟩ = some (.slice y'.vi.A y'.vi.n y'.vi.c) ∧ w'.cell? ⟨g, p * 7 + 5, none⟩ = some (.slice y'.vf.A y'.vf.n y'.vf.c) ∧ w'.cell? ⟨g, p * 7 + 6, none⟩ = some (.slice y'.vm.A y'.vm.n y'.vm.c) ∧ w'.cell? ⟨g, (p + 1) * 7, none⟩ = some (.slice x'.vp.A x'.vp.n x'.vp.c) ∧ w'.cell? ⟨g, (p + 1) * 7 + 1, none⟩ = some (.string x'.k.nm) ∧ w'.cell? ⟨g, (p + 1) * 7 + 2, none⟩ = some (.string x'.k.sup) ∧ w'.cell? ⟨g, (p + 1) * 7 + 3, none⟩ = some (.bool x'.k.inf) ∧ w'.cell? ⟨g, (p + 1) * 7 + 4, none⟩ = some (.slice x'.vi.A x'.vi.n x'.vi.c) ∧ w'.cell? ⟨g, (p + 1) * 7 + 5, none⟩ = some (.slice x'.vf.A x'.vf.n x'.vf.c) ∧ w'.cell? ⟨g, (p + 1) * 7 + 6, none⟩ = some (.slice x'.vm.A x'.vm.n x'.vm.c)) (first | go_keep | with_reducible assumption | assumption) (first
              | (go_at_call 65; (with_reducible refine (HC.out _).mono ?_); rintro e w5 ⟨rfl, x5⟩; have e5 := e1.grown x5 (fun g h => by cases h); have f1 := HF.out w5 e5; unfold AtK at f1))
            go_wp2_with fail
            have R5 := HR5.out.ext e5
            have hfr5 : ∀ j, w5.frozen? ⟨g, j, none⟩ = false := by
              obtain ⟨g2, h1, -, -, h2⟩ := R5.head (by simp; omega)
              injection h1 with h1
              injection h1 with h1
              subst h1
              exact h2
            have O3 := Lib.hid (R5.swap HN.out.1 HN.out.2)
            have G3 := Lib.hid (grown_drewG (st7_only (st7_only (grown_extG HG1.out e5) ((p + 1) * 7) y') (p * 7) x'))
            rw [HP.out, HXY.out.1, HXY.out.2] at O3
            obtain ⟨x0, x1, x2, x3, x4, x5, x6⟩ := f1.1
            obtain ⟨y0, y1, y2, y3, y4, y5, y6⟩ := f1.2
            obtain ⟨W, hW⟩ : ∃ W, (st7 (st7 w5 g ((p + 1) * 7) y') g (p * 7) x').drew = W := ⟨_, rfl⟩
            rw [hW] at O3 G3
            unfold st7 at hW
            clear f1 f0 R5 e5 e1
            go_region
            try rw [hW]
            have HNX : Hid (∃ A' B' : List (KlV × Nat), C1 = A' ++ B' ∧ P.length + A'.length = p ∧ (∀ y ∈ B', tK x y) ∧ OwnT W0 B W (some ⟨g, 0, none⟩) len c (P ++ (A' ++ (x :: (B' ++ (X2' ++ S)))))) :=
              Lib.hid ⟨A'', y :: B', by rw [HR1.out]; simp, by have := HP.out; simpa using this, ins_more HR3.out HTT.out, by simpa using O3.out⟩
            clear hW x0 x1 x2 x3 x4 x5 x6 y0 y1 y2 y3 y4 y5 y6 hfr5
            go_wp2_with fail
            go_roundw
            case rel => exact ⟨p, by go_num, by omega, by omega, HNX, G3⟩
            case measure => first | (simp [intOf]; omega) | simp [intOf]
        · have hmaz : ¬ (a : Int) < (m : Int) := by omega
          obtain ⟨A', B', r1, r2, r3, r4⟩ := HJ.out
          have hA0 : A' = [] := List.eq_nil_of_length_eq_zero (by have := HL.out; omega)
          have HN := Lib.hid (HOUT.out A' B' ws r1 (fun z hz => by rw [hA0] at hz; cases hz) r3 r4)
          clear r1 r2 r3 r4 hA0 HJ
          go_wp2_with fail
          go_quiet (fail)
          have e5 := (Ext.refl ws).drewN nq
          have HN5 : Hid (∃ X1 X2 C1, X = X1 ++ X2 ∧ (X1.length = k + 1 - a ∨ X = []) ∧ Sd cbK X1 C1 ∧ OwnT W0 B (ws.drewN nq) A len c (P ++ (C1 ++ (X2 ++ S)))) := by
            obtain ⟨X1, X2, C1, h1, h2, h3, h4⟩ := HN.out
            exact Lib.hid ⟨X1, X2, C1, h1, h2, h3, h4.ext e5⟩
          have HG5 := Lib.hid (grown_extG HGs.out e5)
          go_wp2_with fail
          go_roundw
          case rel => exact ⟨k + 1, by go_num, by omega, by omega, HN5, HG5⟩
          case measure => first | (simp [intOf]; omega) | simp [intOf]
    · have hltz : ¬ (k : Int) < (b : Int) := by omega
      go_wp2
      go_end0
      obtain ⟨X1, X2, C1, q1, q2, q3, q4⟩ := HI.out
      have hX2 : X2 = [] := by
        obtain ⟨h1, h2, h3⟩ := HL.out
        have := congrArg List.length q1
        rw [List.length_append] at this
        rcases q2 with q2 | q2
        · exact List.eq_nil_of_length_eq_zero (by omega)
        · rw [q2] at q1; exact (List.append_eq_nil_iff.1 q1.symm).2
      subst hX2
      rw [List.append_nil] at q1
      subst q1
      exact ⟨rfl, ⟨C1, q3, by simpa using q4⟩, HG.out⟩
end Go.Proofs.YtladeaofhdaloaaDoor
