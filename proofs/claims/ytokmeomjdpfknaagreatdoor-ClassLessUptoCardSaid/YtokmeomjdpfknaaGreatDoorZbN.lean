/- Several texts of this proof, one behind the other. -/
import Derived.Test.YtokmeomjdpfknaaGreatDoorZbM
import Derived.Test.YtokmeomjdpfknaaGreatDoorProg
import Derived.Test.YtokmeomjdpfknaaGreatDoorZbF
import Derived.Test.YtokmeomjdpfknaaGreatDoorRows
import Derived.Test.YtokmeomjdpfknaaGreatDoorZbK
import Derived.ProofKit
import Derived.OpenShut
import Derived.ShutString
import Derived.ChangeOld
import Derived.SizedLaws
import Derived.Lib.ValidLaws
import Derived.Deep.Slices
import Derived.Deep.Fields
import Derived.ChangeSame
namespace Go.Proofs.YtokmeomjdpfknaaGreatDoor
open Go.RowKit
set_option linter.unusedVariables false

theorem pints_ext (w : World) : Calls Tryz.prog 289 #[] w fun e w' => e = .returned (.agg #[.int .i64 (-2147483648), .int .i64 2147483647]) ∧ Ext w w' :=
  (pints_any w).mono fun e w' ⟨h1, h2⟩ => ⟨h1, by rw [h2]; exact (Ext.refl w).alloc _⟩
theorem places_ext (w : World) : Calls Tryz.prog 274 #[] w fun e w' => e = .returned (.agg #[.int .i64 0, .int .i64 8191]) ∧ Ext w w' :=
  (places_any w).mono fun e w' ⟨h1, h2⟩ => ⟨h1, by rw [h2]; exact (Ext.refl w).alloc _⟩
set_option maxHeartbeats 2000000 in
theorem numbersMay_any (x : In) (v1 v2 : Value) (w : World) (h1 : Row w .i64 v1 x.to) (h2 : Row w .i64 v2 x.ks) (hb : shapeZ x.o = 6 → (-2147483648 ≤ x.n ∧ x.n ≤ 2147483647) ∧ x.to.length ≤ 1001) :
    Calls Tryz.prog 278 #[.agg (x.vals v1 v2)] w fun e w' => e = .returned (.bool (numbersP x)) ∧ Ext w w' := by
  obtain ⟨A1, c1, rfl, -⟩ := h1
  obtain ⟨A2, c2, rfl, -⟩ := h2
  unfold numbersP
  have HB := Lib.hid (fun W e => boxed (w := w) (W := W) (x := x) (v1 := .slice A1 x.to.length c1) (v2 := .slice A2 x.ks.length c2) e)
  have B0 := HB.out _ (Ext.refl _)
  obtain ⟨d0, d1, d2, d3, d4, d5⟩ := B0
  unfold In.vals at HB d0 d1 d2 d3 d4 d5 ⊢
  by_cases hz : shapeZ x.o = 6
  · rw [if_pos hz]
    have HZ := Lib.hid hz
    obtain ⟨⟨b1, b2⟩, b3⟩ := hb hz
    clear hz hb
    have ha : IntKind.i64.wrap (x.n + (x.to.length : Int)) = x.n + x.to.length := by rw [IntKind.wrap_i64]; omega
    have hs : IntKind.i64.wrap (x.n + (x.to.length : Int) - 2) = x.n + x.to.length - 2 := by rw [IntKind.wrap_i64]; omega
    go_enter Tryz.func278, Tryz.ntmps278
    go_wp2
    go_region_with (first
      | (go_at_call 267; refine (Shape_any _ _).mono ?_; rintro e w1 ⟨rfl, x1⟩; rw [HZ.out]; have X1 := (((Ext.refl _).drewN _).trans x1); obtain ⟨d10, d11, d12, d13, d14, d15⟩ := HB.out _ X1)
      | (go_at_call 289; refine (pints_ext _).mono ?_; rintro e w2 ⟨rfl, x2⟩; have X2 := X1.trans x2; obtain ⟨d20, d21, d22, d23, d24, d25⟩ := HB.out _ X2)
      | (go_at_call 275; refine (has_any _ _ _ _).mono ?_; rintro e w3 ⟨rfl, x3⟩))
    all_goals
      go_wp2
      go_ret
      exact ⟨rfl, (((Ext.refl w).alloc _).trans X2).trans x3⟩
  · rw [if_neg hz]
    have hzb : (shapeZ x.o != 6) = true := by simpa using hz
    clear hz hb
    go_enter Tryz.func278, Tryz.ntmps278
    go_wp2
    first | (go_region_with (first
      | (go_at_call 267; refine (Shape_any _ _).mono ?_; rintro e w1 ⟨rfl, x1⟩))) | fail
    all_goals
      go_wp2
      go_ret
      exact ⟨rfl, ((Ext.refl w).alloc _).trans (((Ext.refl _).drewN _).trans x1)⟩
end Go.Proofs.YtokmeomjdpfknaaGreatDoor
namespace Go.Proofs.YtokmeomjdpfknaaGreatDoor
open Go.RowKit
set_option linter.unusedVariables false

theorem pints_ext3 (w : World) : Calls Tryz.prog 289 #[] w fun e w' => e = .returned (.agg #[.int .i64 (-2147483648), .int .i64 2147483647]) ∧ Ext w w' :=
  (pints_any w).mono fun e w' ⟨h1, h2⟩ => ⟨h1, by rw [h2]; exact (Ext.refl w).alloc _⟩
theorem Row.all {w : World} {k : IntKind} {A : Option Addr} {n c : Nat} {l : List Int} (h : Row w k (.slice A n c) l) (hl : 0 < l.length) : ∃ b o, A = some ⟨b, o, none⟩ ∧ ∀ W, Ext w W → ∀ j, j < l.length → W.cell? ⟨b, o + j, none⟩ = some (.int k (gi l j)) := by
  obtain ⟨A', c', h1, h2, h3, h4, h5, h6⟩ := h
  obtain ⟨b, o, rfl, hb, hc⟩ := h6 hl
  injection h1 with e1 e2 e3
  subst e1
  exact ⟨b, o, rfl, fun W e j hj => (e.cell (p := ⟨b, o + j, none⟩) hb).trans (hc j hj)⟩
theorem keysP_no {x : In} (hz : shapeZ x.o = 7) (hl : x.ks.length + 1 = x.to.length) {k : Nat} (hk : k < x.ks.length) (h : ¬ (isInt (gi x.ks k) = true ∧ (0 < k → gi x.ks (k - 1) < gi x.ks k))) : keysP x = false := by
  unfold keysP
  rw [if_pos hz, decide_eq_true hl, Bool.true_and, Bool.eq_false_iff]
  intro hr
  exact h ((rise_iff _).1 hr k hk)
theorem keysP_yes {x : In} (hz : shapeZ x.o = 7) (hl : x.ks.length + 1 = x.to.length) (h : UpTo x.ks x.ks.length) : keysP x = true := by
  unfold keysP
  rw [if_pos hz, decide_eq_true hl, Bool.true_and]
  exact (rise_iff _).2 h
theorem keysP_len {x : In} (hz : shapeZ x.o = 7) (hl : ¬ x.ks.length + 1 = x.to.length) : keysP x = false := by
  unfold keysP
  rw [if_pos hz, decide_eq_false hl, Bool.false_and]
set_option maxHeartbeats 4000000 in
theorem keysMay_any (x : In) (v1 v2 : Value) (w : World) (h1 : Row w .i64 v1 x.to) (h2 : Row w .i64 v2 x.ks) :
    Calls Tryz.prog 279 #[.agg (x.vals v1 v2)] w fun e w' => e = .returned (.bool (keysP x)) ∧ Ext w w' := by
  have H2 := Lib.hid h2
  obtain ⟨A1, c1, rfl, hc1, hm1, -⟩ := h1
  obtain ⟨A2, c2, rfl, hc2, hm2, -⟩ := h2
  unfold maxLen at hm1 hm2
  have HB := Lib.hid (fun W e => boxed (w := w) (W := W) (x := x) (v1 := .slice A1 x.to.length c1) (v2 := .slice A2 x.ks.length c2) e)
  obtain ⟨d0, d1, d2, d3, d4, d5⟩ := HB.out _ (Ext.refl _)
  unfold In.vals at HB d0 d1 d2 d3 d4 d5 ⊢
  clear d0 d2 d3
  by_cases hz : shapeZ x.o = 7
  · have HZ := Lib.hid hz
    clear hz
    have ha : IntKind.i64.wrap ((x.to.length : Int) - 1) = x.to.length - 1 := by rw [IntKind.wrap_i64]; omega
    by_cases hl : x.ks.length + 1 = x.to.length
    · have HL := Lib.hid hl
      have hl2 : ((x.ks.length : Int) != (x.to.length : Int) - 1) = false := by simp; omega
      clear hl
      have HM := Lib.hid (And.intro hm1 hm2)
      go_enter Tryz.func279, Tryz.ntmps279
      go_wp2_with (first
        | (go_at_call 267; refine (Shape_any _ _).mono ?_; rintro e w1 ⟨rfl, x1⟩; rw [HZ.out]; obtain ⟨d10, d11, d12, d13, d14, d15⟩ := HB.out _ x1))
      clear d10 d11 d12 d13 d14 hl2 ha d1 d4 d5
      go_loopw [24] (fun i wr => ∃ k : Nat, k ≤ x.ks.length ∧ i = .int .i64 k ∧ Hid (Ext w1 wr) ∧ Hid (UpTo x.ks k)) (fun i _ => x.ks.length - (intOf i).toNat)
      case atStart => exact ⟨0, by omega, rfl, Lib.hid (Ext.refl w1), Lib.hid (fun j hj => by omega)⟩
      case round =>
        obtain ⟨k, hk, rfl, HX, HU⟩ := hrel
        by_cases hlt : k < x.ks.length
        · obtain ⟨b1, o1, rfl, hat⟩ := H2.out.all (by omega)
          have HAT := Lib.hid hat
          have y0 := hat _ ((((Ext.refl w).alloc _).trans x1).trans HX.out) k (by omega)
          obtain ⟨d20, d21, d22, d23, d24, d25⟩ := HB.out _ (x1.trans HX.out)
          clear hat d15 d20 d21 d22 d23 d24
          by_cases he : inR (-2147483648) 2147483647 (gi x.ks k) = true
          · have HE := Lib.hid he
            clear he
            match k, hk, hlt with
            | 0, hk, hlt =>
              rw [Nat.add_zero] at y0
              go_wp2_with (first
                | (go_at_call 289; refine (pints_ext3 _).mono ?_; rintro e w2 ⟨rfl, x2⟩)
                | (go_at_call 275; refine (has_any _ _ _ _).mono ?_; rintro e w3 ⟨rfl, x3⟩; rw [HE.out]))
              go_roundw
              case rel => exact ⟨1, by omega, by go_num, Lib.hid ((HX.out.trans x2).trans x3), Lib.hid (HU.out.next HE.out (fun h => by omega))⟩
              case measure => simp [intOf]; omega
            | j + 1, hk, hlt =>
              have hj : IntKind.i64.wrap (((j + 1 : Nat) : Int) - 1) = j := by rw [IntKind.wrap_i64]; have := HM.out; omega
              by_cases hr : gi x.ks j < gi x.ks (j + 1)
              · have hr2 : ¬ gi x.ks (j + 1) ≤ gi x.ks j := by omega
                go_wp2_with (first
                  | (go_at_call 289; refine (pints_ext3 _).mono ?_; rintro e w2 ⟨rfl, x2⟩)
                  | (go_at_call 275; refine (has_any _ _ _ _).mono ?_; rintro e w3 ⟨rfl, x3⟩; rw [HE.out]; have X3 := (HX.out.trans x2).trans x3; have y3 := HAT.out _ (((Ext.refl w).alloc _).trans (x1.trans X3)) j (by omega); obtain ⟨d30, d31, d32, d33, d34, d35⟩ := HB.out _ (x1.trans X3)))
                go_roundw
                case rel => exact ⟨j + 1 + 1, by omega, by go_num, Lib.hid X3, Lib.hid (HU.out.next HE.out (fun _ => by simpa using hr))⟩
                case measure => simp [intOf]; omega
              · have hr2 : gi x.ks (j + 1) ≤ gi x.ks j := by omega
                have HR := Lib.hid hr
                go_wp2_with (first
                  | (go_at_call 289; refine (pints_ext3 _).mono ?_; rintro e w2 ⟨rfl, x2⟩)
                  | (go_at_call 275; refine (has_any _ _ _ _).mono ?_; rintro e w3 ⟨rfl, x3⟩; rw [HE.out]; have X3 := (HX.out.trans x2).trans x3; have y3 := HAT.out _ (((Ext.refl w).alloc _).trans (x1.trans X3)) j (by omega); obtain ⟨d30, d31, d32, d33, d34, d35⟩ := HB.out _ (x1.trans X3)))
                go_ret
                refine ⟨ret_bb (keysP_no HZ.out HL.out hlt (fun h => ?_)).symm, ((Ext.refl w).alloc _).trans (x1.trans X3)⟩
                have h3 : gi x.ks j < gi x.ks (j + 1) := by simpa using h.2 (by omega)
                have h4 := HR.out
                omega
          · have HE := Lib.hid (show inR (-2147483648) 2147483647 (gi x.ks k) = false by simpa using he)
            clear he
            go_wp2_with (first
              | (go_at_call 289; refine (pints_ext3 _).mono ?_; rintro e w2 ⟨rfl, x2⟩)
              | (go_at_call 275; refine (has_any _ _ _ _).mono ?_; rintro e w3 ⟨rfl, x3⟩; rw [HE.out]))
            go_ret
            refine ⟨ret_bb (keysP_no HZ.out HL.out hlt (fun h => ?_)).symm, ((Ext.refl w).alloc _).trans (x1.trans ((HX.out.trans x2).trans x3))⟩
            have h1 := h.1
            rw [← inR_isInt, HE.out] at h1
            cases h1
        · obtain rfl : k = x.ks.length := by omega
          go_wp2
          go_ret
          exact ⟨ret_bb (keysP_yes HZ.out HL.out HU.out).symm, ((Ext.refl w).alloc _).trans (x1.trans HX.out)⟩
    · have HL := Lib.hid hl
      have hl2 : ((x.ks.length : Int) != (x.to.length : Int) - 1) = true := by simp; omega
      clear hl
      go_enter Tryz.func279, Tryz.ntmps279
      go_wp2_with (first
        | (go_at_call 267; refine (Shape_any _ _).mono ?_; rintro e w1 ⟨rfl, x1⟩; rw [HZ.out]; obtain ⟨d10, d11, d12, d13, d14, d15⟩ := HB.out _ x1))
      go_ret
      exact ⟨ret_bb (keysP_len HZ.out HL.out).symm, ((Ext.refl w).alloc _).trans x1⟩
  · have HZ := Lib.hid hz
    have hzb : (shapeZ x.o != 7) = true := by simpa using hz
    clear hz
    go_enter Tryz.func279, Tryz.ntmps279
    go_wp2_with (first
      | (go_at_call 267; refine (Shape_any _ _).mono ?_; rintro e w1 ⟨rfl, x1⟩; obtain ⟨d10, d11, d12, d13, d14, d15⟩ := HB.out _ x1))
    go_ret
    refine ⟨ret_bb ?_, ((Ext.refl w).alloc _).trans x1⟩
    unfold keysP
    rw [if_neg HZ.out]
    cases x.ks <;> simp
    try omega
end Go.Proofs.YtokmeomjdpfknaaGreatDoor
namespace Go.Proofs.YtokmeomjdpfknaaGreatDoor
open Go.RowKit
set_option linter.unusedVariables false

def isNo : Value → Bool
  | .bool false => true
  | _ => false
theorem isNo_eq {v : Value} (h : isNo v = true) : v = .bool false := by
  match v, h with
  | .bool false, _ => rfl
theorem marks_fit : Tryz.zeroCells264.toList.all isNo = true := by kernel_rfl
theorem marks_at {j : Nat} (h : j < 8192) : Tryz.zeroCells264[j]? = some (.bool false) := by
  have hs := Tryz.zeroCells264_size
  have h2 := List.all_eq_true.1 marks_fit _ (Array.getElem_mem_toList (by rw [hs]; exact h) : Tryz.zeroCells264[j]'(by rw [hs]; exact h) ∈ _)
  rw [Array.getElem?_eq_getElem (by rw [hs]; exact h), isNo_eq h2]
end Go.Proofs.YtokmeomjdpfknaaGreatDoor
namespace Go.Proofs.YtokmeomjdpfknaaGreatDoor
open Go.RowKit Go.ChangeShapes Go.WideShapes Go.Deep
set_option linter.unusedVariables false
theorem own : ownKnob Tryz.prog.godebug = none := by kernel_rfl
theorem laidOut : laidOutB Tryz.prog = true := by kernel_rfl
theorem bounds_i64 {x : Int} (h : (Lit.int .i64 x).wf = true) : -9223372036854775808 ≤ x ∧ x ≤ 9223372036854775807 := by
  simp [Lit.wf, IntKind.min, IntKind.max, IntKind.signed, IntKind.bits] at h
  omega
def B64 (x : Int) : Prop := -9223372036854775808 ≤ x ∧ x ≤ 9223372036854775807
theorem list_ofG {α : Type} (S : Shp α) {Q : Nat → α → Prop} : ∀ (n : Nat), (∀ i, i < n → ∃ y, Q i y) → ∃ l : List α, l.length = n ∧ ∀ i, i < n → Q i (S.el l i) := by
  intro n
  induction n with
  | zero => exact fun _ => ⟨[], rfl, fun i h => absurd h (Nat.not_lt_zero i)⟩
  | succ n ih =>
    intro h
    obtain ⟨l, hl, hq⟩ := ih (fun i hi => h i (by omega))
    obtain ⟨y, hy⟩ := h n (by omega)
    refine ⟨l ++ [y], by simp [hl], fun i hi => ?_⟩
    by_cases hin : i < n
    · have e : S.el (l ++ [y]) i = S.el l i := by simp [Shp.el, List.getElem?_append_left (show i < l.length by omega)]
      rw [e]
      exact hq i hin
    · have e : S.el (l ++ [y]) i = y := by
        have : i = l.length := by omega
        subst this
        simp [Shp.el]
      rw [e, show i = n by omega]
      exact hy
section
variable {H : Type} {enc : TypeId × Value → H} {w : World}
def Light (t : TypeId) (d : DataW H) : Prop := ∀ x ∈ d.weights Tryz.prog t, x ≤ reachBytes
theorem light_all {t : TypeId} : ∀ {ds : List (DataW H)}, (∀ x ∈ DataW.weightsAll Tryz.prog t ds, x ≤ reachBytes) → ∀ {d : DataW H}, d ∈ ds → Light t d := by
  intro ds
  induction ds with
  | nil => intro _ d h; cases h
  | cons a ds ih =>
    intro hw d h
    rw [DataW.weightsAll] at hw
    rcases List.mem_cons.1 h with rfl | h
    · exact fun x hx => hw x (List.mem_append_left _ hx)
    · exact ih (fun x hx => hw x (List.mem_append_right _ hx)) h
theorem light_slice {t e : TypeId} {ds sp : List (DataW H)} (ht : Tryz.prog.underlying t = some (.slice e)) (h : Light t (.slice ds sp : DataW H)) : (ds.length + sp.length) * Tryz.prog.bytesOf e ≤ reachBytes ∧ ∀ d ∈ ds, Light e d := by
  have hu : (DataW.slice ds sp : DataW H).weights Tryz.prog t = (ds.length + sp.length) * Tryz.prog.bytesOf e :: (DataW.weightsAll Tryz.prog e ds ++ DataW.weightsAll Tryz.prog e sp) := by
    rw [DataW.weights, ht]
  unfold Light at h
  rw [hu] at h
  exact ⟨h _ (List.mem_cons_self ..), fun d hd => light_all (fun x hx => h x (List.mem_cons_of_mem _ (List.mem_append_left _ hx))) hd⟩
theorem light_each : ∀ {ts : List TypeId} {ds : List (DataW H)}, (∀ x ∈ DataW.weightsEach Tryz.prog ts ds, x ≤ reachBytes) → ∀ {j : Nat} {t : TypeId} {d : DataW H}, ts[j]? = some t → ds[j]? = some d → Light t d := by
  intro ts
  induction ts with
  | nil => intro ds _ j t d ht; simp at ht
  | cons a ts ih =>
    intro ds h j t d ht hd
    match ds, hd with
    | [], hd => simp at hd
    | b :: ds, hd =>
      rw [DataW.weightsEach] at h
      match j, ht, hd with
      | 0, ht, hd =>
        simp at ht hd
        subst ht hd
        exact fun x hx => h x (List.mem_append_left _ hx)
      | j + 1, ht, hd => exact ih (fun x hx => h x (List.mem_append_right _ hx)) (by simpa using ht) (by simpa using hd)
theorem light_struct {t : TypeId} {fs : Array Field} {ds : List (DataW H)} (ht : Tryz.prog.underlying t = some (.struct fs)) (h : Light t (.agg ds : DataW H)) {j : Nat} {f : Field} {d : DataW H} (hf : fs[j]? = some f) (hd : ds[j]? = some d) : Light f.type d := by
  have hu : (DataW.agg ds : DataW H).weights Tryz.prog t = DataW.weightsEach Tryz.prog (fs.toList.map (·.type)) ds := by
    rw [DataW.weights, ht]
  unfold Light at h
  rw [hu] at h
  exact light_each h (j := j) (by simp [hf]) hd
theorem light_of {ts : List TypeId} {ds : List (DataW H)} (h : (DataW.weightsEach Tryz.prog ts ds).all (· ≤ reachBytes) = true) {j : Nat} {t : TypeId} {d : DataW H} (ht : ts[j]? = some t) (hd : ds[j]? = some d) : Light t d :=
  light_each (fun x hx => of_decide_eq_true (List.all_eq_true.1 h x hx)) ht hd
theorem open_listG {α : Type} (S : Shp α) {t : TypeId} {bytes : Nat} {Q : α → Prop} (ht : Tryz.prog.underlying t = some (.slice S.T)) (hk : Tryz.prog.cellsOf S.T = S.n) (hb : Tryz.prog.bytesOf S.T = bytes)
    (hel : ∀ (fuel : Nat) (cs : List Value) (x : DataW H × List MemPlace), DataW.trod enc Tryz.prog w 0 (fun _ => true) true fuel S.T cs = some x → Light S.T x.1 → ∃ y : α, cs = (S.vals y).toList ∧ S.nest w y ∧ Q y)
    {fuel : Nat} {cs : List Value} {x : DataW H × List MemPlace} (h : DataW.trod enc Tryz.prog w 0 (fun _ => true) true fuel t cs = some x) (hl : Light t x.1) :
    ∃ (A : Option Addr) (n c : Nat) (l : List α), cs = [.slice A n c] ∧ l.length = n ∧ S.Row w (.slice A n c) l ∧ l.length * bytes ≤ reachBytes ∧ ∀ y ∈ l, Q y := by
  rcases open_slice ht h with ⟨rfl, rfl⟩ | ⟨a, len, cap, m, n, D, Pl, rfl, hbs, hlc, hm, hmm, rfl, hi⟩
  · exact ⟨none, 0, 0, [], rfl, rfl, Shp.Row.nil S w, by simp, (fun _ h => by cases h)⟩
  · have hlm : len ≤ m := by rw [hmm]; split <;> omega
    obtain ⟨hw1, hw2⟩ := light_slice ht hl
    obtain ⟨l, hll, hq⟩ := list_ofG S (Q := fun i y => S.nest w y ∧ Q y ∧ ∀ j, j < S.n → w.cell? (a.add (i * S.n + j)) = (S.vals y)[j]?) len (fun i hil => by
      obtain ⟨cs', hc, ht'⟩ := hi i (by omega)
      rw [hk] at hc
      obtain ⟨y, hv, hn, hqy⟩ := hel _ _ _ ht' (hw2 _ (List.mem_map.2 ⟨i, by simp [hil], rfl⟩))
      obtain ⟨_, hcl, hat⟩ := World.cells?_some hc
      refine ⟨y, hn, hqy, fun j hj => ?_⟩
      have := hat j hj
      rw [← Go.Deep.add_add, this, hv]
      simp)
    refine ⟨some a, len, cap, l, rfl, hll, ⟨some a, cap, by rw [hll], by omega, hm, (fun h => by cases h), fun hp => ?_, fun y hy => ?_⟩, ?_, fun y hy => ?_⟩
    · have hp0 := S.pos
      have h0 := (hq 0 (by omega)).2.2 0 hp0
      obtain ⟨b, o, spot⟩ := a
      have hsz := S.size (S.el l 0)
      have hg : (S.vals (S.el l 0))[0]? = some ((S.vals (S.el l 0))[0]'(by omega)) := Array.getElem?_eq_getElem _
      rw [hg] at h0
      have hs : spot = none := by simpa [Addr.add] using World.cell?_spot h0
      subst hs
      refine ⟨b, o, rfl, by have := World.block_lt_of_cell? w _ h0; rwa [Addr.add_lit] at this, fun j hj i hi => ?_⟩
      have hc := (hq j (by omega)).2.2 i hi
      rw [Addr.add_lit] at hc
      rw [Nat.add_assoc]
      exact hc
    · obtain ⟨i, hi', rfl⟩ := S.el_of_mem hy
      exact (hq i (by omega)).1
    · rw [hb] at hw1
      simp only [List.length_map, List.length_range] at hw1
      rw [hll]
      exact Nat.le_trans (Nat.mul_le_mul_right _ (Nat.le_add_right _ _)) hw1
    · obtain ⟨i, hi', rfl⟩ := S.el_of_mem hy
      exact (hq i (by omega)).2.1
theorem open_listI {k : IntKind} {t e : TypeId} {bytes : Nat} (ht : Tryz.prog.underlying t = some (.slice e)) (he : Tryz.prog.underlying e = some (.int k)) (hk : Tryz.prog.cellsOf e = 1) (hb : Tryz.prog.bytesOf e = bytes)
    {fuel : Nat} {cs : List Value} {x : DataW H × List MemPlace} (h : DataW.trod enc Tryz.prog w 0 (fun _ => true) true fuel t cs = some x) (hl : Light t x.1) :
    ∃ (A : Option Addr) (n c : Nat) (l : List Int), cs = [.slice A n c] ∧ l.length = n ∧ Row w k (.slice A n c) l ∧ l.length * bytes ≤ reachBytes := by
  rcases open_ints ht he hk h with ⟨rfl, rfl⟩ | ⟨a, n, c, zs, rfl, _, hlc, hm, hz, rfl, hcell, hwz⟩
  · exact ⟨none, 0, 0, [], rfl, rfl, (Own.nil 0 _ 0 _).row, by simp⟩
  · simp only [if_true] at hz
    obtain ⟨hw1, -⟩ := light_slice ht hl
    rw [hb] at hw1
    simp only [lits, List.length_map, List.length_take, List.length_drop] at hw1
    have hln : (zs.take n).length = n := by simp; omega
    refine ⟨some a, n, c, zs.take n, rfl, hln, row_of_open hlc hm hz hcell hwz, ?_⟩
    rw [hln]
    refine Nat.le_trans (Nat.mul_le_mul_right _ ?_) hw1
    omega
set_option maxRecDepth 100000 in
theorem open_handG (fuel : Nat) (cs : List Value) (x : DataW H × List MemPlace) (h : DataW.trod enc Tryz.prog w 0 (fun _ => true) true fuel 58 cs = some x) (hl : Light 58 x.1) :
    ∃ y : Hd, cs = y.vals.toList ∧ True ∧ True := by
  obtain ⟨ys, n', hn', hy, hlen, hyl, hf⟩ := DataW.trod_struct Tryz.underlying58 h
  have hc : cs.length = 4 := hlen.trans (by kernel_rfl)
  have k3 : Tryz.prog.cellsOf 3 = 1 := by kernel_rfl
  match cs, hc with
  | [c0, c1, c2, c3], _ =>
    have hyl' : ys.length = 4 := hyl
    clear hyl
    match ys, hyl' with
    | [y0, y1, y2, y3], _ =>
      have h0 : DataW.trod enc Tryz.prog w 0 (fun _ => true) true n' 3 [c0] = some y0 := by simpa [k3] using hf 0 _ rfl
      have h1 : DataW.trod enc Tryz.prog w 0 (fun _ => true) true n' 3 [c1] = some y1 := by simpa [k3] using hf 1 _ rfl
      have h2 : DataW.trod enc Tryz.prog w 0 (fun _ => true) true n' 3 [c2] = some y2 := by simpa [k3] using hf 2 _ rfl
      have h3 : DataW.trod enc Tryz.prog w 0 (fun _ => true) true n' 3 [c3] = some y3 := by simpa [k3] using hf 3 _ rfl
      obtain ⟨x0, e0, r0, w0⟩ := DataW.trod_int Tryz.underlying3 h0
      obtain ⟨x1, e1, r1, w1⟩ := DataW.trod_int Tryz.underlying3 h1
      obtain ⟨x2, e2, r2, w2⟩ := DataW.trod_int Tryz.underlying3 h2
      obtain ⟨x3, e3, r3, w3⟩ := DataW.trod_int Tryz.underlying3 h3
      injection e0 with e0
      injection e1 with e1
      injection e2 with e2
      injection e3 with e3
      subst e0 e1 e2 e3
      exact ⟨⟨x0, x1, x2, x3⟩, rfl, trivial, trivial⟩
def MeOk (m : Me) : Prop := m.code.length ≤ reachBytes ∧ m.hs.length * 32 ≤ reachBytes ∧ m.args.length * 24 ≤ reachBytes ∧ B64 m.sk ∧ B64 m.lo
end
end Go.Proofs.YtokmeomjdpfknaaGreatDoor
