/- Several texts of this proof, one behind the other. -/
import Derived.Test.YtkkfkjjmmdpafaaDoorYdF
import Derived.Test.YtkkfkjjmmdpafaaDoorYdE
import Derived.Laws.EntriesVeiled
import Derived.Test.YtkkfkjjmmdpafaaDoorYdD
namespace Go.Proofs.YtkkfkjjmmdpafaaDoor
open Go.RowKit
set_option linter.unusedVariables false

set_option maxRecDepth 100000 in
set_option maxHeartbeats 8000000 in
theorem symMerge_last {W0 w : World} {B a m b len c g : Nat} (P L S : List (KlV × Nat)) (x : KlV × Nat) (ha : P.length = a) (hm : a + L.length = m) (hb : m + 1 = b) (hL2 : L.length ≠ 1) (hR : Srt tK L) (hag : Agr (fun a b => cbK a.1 b.1) tK L [x])
    (ho : OwnT W0 B w (some ⟨g, 0, none⟩) len c (P ++ (L ++ ([x] ++ S)))) (hl : (P ++ (L ++ ([x] ++ S))).length ≤ 64) :
    Calls Tryd.prog 93 #[.slice (some ⟨g, 0, none⟩) len c, .int .i64 a, .int .i64 m, .int .i64 b, cmpV] w (Merged W0 B g len c P L [x] S w) := by
  have hl2 : P.length + (L.length + (1 + S.length)) ≤ 64 := by simp at hl; omega
  have hb64 : b ≤ 64 := by omega
  have HL := Lib.hid (And.intro ha (And.intro hm (And.intro hb hl2)))
  have HR := Lib.hid hR
  have HAG := Lib.hid hag
  have HOW := Lib.hid ho
  have H0 : Hid ((∀ y ∈ L.take (a - a), tK y x) ∧ ∀ y ∈ L.drop (m - a), tK x y) := Lib.hid ⟨fun y hy => by simp at hy, fun y hy => by rw [List.drop_of_length_le (by omega)] at hy; cases hy⟩
  have hma : ((m : Int) - (a : Int) == 1) = false := by
    rw [beq_eq_false_iff_ne]
    omega
  have hbm : (b : Int) - (m : Int) = 1 := by omega
  have ham : a ≤ m := by omega
  have hmb : m < b := by omega
  clear hL2
  clear ha hm hb hR hag ho hl hl2
  go_enter Tryd.func93, Tryd.ntmps93
  go_wp2_with fail
  go_loopw [14, 15] (fun i j wr => ∃ p q : Nat, i = .int .i64 p ∧ j = .int .i64 q ∧ a ≤ p ∧ p ≤ q ∧ q ≤ m ∧ Hid ((∀ y ∈ L.take (p - a), tK y x) ∧ ∀ y ∈ L.drop (q - a), tK x y) ∧ Hid (Ext w wr)) (fun i j _ => (intOf j).toNat - (intOf i).toNat)
  case atStart => exact ⟨a, m, rfl, rfl, Nat.le_refl _, ham, Nat.le_refl _, H0, Lib.hid (Ext.refl _)⟩
  case round =>
    obtain ⟨p, q, rfl, rfl, hmp, hpq, hqb, HI, HX⟩ := hrel
    rename World => wr
    clear H0
    by_cases hlt : p < q
    · have hltz : (p : Int) < (q : Int) := by omega
      obtain ⟨h, hh⟩ : ∃ h, (p + q) / 2 = h := ⟨_, rfl⟩
      have hh2 : ((p : Int) + (q : Int)) / 2 = (h : Int) := by omega
      have hph : p ≤ h := by omega
      have hhq : h < q := by omega
      have HO := Lib.hid (HOW.out.ext HX.out)
      obtain ⟨z, hz⟩ : ∃ z, L[h - a]? = some z := ⟨L[h - a]'(by have := HL.out; omega), List.getElem?_eq_getElem _⟩
      have hp : (P ++ (L ++ ([x] ++ S)))[m]? = some x := by
        have := HL.out
        rw [List.getElem?_append_right (by omega), List.getElem?_append_right (by omega), show m - P.length - L.length = 0 by omega]
        rfl
      have hq : (P ++ (L ++ ([x] ++ S)))[h]? = some z := by
        have := HL.out
        have hz2 := (List.getElem?_eq_some_iff.1 hz).1
        rw [List.getElem?_append_right (by omega), List.getElem?_append_left (by omega), ← hz]
        congr 1
        omega
      have hmem : z ∈ L := List.mem_of_getElem? hz
      have hord := HAG.out z hmem x (List.mem_singleton.2 rfl)
      have hlow : tK z x → (∀ y ∈ L.take (h + 1 - a), tK y x) := fun h1 => by
        obtain ⟨h2, h3⟩ := List.getElem?_eq_some_iff.1 hz
        have := bs_low (tl_tr swoK) HR.out h2 (by rw [h3]; exact h1)
        rw [show h - a + 1 = h + 1 - a by omega] at this
        exact this
      have hhigh : tK x z → (∀ y ∈ L.drop (h - a), tK x y) := fun h1 => by
        obtain ⟨h2, h3⟩ := List.getElem?_eq_some_iff.1 hz
        exact bs_high (tl_tr swoK) HR.out h2 (by rw [h3]; exact h1)
      have hdec : (Hid (∀ y ∈ L.take (h + 1 - a), tK y x) ∧ ¬ cfK x.1 z.1 < 0) ∨ (Hid (∀ y ∈ L.drop (h - a), tK x y) ∧ cfK x.1 z.1 < 0) := by
        cases e : cbK x.1 z.1
        · exact .inl ⟨hlow (hord.2 e), cf_no e⟩
        · exact .inr ⟨hhigh (hord.1 e), cf_yes e⟩
      have HFF := cmp_facts HO.out hp hq
      have hpl : m < len := HFF.1
      have hql : h < len := HFF.2.1
      obtain ⟨x', hx'⟩ : ∃ x', x.1 = x' := ⟨_, rfl⟩
      obtain ⟨y', hy'⟩ : ∃ y', z.1 = y' := ⟨_, rfl⟩
      have HF := Lib.hid HFF.2.2
      rw [hx', hy'] at HF
      have HXY := Lib.hid (And.intro hx' hy')
      have HC := Lib.hid (fun W => cmp_any x' y' W)
      have e1 := (Ext.refl wr).drew
      have f0 := HF.out _ e1
      unfold AtK at f0
      rw [hx', hy'] at hdec
      obtain ⟨rv, hr⟩ : ∃ rv, cfK x' y' = rv := ⟨_, rfl⟩
      rw [hr] at hdec HC
      have hplz : (m : Int) < (len : Int) := by omega
      have hqlz : (h : Int) < (len : Int) := by omega
      clear HFF hx' hy' hr
      unfold KlV.vals at HC
      clear hp hq hmem hord hlow hhigh hz
      rcases hdec with ⟨HD, hneg⟩ | ⟨HD, hneg⟩
      · have hnb : decide (rv < 0) = false := decide_eq_false hneg
        go_wp2_with fail
        go_region_held3 (fun w' => w'.cell? ⟨g, m * 7, none⟩ = some (.slice x'.vp.A x'.vp.n x'.vp.c) ∧ w'.cell? ⟨g, m * 7 + 1, none⟩ = some (.string x'.k.nm) ∧ w'.cell? ⟨g, m * 7 + 2, none⟩ = some (.string x'.k.sup) ∧ w'.cell? ⟨g, m * 7 + 3, none⟩ = some (.bool x'.k.inf) ∧ w'.cell? ⟨g, m * 7 + 4, none⟩ = some (.slice x'.vi.A x'.vi.n x'.vi.c) ∧ w'.cell? ⟨g, m * 7 + 5, none⟩ = some (.slice x'.vf.A x'.vf.n x'.vf.c) ∧ w'.cell? ⟨g, m * 7 + 6, none⟩ = some (.slice x'.vm.A x'.vm.n x'.vm.c) ∧ w'.cell? ⟨g, h * 7, none⟩ = some (.slice y'.vp.A y'.vp.n y'.vp.c) ∧ w'.cell? ⟨g, h * 7 + 1, none⟩ = some (.string y'.k.nm) ∧ w'.cell? ⟨g, h * 7 + 2, none⟩ = some (.string y'.k.sup) ∧ w'.cell? ⟨g, h * 7 + 3, none⟩ = some (.bool y'.k.inf) ∧ w'.cell? ⟨g, h * 7 + 4, none⟩ = some (.slice y'.vi.A y'.vi.n y'.vi.c) ∧ w'.cell? ⟨g, h * 7 + 5, none⟩ = some (.slice y'.vf.A y'.vf.n y'.vf.c) ∧ w'.cell? ⟨g, h * 7 + 6, none⟩ = some (.slice y'.vm.A y'.vm.n y'.vm.c)) (first | go_keep | with_reducible assumption | assumption) (first
          | (go_at_call 65; (with_reducible refine (HC.out _).mono ?_); rintro e w5 ⟨rfl, x5⟩; have e5 := e1.grown x5 (fun g h => by cases h); have f1 := HF.out w5 e5; unfold AtK at f1))
        have HX5 := Lib.hid (HX.out.trans e5)
        clear f1 f0 x5 e5 e1
        go_wp2_with fail
        go_roundw
        case rel => exact ⟨h + 1, q, by go_num, rfl, by omega, by omega, hqb, Lib.hid ⟨HD.out, HI.out.2⟩, HX5⟩
        case measure => first | (simp [intOf]; omega) | simp [intOf]
      · have hnb : decide (rv < 0) = true := decide_eq_true hneg
        go_wp2_with fail
        go_region_held3 (fun w' => w'.cell? ⟨g, m * 7, none⟩ = some (.slice x'.vp.A x'.vp.n x'.vp.c) ∧ w'.cell? ⟨g, m * 7 + 1, none⟩ = some (.string x'.k.nm) ∧ w'.cell? ⟨g, m * 7 + 2, none⟩ = some (.string x'.k.sup) ∧ w'.cell? ⟨g, m * 7 + 3, none⟩ = some (.bool x'.k.inf) ∧ w'.cell? ⟨g, m * 7 + 4, none⟩ = some (.slice x'.vi.A x'.vi.n x'.vi.c) ∧ w'.cell? ⟨g, m * 7 + 5, none⟩ = some (.slice x'.vf.A x'.vf.n x'.vf.c) ∧ w'.cell? ⟨g, m * 7 + 6, none⟩ = some (.slice x'.vm.A x'.vm.n x'.vm.c) ∧ w'.cell? ⟨g, h * 7, none⟩ = some (.slice y'.vp.A y'.vp.n y'.vp.c) ∧ w'.cell? ⟨g, h * 7 + 1, none⟩ = some (.string y'.k.nm) ∧ w'.cell? ⟨g, h * 7 + 2, none⟩ = some (.string y'.k.sup) ∧ w'.cell? ⟨g, h * 7 + 3, none⟩ = some (.bool y'.k.inf) ∧ w'.cell? ⟨g, h * 7 + 4, none⟩ = some (.slice y'.vi.A y'.vi.n y'.vi.c) ∧ w'.cell? ⟨g, h * 7 + 5, none⟩ = some (.slice y'.vf.A y'.vf.n y'.vf.c) ∧ w'.cell? ⟨g, h * 7 + 6, none⟩ = some (.slice y'.vm.A y'.vm.n y'.vm.c)) (first | go_keep | with_reducible assumption | assumption) (first
          | (go_at_call 65; (with_reducible refine (HC.out _).mono ?_); rintro e w5 ⟨rfl, x5⟩; have e5 := e1.grown x5 (fun g h => by cases h); have f1 := HF.out w5 e5; unfold AtK at f1))
        have HX5 := Lib.hid (HX.out.trans e5)
        clear f1 f0 x5 e5 e1
        go_wp2_with fail
        go_roundw
        case rel => exact ⟨p, h, rfl, by go_num, by omega, by omega, by omega, Lib.hid ⟨HI.out.1, HD.out⟩, HX5⟩
        case measure => first | (simp [intOf]; omega) | simp [intOf]
    · have hltz : ¬ (p : Int) < (q : Int) := by omega
      obtain rfl : p = q := by omega
      have e1 : L.take (p - a) ++ L.drop (p - a) = L := List.take_append_drop _ _
      have l1 : (L.take (p - a)).length = p - a := by have := HL.out; simp; omega
      have h1 := HI.out
      have HJ0 : Hid (∃ R1 R2 : List (KlV × Nat), L = R1 ++ R2 ∧ R1.length = p - a ∧ (∀ y ∈ R1, tK y x) ∧ (∀ y ∈ R2, tK x y)) := Lib.hid ⟨_, _, e1.symm, l1, h1.1, h1.2⟩
      clear e1 l1 h1 HI
      obtain ⟨R1, R2, r1, r2, r3, r4⟩ := HJ0.out
      subst r1
      have hr2 : R2.length = m - p := by have := HL.out; simp at this; omega
      have HR2 := Lib.hid (And.intro r2 hr2)
      have HR3 := Lib.hid r3
      have HR4 := Lib.hid r4
      have HOX : Hid (OwnT W0 B wr (some ⟨g, 0, none⟩) len c (P ++ (R1 ++ (R2.take (m - p) ++ (x :: (R2.drop (m - p) ++ S)))))) := Lib.hid (by rw [← hr2, List.take_length, List.drop_length]; simpa using HOW.out.ext HX.out)
      have HGX := Lib.hid (grown_extG (World.grownBy.refl w (some g)) HX.out)
      clear HJ0 r2 r3 r4 HX HOW hr2
      go_wp2_with fail
      go_loopw [17] (fun k ws => ∃ t : Nat, k = .int .i64 (p + t : Nat) ∧ t ≤ m - p ∧ Hid (OwnT W0 B ws (some ⟨g, 0, none⟩) len c (P ++ (R1 ++ (R2.take t ++ (x :: (R2.drop t ++ S)))))) ∧ Hid (w.grownBy ws (some g))) (fun k _ => (intOf k).toNat)
      case atStart => exact ⟨m - p, by go_num, by omega, HOX, HGX⟩
      case round =>
        obtain ⟨t, rfl, htp, HO, HG⟩ := hrel
        rename World => ws
        clear HOX HGX
        by_cases hlt2 : 0 < t
        · obtain ⟨t, rfl⟩ : ∃ t', t = t' + 1 := ⟨t - 1, by omega⟩
          have hltz2 : (p : Int) < ((p + (t + 1) : Nat) : Int) := by omega
          obtain ⟨z, hz⟩ : ∃ z, R2[t]? = some z := ⟨R2[t]'(by have := HR2.out; omega), List.getElem?_eq_getElem _⟩
          obtain ⟨ht1, ht2⟩ := List.getElem?_eq_some_iff.1 hz
          have hd : R2.drop t = z :: R2.drop (t + 1) := by rw [← ht2]; exact List.drop_eq_getElem_cons ht1
          have htk : R2.take (t + 1) = R2.take t ++ [z] := by rw [← ht2]; exact List.take_succ_eq_append_getElem ht1
          have hln : (P ++ (R1 ++ R2.take t)).length = p + t := by have := HL.out; have := HR2.out; simp; omega
          have O1 : OwnT W0 B ws (some ⟨g, 0, none⟩) len c ((P ++ (R1 ++ R2.take t)) ++ z :: x :: (R2.drop (t + 1) ++ S)) := by
            have := HO.out; rw [htk] at this; simpa using this
          obtain ⟨c1, n1, -⟩ := O1.at (p + t) z (by rw [← hln]; simp)
          obtain ⟨c2, n2, -⟩ := O1.at (p + t + 1) x (by rw [← hln, List.getElem?_append_right (by omega)]; simp)
          obtain ⟨g2, hg2, hlen, -, hfr⟩ := O1.head (by simp; omega)
          injection hg2 with hg2
          injection hg2 with hg2
          subst hg2
          have hat : p + t + 1 < len := by rw [hlen]; simp at hln ⊢; omega
          have O2 := O1.swap n1 n2
          rw [hln] at O2
          obtain ⟨p', hp'⟩ : ∃ p', p + t = p' := ⟨_, rfl⟩
          have hp2 : p + (t + 1) = p' + 1 := by omega
          rw [hp'] at O2 c1 c2 hat
          rw [hp2] at hltz2 ⊢
          have G3 := Lib.hid (grown_drewG (st7_only (st7_only (show w.grownBy ws (some g) from HG.out) ((p' + 1) * 7) z.1) (p' * 7) x.1))
          have O3 : Hid (OwnT W0 B (st7 (st7 ws g ((p' + 1) * 7) z.1) g (p' * 7) x.1).drew (some ⟨g, 0, none⟩) len c (P ++ (R1 ++ (R2.take t ++ (x :: (R2.drop t ++ S)))))) := Lib.hid (by rw [hd]; simpa using O2)
          obtain ⟨x', hx'⟩ : ∃ x', x.1 = x' := ⟨_, rfl⟩
          obtain ⟨y', hy'⟩ : ∃ y', z.1 = y' := ⟨_, rfl⟩
          rw [hx', hy'] at O3 G3
          rw [hx'] at c2
          rw [hy'] at c1
          obtain ⟨x0, x1, x2, x3, x4, x5, x6⟩ := c1
          obtain ⟨y0, y1, y2, y3, y4, y5, y6⟩ := c2
          obtain ⟨W, hW⟩ : ∃ W, (st7 (st7 ws g ((p' + 1) * 7) y') g (p' * 7) x').drew = W := ⟨_, rfl⟩
          rw [hW] at O3 G3
          unfold st7 at hW
          have hpl : (p' : Int) + 1 < (len : Int) := by omega
          have hpl0 : (p' : Int) < (len : Int) := by omega
          have p0 : (0 : Int) ≤ (p' : Int) + 1 := by omega
          have p1 : ((p' : Int) + 1).toNat = p' + 1 := by omega
          have hwp : IntKind.i64.wrap (p' : Int) = (p' : Int) := by rw [IntKind.wrap_i64]; omega
          push_cast at hltz2
          clear O1 O2 n1 n2 hd htk hln hlen ht1 ht2 hz hx' hy' hp2
          go_wp2_with fail
          go_region
          try rw [hW]
          clear hW x0 x1 x2 x3 x4 x5 x6 y0 y1 y2 y3 y4 y5 y6 hfr
          go_wp2_with fail
          go_roundw
          case rel => exact ⟨t, by go_num, by omega, O3, G3⟩
          case measure => first | (simp [intOf]; omega) | simp [intOf]
        · obtain rfl : t = 0 := by omega
          have hltz2 : ¬ (p : Int) < ((p + 0 : Nat) : Int) := by omega
          go_wp2
          go_end0
          have h2 := HO.out
          refine ⟨rfl, ⟨R1 ++ x :: R2, ins_done HR.out HR3.out HR4.out, ?_, ?_⟩, HG.out⟩
          · exact List.perm_middle.trans (by simpa using (List.perm_append_comm (l₁ := [x]) (l₂ := R1 ++ R2)))
          · simpa using h2
end Go.Proofs.YtkkfkjjmmdpafaaDoor
namespace Go.Proofs.YtkkfkjjmmdpafaaDoor
open Go.RowKit Go.Maps
set_option linter.unusedVariables false

theorem infoB : (Tryd.prog.info? 4).map (fun i => (i.zero, i.size, i.bytes)) = some (some (.bool false), ShB.n, 1) := by kernel_rfl
def SetEv (s m g n c : Nat) (ns : List Nd) (w : World) : Prop := ∀ W, Ext w W → SetG s m g n c W ns ∧ ∀ (i : Nat) (x : Nd), ns[i]? = some x → NdR W x
theorem SetEv.ext {s m g n c : Nat} {ns : List Nd} {w w' : World} (h : SetEv s m g n c ns w) (e : Ext w w') : SetEv s m g n c ns w' := fun W e2 => h W (e.trans e2)
set_option maxRecDepth 100000 in
set_option maxHeartbeats 4000000 in
theorem cycle_any {s m g n c : Nat} {ns : List Nd} {w : World} {ups : Nat → List Nat} (hE : SetEv s m g n c ns w) (hU : UpsOk ns ups) (hub : ∀ i j, j ∈ ups i → j < n) (h72 : n ≤ 72) (hil : ∀ x ∈ ns, x.is.length ≤ 1000000) (i : Nat) (hi : i < n) (x : Nd) (hx : ns[i]? = some x) :
    Calls Tryd.prog 71 #[.pointer (some ⟨s, 0, none⟩), .int .i64 i] w fun e w' => e = .returned (fv (if ringF ups n i then some (x.k.nm, 91) else none)) ∧ Ext w w' := by
  have hln : ns.length = n := ((hE w (Ext.refl w)).1).len.symm
  have HE := Lib.hid hE
  have HU := Lib.hid hU
  have HUB := Lib.hid hub
  have HIL := Lib.hid hil
  have HLN := Lib.hid hln
  have HX := Lib.hid hx
  have c0 : (w.alloc (.cells #[.pointer (some ⟨s, 0, none⟩)] 24)).cell? ⟨s, 0, none⟩ = some (.slice (some ⟨g, 0, none⟩) n c) := (hE _ ((Ext.refl w).alloc _)).1.c0
  obtain ⟨R, hR⟩ : ∃ R, (if ringF ups n i then some (x.k.nm, 91) else none : Flt) = R := ⟨_, rfl⟩
  have HRR := Lib.hid hR
  rw [hR]
  clear hE hU hub hil hln hx hR
  go_enter Tryd.func71, Tryd.ntmps71
  go_wp2_with (at_make; refine ShB.wpList_make _ rfl _ _ (w.heap.size + 1) 95 _ 1 rfl Tryd.underlying95 infoB rfl (fun _ => trivial) _ _ _ _ n rfl rfl rfl rfl (by omega) (by decide) (by simp) ?_; intro w1 ho1 hg1)
  have hs1 : (w.alloc (.cells #[.pointer (some ⟨s, 0, none⟩)] 24)).heap.size = w.heap.size + 1 := by simp
  rw [hs1] at ho1
  have hw1 : w.heap.size + 1 < w1.heap.size := by have := Shp.Own.high ho1 _ rfl; exact this
  have HO1 := Lib.hid ho1
  have HG1 := Lib.hid hg1
  have HX1 := Lib.hid (((Ext.refl w).alloc (.cells #[.pointer (some ⟨s, 0, none⟩)] 24)).grown hg1 (fun g h => by cases h))
  clear ho1 hg1 c0
  go_wp2_with fail
  obtain ⟨fv0, hfv⟩ : ∃ fv0, (Value.func (.func 87) #[] #[.pointer (some ⟨w.heap.size, 0, none⟩), .pointer (some ⟨w1.heap.size, 0, none⟩), .pointer (some ⟨w1.heap.size + 1, 0, none⟩)]) = fv0 := ⟨_, rfl⟩
  obtain ⟨W, hW⟩ : ∃ W, ((w1.alloc (.cells #[.slice (some ⟨w.heap.size + 1, 0, none⟩) n n] 95)).alloc (.cells #[fv0] 94)) = W := ⟨_, rfl⟩
  rw [hfv]
  rw [hW]
  have hb_s : W.heap[w.heap.size]? = some (.cells #[.pointer (some ⟨s, 0, none⟩)] 24 (0, 0)) := by
    rw [← hW, heap_alloc_old _ _ (by simp; omega), heap_alloc_old _ _ (by omega), HG1.out.block _ (by simp) (by simp)]
    exact heap_alloc_new w _
  have hb_n : W.heap[w1.heap.size]? = some (.cells #[.slice (some ⟨w.heap.size + 1, 0, none⟩) n n] 95 (0, 0)) := by
    rw [← hW, heap_alloc_old _ _ (by simp)]
    exact heap_alloc_new w1 _
  have hb_v : W.heap[w1.heap.size + 1]? = some (.cells #[fv0] 94 (0, 0)) := by
    rw [← hW]
    have := heap_alloc_new (w1.alloc (.cells #[.slice (some ⟨w.heap.size + 1, 0, none⟩) n n] 95)) (.cells #[fv0] 94)
    rw [show (w1.alloc (.cells #[.slice (some ⟨w.heap.size + 1, 0, none⟩) n n] 95)).heap.size = w1.heap.size + 1 by simp] at this
    exact this
  have hsz : W.heap.size = w1.heap.size + 2 := by rw [← hW]; simp
  have hX : Ext w W := by rw [← hW]; exact (HX1.out.alloc _).alloc _
  have HOW := Lib.hid (show ShB.Own (w.heap.size + 1) W (.slice (some ⟨w.heap.size + 1, 0, none⟩) n n) (List.replicate n false) from by rw [← hW]; exact HO1.out.ext (((Ext.refl w1).alloc _).alloc _))
  have HEV : Hid (∀ W', W.grownBy W' (some (w.heap.size + 1)) → CyEnv s m g n c w.heap.size w1.heap.size (w1.heap.size + 1) (w.heap.size + 1) ns W') := Lib.hid fun W' hg => by
    have e1 : Ext w W' := hX.grown hg (fun q h => by injection h with h; omega)
    have hv := HE.out W' e1
    refine ⟨hv.1, fun i x hx => (hv.2 i x hx).vs, ?_, ?_, ?_⟩
    · exact (hg.cell (by rw [cell_of_row W _ 0 _ _ (0, 0) hb_s]; rfl) (by intro h; injection h with h; simp at h))
    · exact (hg.cell (by rw [cell_of_row W _ 0 _ _ (0, 0) hb_n]; rfl) (by intro h; injection h with h; simp only at h; omega))
    · rw [hfv]
      exact (hg.cell (by rw [cell_of_row W _ 0 _ _ (0, 0) hb_v]; rfl) (by intro h; injection h with h; simp only at h; omega))
  have HC := Lib.hid (visit_any ups n s m g n c w.heap.size w1.heap.size (w1.heap.size + 1) (w.heap.size + 1) (w.heap.size + 1) ns W W (List.replicate n false) i HEV.out HU.out HLN.out h72 HIL.out (Nat.le_refl _) (by omega) (World.grownBy.refl _ _) (Nat.le_trans List.count_le_length (by simp)) hi (by simp) HOW.out)
  have HXW := Lib.hid hX
  have HFV := Lib.hid hfv
  have hw2 : w.heap.size + 1 < W.heap.size := by omega
  have HRG := Lib.hid (fun m2 (h : Vis ups (List.replicate n false) m2 (ups i)) => (h.ring).trans (ring_iff (n := n) HUB.out i).symm)
  clear hW hb_s hb_n hb_v hsz hX HOW HO1 HG1 HX1 hw1 hs1 hfv
  refine HC.out.mono ?_
  rintro e0 w5 ⟨rfl, q1, m2, q2, q3⟩
  have env := HEV.out w5 q1
  have hlm : m2.length = n := q2.len.trans (by simp)
  have y1 := boolAt q3 i (by omega)
  have hbit : gbl m2 i = ringF ups n i := by
    have := HRG.out m2 q2
    cases e1 : gbl m2 i <;> cases e2 : ringF ups n i
    · rfl
    · rw [e1, e2] at this; exact absurd (this.2 rfl) (by simp)
    · rw [e1, e2] at this; exact absurd (this.1 rfl) (by simp)
    · rfl
  rw [hbit] at y1
  have HX5 := Lib.hid (HXW.out.grown q1 (fun q h => by injection h with h; omega))
  have e5 := (Ext.refl w5).drew
  have ev5 := (HE.out.ext HX5.out) _ e5
  have HNN := Lib.hid (node_in ev5.1 i hi h72)
  obtain ⟨_, z1, _⟩ := ev5.1.node i x HX.out
  obtain ⟨rb, hrb⟩ : ∃ rb, ringF ups n i = rb := ⟨_, rfl⟩
  have HRR2 : Hid ((if rb then some (x.k.nm, 91) else none : Flt) = R) := Lib.hid (by rw [← hrb]; exact HRR.out)
  rw [hrb] at y1
  have HFF := Lib.hid (fails_at (w := w5.drew) (g := g) (i * 11) x.k.nm rb 91 z1)
  have f1 := env.cs
  have f2 := env.cn
  have iz : (i : Int) < (n : Int) := by omega
  clear q1 q2 q3 env hlm hbit HC HEV hrb ev5 HRG HRR
  cases rb
  case false =>
    simp only [Bool.false_eq_true, if_false] at HFF HRR2
    go_wp2_with fail
    go_region_held3 (fun w' => w'.cell? ⟨w.heap.size, 0, none⟩ = some (.pointer (some ⟨s, 0, none⟩)) ∧ w'.cell? ⟨w1.heap.size, 0, none⟩ = some (.slice (some ⟨w.heap.size + 1, 0, none⟩) n n) ∧ w'.cell? ⟨w.heap.size + 1, i, none⟩ = some (.bool false)) (first | go_keep | assumption) (first
      | (go_at_call 52; (with_reducible refine HNN.out.mono ?_); rintro e6 w6 ⟨rfl, rfl⟩)
      | (go_at_call 86; (with_reducible refine HFF.out.mono ?_); rintro e6 w6 ⟨rfl, rfl⟩))
    go_wp2
    go_ret2
    exact ⟨by rw [← HRR2.out]; rfl, HX5.out.drew⟩
  case true =>
    simp only [if_true] at HFF HRR2
    go_wp2_with fail
    go_region_held3 (fun w' => w'.cell? ⟨w.heap.size, 0, none⟩ = some (.pointer (some ⟨s, 0, none⟩)) ∧ w'.cell? ⟨w1.heap.size, 0, none⟩ = some (.slice (some ⟨w.heap.size + 1, 0, none⟩) n n) ∧ w'.cell? ⟨w.heap.size + 1, i, none⟩ = some (.bool true)) (first | go_keep | assumption) (first
      | (go_at_call 52; (with_reducible refine HNN.out.mono ?_); rintro e6 w6 ⟨rfl, rfl⟩)
      | (go_at_call 86; (with_reducible refine HFF.out.mono ?_); rintro e6 w6 ⟨rfl, rfl⟩))
    go_wp2
    go_ret2
    exact ⟨by rw [← HRR2.out]; rfl, HX5.out.drew⟩
end Go.Proofs.YtkkfkjjmmdpafaaDoor
namespace Go.Proofs.YtkkfkjjmmdpafaaDoor
open Go.RowKit Go.Maps
set_option linter.unusedVariables false

def fltC (k : Nat) : List Kl → Nat → Flt := match k with | 0 => flt1 | 1 => flt2 | 2 => flt3 | 3 => flt4 | _ => flt5
def fidC (k : Nat) : FuncId := match k with | 0 => 67 | 1 => 68 | 2 => 69 | 3 => 70 | _ => 71
def restN (N : List Kl) : Nat → Flt
  | 0 => none
  | m + 1 => ((ownK N).findSome? (fltC (5 - (m + 1)) N)).or (restN N m)
def restC (N : List Kl) (k : Nat) : Flt := restN N (5 - k)
theorem restC_zero (N : List Kl) : restC N 0 = fltZ N := by
  show ((ownK N).findSome? (flt1 N)).or (((ownK N).findSome? (flt2 N)).or (((ownK N).findSome? (flt3 N)).or (((ownK N).findSome? (flt4 N)).or (((ownK N).findSome? (flt5 N)).or none)))) = _
  rw [Option.or_none]
  rfl
theorem restC_step (N : List Kl) (k : Nat) (h : k < 5) : restC N k = ((ownK N).findSome? (fltC k N)).or (restC N (k + 1)) := by
  unfold restC
  rw [show 5 - k = (5 - (k + 1)) + 1 by omega, restN, show 5 - ((5 - (k + 1)) + 1) = k by omega]
theorem restC_end (N : List Kl) : restC N 5 = none := rfl
def Past (N : List Kl) (k : Nat) : Prop := ∀ j, j < k → ∀ i, 8 ≤ i → i < N.length → fltC j N i = none
theorem flt2_some {N : List Kl} {i : Nat} (h : flt2 N i = none) : 0 ≤ findZ N (gk N i).sup ∧ ∀ x ∈ (gk N i).ifs, 0 ≤ findZ N x := by
  unfold flt2 at h
  split at h
  · cases h
  · rename_i hs
    refine ⟨by omega, fun x hx => ?_⟩
    have h4 := List.find?_eq_none.1 (Option.map_eq_none_iff.1 h) x hx
    have : ¬ findZ N x < 0 := by simpa using h4
    omega
theorem upsN_all : ∀ {l : List Int}, (∀ x ∈ l, 0 ≤ x) → upsN l = l.map Int.toNat := by
  intro l h
  unfold upsN
  rw [List.filter_eq_self.2 (fun x hx => by simpa using h x hx)]
theorem ups_ok {ns : List Nd} {r : List Kl} (hb : kls ns = builtZ ++ r) (ht : Told ns) (h2 : ∀ i, 8 ≤ i → i < (kls ns).length → flt2 (kls ns) i = none) : UpsOk ns (grK (kls ns)).ups := by
  have hl : ∀ {i : Nat} {x : Nd}, ns[i]? = some x → i < (kls ns).length := fun {i x} hx => by
    have := (List.getElem?_eq_some_iff.1 hx).1
    simpa [kls] using this
  have hl8 : 8 ≤ (kls ns).length := by rw [hb]; simp [builtZ]
  have cases8 : ∀ (i : Nat) (x : Nd), ns[i]? = some x → (∀ u ∈ ifsI (kls ns) i, 0 ≤ u) ∧ (supI (kls ns) i = -1 ∨ 0 ≤ supI (kls ns) i) := by
    intro i x hx
    rcases Nat.lt_or_ge i 8 with h8 | h8
    · have h3 := sup_built r i h8
      have h4 := ifs_built r i h8
      rw [← hb] at h3 h4
      refine ⟨(by rw [h4.1]; intro u hu; cases hu), ?_⟩
      rw [h3]
      split
      · exact .inl rfl
      · right; split <;> omega
    · obtain ⟨h3, h4⟩ := flt2_some (h2 i h8 (hl hx))
      refine ⟨fun u hu => ?_, .inr ?_⟩
      · obtain ⟨y, hy, rfl⟩ := List.mem_map.1 hu
        exact h4 y hy
      · rw [supI_own h8]; exact h3
  refine ⟨fun i x hx => ?_, fun i x hx u hu => ?_⟩
  · obtain ⟨t1, t2⟩ := ht i x hx
    obtain ⟨h3, h4⟩ := cases8 i x hx
    show _ = (supN (kls ns) i).toList ++ ifsN (kls ns) i
    unfold supN ifsN
    rw [t1, t2]
    rcases h4 with h4 | h4
    · rw [h4]
      rw [if_pos (by omega)]
      have : upsN (-1 :: ifsI (kls ns) i) = upsN (ifsI (kls ns) i) := by unfold upsN; simp
      rw [this, upsN_all h3]
      rfl
    · rw [if_neg (by omega), upsN_all (fun x hx => by rcases List.mem_cons.1 hx with rfl | hx; exact h4; exact h3 x hx)]
      rfl
  · obtain ⟨t1, t2⟩ := ht i x hx
    obtain ⟨h3, h4⟩ := cases8 i x hx
    have hlen : ns.length = (kls ns).length := by simp [kls]
    rcases List.mem_cons.1 hu with rfl | hu
    · rw [t1]
      rcases h4 with h4 | h4
      · exact .inl h4
      · right
        refine ⟨(supI (kls ns) i).toNat, by omega, ?_⟩
        have := supI_lt hl8 i
        omega
    · rw [t2] at hu
      right
      have h5 := h3 u hu
      obtain ⟨y, hy, rfl⟩ := List.mem_map.1 hu
      have := findZ_lt (kls ns) y
      exact ⟨(findZ (kls ns) y).toNat, by omega, by omega⟩
theorem ups_in {N : List Kl} (hl : 8 ≤ N.length) : ∀ i j, j ∈ (grK N).ups i → j < N.length := by
  intro i j hj
  unfold Gr.ups at hj
  rcases List.mem_append.1 hj with hj | hj
  · have hj : supN N i = some j := by simpa [grK] using hj
    unfold supN at hj
    split at hj
    · cases hj
    · injection hj with hj
      have := supI_lt hl i
      omega
  · have hj : j ∈ ifsN N i := hj
    unfold ifsN ifsI at hj
    rw [List.map_map] at hj
    obtain ⟨y, _, rfl⟩ := List.mem_map.1 hj
    have := findZ_lt N y
    simp only [Function.comp]
    omega
theorem bad4_nodup {N : List Kl} : ∀ {p l : List ByteArray}, bad4 N p l = false → l.Nodup ∧ ∀ x ∈ l, x ∉ p
  | _, [], _ => ⟨List.nodup_nil, fun _ h => by cases h⟩
  | p, y :: l, h => by
    unfold bad4 at h
    simp only [Bool.or_eq_false_iff] at h
    obtain ⟨h1, h2⟩ := bad4_nodup h.2
    refine ⟨List.nodup_cons.2 ⟨fun hy => h2 y hy (by simp), h1⟩, fun x hx hp => ?_⟩
    rcases List.mem_cons.1 hx with rfl | hx
    · have h3 := List.any_eq_false.1 h.1.1 x hp
      simp at h3
    · exact h2 x hx (List.mem_append.2 (.inl hp))
theorem found_len {N : List Kl} {l : List ByteArray} (hn : l.Nodup) (hf : ∀ x ∈ l, 0 ≤ findZ N x) : l.length ≤ N.length := by
  have h1 : (l.map fun x => (findZ N x).toNat).Nodup := by
    refine List.pairwise_map.2 (List.Pairwise.imp_of_mem (fun {a b} ha hb hab e => ?_) hn)
    obtain ⟨j, _, h3, h4⟩ := findZ_nn (N := N) (x := a) (by have := hf a ha; omega)
    obtain ⟨j', _, h5, h6⟩ := findZ_nn (N := N) (x := b) (by have := hf b hb; omega)
    rw [h3, h5] at e
    have : j = j' := by simpa using e
    subst this
    exact hab (h4.symm.trans h6)
  have h2 := nodup_len (n := N.length) h1 (fun u hu => by
    obtain ⟨x, hx, rfl⟩ := List.mem_map.1 hu
    have := findZ_lt N x
    have := hf x hx
    omega)
  rwa [List.length_map] at h2
theorem is_short {ns : List Nd} {r : List Kl} (ht : Told ns) (hb : kls ns = builtZ ++ r) (h72 : (kls ns).length ≤ 72) (h2 : ∀ i, 8 ≤ i → i < (kls ns).length → flt2 (kls ns) i = none) (h4 : ∀ i, 8 ≤ i → i < (kls ns).length → flt4 (kls ns) i = none) : ∀ x ∈ ns, x.is.length ≤ 1000000 := by
  intro x hx
  obtain ⟨i, hi⟩ := List.mem_iff_getElem?.1 hx
  have hlt : i < (kls ns).length := by have := (List.getElem?_eq_some_iff.1 hi).1; simpa [kls] using this
  rw [(ht i x hi).2]
  rcases Nat.lt_or_ge i 8 with h8 | h8
  · rw [hb, (ifs_built r i h8).1]
    simp
  · have h3 := h4 i h8 hlt
    have hbad : bad4 (kls ns) [] (gk (kls ns) i).ifs = false := by
      unfold flt4 at h3
      cases e : bad4 (kls ns) [] (gk (kls ns) i).ifs
      · rfl
      · rw [e] at h3; simp at h3
    have := found_len (bad4_nodup hbad).1 (flt2_some (h2 i h8 hlt)).2
    unfold ifsI
    rw [List.length_map]
    omega
section
variable {s m g n c : Nat} {w : World} {ns : List Nd} {r : List Kl}
theorem check_any (hE : SetEv s m g n c ns w) (hz : SzOk ns) (ht : Told ns) (hb : kls ns = builtZ ++ r) (h72 : n ≤ 72) (k : Nat) (hk : k < 5) (hp : Past (kls ns) k) (i : Nat) (h8 : 8 ≤ i) (x : Nd) (hx : ns[i]? = some x) :
    Calls Tryd.prog (fidC k) #[.pointer (some ⟨s, 0, none⟩), .int .i64 i] w fun e w' => e = .returned (fv (fltC k (kls ns) i)) ∧ Ext w w' := by
  obtain ⟨hs, hr⟩ := hE w (Ext.refl w)
  have hil2 : i < (kls ns).length := by have := (List.getElem?_eq_some_iff.1 hx).1; simpa [kls] using this
  have hn : n = (kls ns).length := by rw [hs.len]; simp [kls]
  rcases k with _ | _ | _ | _ | _ | k
  · exact (twice_any hs hz i x hx h72).mono fun e w' h => ⟨h.1, by rw [h.2]; exact Ext.refl w⟩
  · exact (unknown_any hs ht i h8 x hx (hr i x hx) h72).mono fun e w' h => ⟨h.1, by rw [h.2]; exact Ext.refl w⟩
  · exact (superUnfit_any hs ht r hb i h8 x hx (hp 1 (by omega) i h8 hil2) h72).mono fun e w' h => ⟨h.1, by rw [h.2]; exact Ext.refl w⟩
  · have h2 := flt2_some (hp 1 (by omega) i h8 hil2)
    rw [gk_of hx] at h2
    exact (ifacesUnfit_any hs ht i x hx (hr i x hx) h2.2 h72).mono fun e w' h => ⟨h.1, by rw [h.2]; exact Ext.refl w⟩
  · have h5 : fltC 4 (kls ns) i = if ringF (grK (kls ns)).ups n i then some (x.k.nm, 91) else none := by
      show flt5 (kls ns) i = _
      unfold flt5
      rw [gk_of hx, hn]
    rw [h5]
    exact cycle_any hE (ups_ok hb ht (hp 1 (by omega))) (by rw [hn]; exact ups_in (by rw [hb]; simp [builtZ])) h72 (is_short ht hb (by omega) (hp 1 (by omega)) (hp 3 (by omega))) i (by omega) x hx
  · omega
end
theorem callC (k : Nat) (hk : k < 5) : ∀ args W, (callFunc (fidC k) args).run Tryd.prog W = .ok (.enter (fidC k) args) W := by
  rcases k with _ | _ | _ | _ | _ | k
  · exact fun args W => Tryd.call67 args W
  · exact fun args W => Tryd.call68 args W
  · exact fun args W => Tryd.call69 args W
  · exact fun args W => Tryd.call70 args W
  · exact fun args W => Tryd.call71 args W
  · omega
theorem findSome_from {f : Nat → Flt} {i n : Nat} (h : i < n) : (List.range' i (n - i)).findSome? f = (f i).or ((List.range' (i + 1) (n - (i + 1))).findSome? f) := by
  rw [show n - i = (n - (i + 1)) + 1 by omega, List.range'_succ, List.findSome?_cons]
  cases f i <;> rfl
theorem flt_err {N : List Kl} {k i : Nat} {nm : ByteArray} {er : Int} (h : fltC k N i = some (nm, er)) : er = 90 ∨ er = 91 ∨ er = 92 := by
  rcases k with _ | _ | _ | _ | k
  · have h : flt1 N i = _ := h
    unfold flt1 at h
    split at h
    · cases h
    · injection h with h; injection h with h1 h2; omega
  · have h : flt2 N i = _ := h
    unfold flt2 at h
    split at h
    · injection h with h; injection h with h1 h2; omega
    · obtain ⟨y, hy1, hy2⟩ := Option.map_eq_some_iff.1 h
      injection hy2 with h1 h2; omega
  · have h : flt3 N i = _ := h
    unfold flt3 at h
    split at h
    · injection h with h; injection h with h1 h2; omega
    · cases h
  · have h : flt4 N i = _ := h
    unfold flt4 at h
    split at h
    · injection h with h; injection h with h1 h2; omega
    · cases h
  · have h : flt5 N i = _ := h
    unfold flt5 at h
    split at h
    · injection h with h; injection h with h1 h2; omega
    · cases h
set_option maxRecDepth 100000 in
set_option maxHeartbeats 4000000 in
theorem fault_any {s m g n c : Nat} {w : World} {ns : List Nd} {r : List Kl} (hE : SetEv s m g n c ns w) (hz : SzOk ns) (ht : Told ns) (hb : kls ns = builtZ ++ r) (h72 : n ≤ 72) :
    Calls Tryd.prog 41 #[.pointer (some ⟨s, 0, none⟩)] w fun e w' => e = .returned (fv (fltZ (kls ns))) ∧ Ext w w' := by
  have hn : n = (kls ns).length := by rw [(hE w (Ext.refl w)).1.len]; simp [kls]
  have HN := Lib.hid hn
  have HLN := Lib.hid ((hE w (Ext.refl w)).1.len)
  have HE := Lib.hid hE
  have HC := Lib.hid (fun W (e : Ext w W) => check_any (hE.ext e) hz ht hb h72)
  obtain ⟨R, hR⟩ : ∃ R, fltZ (kls ns) = R := ⟨_, rfl⟩
  have HR0 : Hid (R = restC (kls ns) 0) := Lib.hid (by rw [restC_zero]; exact hR.symm)
  rw [hR]
  obtain ⟨b0, hb0⟩ : ∃ b0, w.heap.size = b0 := ⟨_, rfl⟩
  have h8n : 8 ≤ n := by rw [hn, hb]; simp [builtZ]
  obtain ⟨W1, hW1⟩ : ∃ W1, w.alloc (.cells #[.func (.func 67) #[.pointer (some ⟨s, 0, none⟩)] #[], .func (.func 68) #[.pointer (some ⟨s, 0, none⟩)] #[], .func (.func 69) #[.pointer (some ⟨s, 0, none⟩)] #[], .func (.func 70) #[.pointer (some ⟨s, 0, none⟩)] #[], .func (.func 71) #[.pointer (some ⟨s, 0, none⟩)] #[]] 92) = W1 := ⟨_, rfl⟩
  have HX1 : Hid (Ext w W1) := Lib.hid (by rw [← hW1]; exact (Ext.refl w).alloc _)
  have HCE : Hid (∀ W, Ext W1 W → ∀ k, k < 5 → W.cell? ⟨b0, k, none⟩ = some (.func (.func (fidC k)) #[.pointer (some ⟨s, 0, none⟩)] #[])) := Lib.hid fun W e k hk => by
    rw [e.cell (p := ⟨b0, k, none⟩) (by rw [← hW1, ← hb0]; simp), ← hW1, ← hb0, cell_of_row _ _ k _ _ (0, 0) (heap_alloc_new w _)]
    rcases k with _ | _ | _ | _ | _ | k
    · rfl
    · rfl
    · rfl
    · rfl
    · rfl
    · omega
  have HP0 : Hid (Past (kls ns) 0) := Lib.hid fun j hj => by omega
  have HX0 : Hid (Ext W1 W1) := Lib.hid (Ext.refl _)
  clear hE hz ht hb hn hR
  go_enter Tryd.func41, Tryd.ntmps41
  go_wp2_with fail
  clear hW1 hb0
  go_loopw [23] (fun kv wr => ∃ k : Nat, kv = .int .i64 k ∧ k ≤ 5 ∧ Hid (Past (kls ns) k) ∧ Hid (R = restC (kls ns) k) ∧ Hid (Ext W1 wr)) (fun kv _ => 5 - (intOf kv).toNat)
  case atStart => exact ⟨0, rfl, by omega, HP0, HR0, HX0⟩
  case round =>
    obtain ⟨k, rfl, hk, HP, HRk, HX⟩ := hrel
    rename World => wr
    clear HP0 HR0 HX0
    by_cases hlt : k < 5
    · have hltz : (k : Int) < 5 := by omega
      have y0 := HCE.out wr HX.out k hlt
      have hc := callC k hlt
      have HCk := Lib.hid (fun W e => HC.out W e k hlt HP.out)
      obtain ⟨fd, hfd⟩ : ∃ fd, fidC k = fd := ⟨_, rfl⟩
      rw [hfd] at y0 hc HCk
      have HSP := Lib.hid (restC_step (kls ns) k hlt)
      have HI0 : Hid ((ownK (kls ns)).findSome? (fltC k (kls ns)) = (List.range' 8 (n - 8)).findSome? (fltC k (kls ns))) := Lib.hid (by unfold ownK; rw [HN.out])
      have HQ0 : Hid (∀ i', 8 ≤ i' → i' < 8 → fltC k (kls ns) i' = none) := Lib.hid fun i' h1 h2 => by omega
      clear hfd
      go_wp2_with fail
      go_loopw [7] (fun iv ws => ∃ i : Nat, iv = .int .i64 i ∧ 8 ≤ i ∧ i ≤ n ∧ Hid ((ownK (kls ns)).findSome? (fltC k (kls ns)) = (List.range' i (n - i)).findSome? (fltC k (kls ns))) ∧ Hid (∀ i', 8 ≤ i' → i' < i → fltC k (kls ns) i' = none) ∧ Hid (Ext W1 ws)) (fun iv _ => n - (intOf iv).toNat)
      case atStart => exact ⟨8, rfl, by omega, h8n, HI0, HQ0, HX⟩
      case round =>
        obtain ⟨i, rfl, h8, hin, HI, HQ, HXs⟩ := hrel
        rename World => ws
        clear HI0 HQ0 HX y0
        have c0 := (HE.out ws (HX1.out.trans HXs.out)).1.c0
        by_cases hlt2 : i < n
        · have hltz2 : (i : Int) < (n : Int) := by omega
          obtain ⟨x, hx⟩ : ∃ x, ns[i]? = some x := ⟨ns[i]'(by have := HLN.out; omega), List.getElem?_eq_getElem _⟩
          have HCC := Lib.hid (HCk.out ws (HX1.out.trans HXs.out) i h8 x hx)
          have HS2 := Lib.hid (HI.out.trans (findSome_from hlt2))
          cases hf : fltC k (kls ns) i with
          | none =>
            rw [hf] at HCC
            have HS3 : Hid ((ownK (kls ns)).findSome? (fltC k (kls ns)) = (List.range' (i + 1) (n - (i + 1))).findSome? (fltC k (kls ns))) := Lib.hid (by rw [HS2.out, hf]; rfl)
            have HQ3 : Hid (∀ i', 8 ≤ i' → i' < i + 1 → fltC k (kls ns) i' = none) := Lib.hid fun i' h1 h2 => by
              rcases Nat.lt_or_ge i' i with h3 | h3
              · exact HQ.out i' h1 h3
              · rw [show i' = i by omega]; exact hf
            unfold fv at HCC
            clear hf HS2 HI HQ hx
            go_wp2_with fail
            refine HCC.out.mono ?_
            rintro e0 w5 ⟨rfl, x5⟩
            have HX5 := Lib.hid (HXs.out.trans x5)
            clear x5 HCC c0 HXs
            go_wp2_with fail
            go_roundw
            case rel => exact ⟨i + 1, by go_num, by omega, by omega, HS3, HQ3, HX5⟩
            case measure => first | (simp [intOf]; omega) | simp [intOf]
          | some f =>
            obtain ⟨nm, er⟩ := f
            have her := flt_err hf
            rw [hf] at HCC
            have HS3 : Hid (R = some (nm, er)) := Lib.hid (by rw [HRk.out, HSP.out, HS2.out, hf]; rfl)
            have heb : (er != 0) = true := by rw [bne_iff_ne]; omega
            unfold fv at HCC
            clear hf HS2 HI HQ hx her HSP
            go_wp2_with fail
            refine HCC.out.mono ?_
            rintro e0 w5 ⟨rfl, x5⟩
            have HX5 := Lib.hid ((HX1.out.trans HXs.out).trans x5)
            clear x5 HCC c0 HXs
            go_wp2
            go_ret2
            exact ⟨by rw [HS3.out]; rfl, HX5.out⟩
        · have hltz2 : ¬ (i : Int) < (n : Int) := by omega
          have HS3 : Hid (R = restC (kls ns) (k + 1)) := Lib.hid (by
            rw [HRk.out, HSP.out, HI.out, show n - i = 0 by omega]
            rfl)
          have HP3 : Hid (Past (kls ns) (k + 1)) := Lib.hid fun j hj i' h1 h2 => by
            rcases Nat.lt_or_ge j k with h3 | h3
            · exact HP.out j h3 i' h1 h2
            · rw [show j = k by omega]; exact HQ.out i' h1 (by have := HN.out; omega)
          clear HI HQ HSP
          go_wp2_with fail
          go_roundw
          case rel => exact ⟨k + 1, by go_num, by omega, HP3, HS3, HXs⟩
          case measure => first | (simp [intOf]; omega) | simp [intOf]
    · have hltz : ¬ (k : Int) < 5 := by omega
      have HS3 : Hid (R = none) := Lib.hid (by rw [HRk.out, show k = 5 by omega]; rfl)
      go_wp2
      go_ret2
      exact ⟨by rw [HS3.out]; rfl, HX1.out.trans HX.out⟩
end Go.Proofs.YtkkfkjjmmdpafaaDoor
namespace Go.Proofs.YtkkfkjjmmdpafaaDoor
open Go.RowKit
set_option linter.unusedVariables false

theorem run_appK {P : Program} (w : World) (B : Nat) (t ty e : TypeId) (z : Value) (bytes : Nat) (k : IntKind) (ht : P.underlying t = some (.slice e))
    (hi : (P.info? e).map (fun i => (i.zero, i.size, i.bytes)) = some (some z, 1, bytes)) (hz : z.cells.size = 1)
    (v : Value) (l : List Int) (ho : Own B w e k v l) (x : Value) (m : List Int) (hr : Row w k x m)
    (hb : (l.length + m.length) * bytes ≤ 140737488355328) (hb1 : 1 ≤ bytes) (hB : B ≤ w.heap.size) :
    ∃ v' w', (Builtin.append_ #[t, t] ty #[v, x]).run P w = .ok v' w' ∧ Own B w' e k v' (l ++ m) ∧ w.grownBy w' v.ownBlock ∧ (v'.ownBlock = v.ownBlock ∨ (v'.ownBlock = some w.heap.size ∧ w.grownBy w' none)) := by
  obtain ⟨v', w', hrun, h2, h3, h4⟩ := run_app (P := P) w B t ty e z bytes k ht hi hz v l ho x m hr hb hb1 hB
  refine ⟨v', w', hrun, h2, h3, ?_⟩
  rcases h4 with h4 | h4
  · exact .inl h4
  right
  refine ⟨h4, ?_⟩
  obtain ⟨i, hi1, hi2, hi3, hi4⟩ := info_parts hi
  rcases ho.1.2 with ⟨rfl, _⟩ | ⟨g, cap, cur, rfl, hbg, hg, hnc, hcm, hcs, htk⟩
  · exact h3
  · have hlen : l.length + m.length ≤ 140737488355328 := Nat.le_trans (Nat.le_mul_of_pos_right _ (by omega)) hb
    obtain ⟨A, c, rfl, g2, g3, g4, g5, g6⟩ := hr
    rcases A with _ | ad
    · have hc := g4 rfl
      have hm : m = [] := List.eq_nil_of_length_eq_zero (by omega)
      subst hm
      have hr2 : (Builtin.append_ #[t, t] ty #[.slice (some ⟨g, 0, none⟩) l.length cap, .slice none ([] : List Int).length c]).run P w = .ok (.slice (some ⟨g, 0, none⟩) l.length cap) w := by
        simp [Builtin.append_, run_underlying ht, sizeOf, typeInfo, hi1, Builtin.lenOf, Builtin.firstCells, hnc, storeCells]
      rw [hr2] at hrun
      injection hrun with e1 e2
      subst e1
      have h5 : g = w.heap.size := by simpa [Value.ownBlock] using h4
      have := lt_of_get hg
      omega
    · have hcells : ∀ j u, (m.map (Value.int k))[j]? = some u → w.cell? (ad.add j) = some u := by
        intro j u hu
        have hj : j < m.length := by
          have := (List.getElem?_eq_some_iff.1 hu).1
          simpa using this
        obtain ⟨b, o, hA, _, hc⟩ := g6 (by omega)
        injection hA with hA
        subst hA
        rw [Addr.add_lit, hc j hj]
        simp [hj] at hu
        simp [gi, hj, ← hu]
      by_cases hroom : l.length + m.length ≤ cap
      · have hr2 := run_append_room (P := P) w t ty e i ht hi1 g l.length cap cur hg ad m.length c (m.map (Value.int k)) (by simp [hi3]) hcells (ints_one k m) hroom (by rw [hi3]; simp; omega)
        rw [hr2] at hrun
        injection hrun with e1 e2
        subst e1
        have h5 : g = w.heap.size := by simpa [Value.ownBlock] using h4
        have := lt_of_get hg
        omega
      · have holds : ∀ j u, (l.map (Value.int k))[j]? = some u → w.cell? ((⟨g, 0, none⟩ : Addr).add j) = some u := fun j u hu => by
          have hj : j < l.length := by
            have := (List.getElem?_eq_some_iff.1 hu).1
            simpa using this
          obtain ⟨g', c', e1, _, _, _, _, hat, _⟩ := ho.parts (by omega)
          injection e1 with e1 _ _
          injection e1 with e1
          injection e1 with e1 _ _
          subst e1
          rw [Addr.add_lit, Nat.zero_add, hat j hj]
          simp [hj] at hu
          simp [gi, hj, ← hu]
        have hr2 := run_append_grow (P := P) w t ty e i z ht hi1 hi2 ⟨g, 0, none⟩ l.length cap (l.map (Value.int k)) (by simp [hi3]) holds ad m.length c (m.map (Value.int k)) (by simp [hi3]) hcells (by omega) (by omega) (growslice_fits (by omega) (by rw [hi4]; exact hb))
        rw [hr2] at hrun
        injection hrun with e1 e2
        subst e2
        exact grown_allocG (grown_drewG (World.grownBy.refl w none)) _
theorem wpList_appK {P : Program} (w : World) {ops : Array Oper} {rest : List Oper} {o : Oper} {a : Act} {Q : Exit → Act → World → Prop} (hgd : Region.wanted o (yielded ops a.tmps) = true) (s y : Operand) (B : Nat) (t e : TypeId) (z : Value) (bytes : Nat) (k : IntKind)
    (hop : o.op = .call { callee := .builtin .append, args := #[s, y], argTypes := #[t, t] }) (ht : P.underlying t = some (.slice e))
    (hi : (P.info? e).map (fun i => (i.zero, i.size, i.bytes)) = some (some z, 1, bytes)) (hz : z.cells.size = 1) (hb1 : 1 ≤ bytes)
    (v : Value) (l : List Int) (hs : a.eval s = v) (ho : Own B w e k v l) (x : Value) (m : List Int) (hx : a.eval y = x) (hr : Row w k x m)
    (hb : (l.length + m.length) * bytes ≤ 140737488355328) (hB : B ≤ w.heap.size)
    (h : ∀ v' w', Own B w' e k v' (l ++ m) → w.grownBy w' v.ownBlock → (v'.ownBlock = v.ownBlock ∨ (v'.ownBlock = some w.heap.size ∧ w.grownBy w' none)) → wpList P ops Q rest (a.put o.dst v') w') :
    wpList P ops Q (o :: rest) a w := by
  refine wpList_step fun K hK => ?_
  rw [if_pos hgd]
  obtain ⟨v', w', hrun, h2, h3, h4⟩ := run_appK (P := P) w B t o.type e z bytes k ht hi hz v l ho x m hr hb hb1 hB
  unfold Oper.wp execOp
  simp only [hop, resolve, invoke, builtin, Sem.run_bind, Sem.run_pure, Result.andThen_ok, List.map_toArray, List.map_cons, List.map_nil, hs, hx, hrun]
  exact hK _ _ (h v' w' h2 h3 h4)
end Go.Proofs.YtkkfkjjmmdpafaaDoor
namespace Go.Proofs.YtkkfkjjmmdpafaaDoor
open Go.RowKit Go.Maps
set_option linter.unusedVariables false

set_option maxRecDepth 100000 in
theorem super_in {s m g n c : Nat} {w : World} {ns : List Nd} (h : SetG s m g n c w ns) (i : Nat) (x : Nd) (hx : ns[i]? = some x) (h72 : n ≤ 72) : Calls Tryd.prog 22 #[.pointer (some ⟨s, 0, none⟩), .int .i64 i] w fun e w' => e = .returned (.int .i64 x.su) ∧ w' = w := by
  obtain ⟨_, _, _, _, _, x7, _, _⟩ := h.node i x hx
  have hi : i < n := by rw [h.len]; exact (List.getElem?_eq_some_iff.1 hx).1
  have HN := Lib.hid (node_in h i hi h72)
  clear h hx
  go_enter Tryd.func22, Tryd.ntmps22
  go_wp2_with fail
  refine HN.out.mono ?_
  rintro e w' ⟨rfl, rfl⟩
  go_wp2
  go_ret
  exact ⟨rfl, rfl⟩
def ints (l : List Nat) : List Int := l.map (fun j : Nat => (j : Int))
theorem ints_len (l : List Nat) : (ints l).length = l.length := by simp [ints]
def PreK (u : Value) (l0 : List Nat) (ba : Nat) (w : World) (v : Value) (l : List Nat) : Prop :=
  l0 = [] ∨ (Row w .i64 u (ints l0) ∧ ∃ g n c, u = .slice (some ⟨g, 0, none⟩) n c ∧ g < w.heap.size ∧ g ≠ ba ∧ ((v.ownBlock = some g ∧ ∃ t, l = l0 ++ t) ∨ v.ownBlock ≠ some g))
structure ClE (wb : World) (B s bs ba bu bx : Nat) (u : Value) (l0 : List Nat) (w : World) (v : Value) (l : List Nat) : Prop where
  ext : Ext wb w
  hs : w.heap[bs]? = some (.cells #[.pointer (some ⟨s, 0, none⟩)] 24 (0, 0))
  hu : w.heap[bu]? = some (.cells #[.func (.func 72) #[] #[.pointer (some ⟨ba, 0, none⟩), .pointer (some ⟨bu, 0, none⟩), .pointer (some ⟨bs, 0, none⟩)]] 94 (0, 0))
  hx : w.heap[bx]? = some (.cells #[.func (.func 73) #[] #[.pointer (some ⟨bs, 0, none⟩), .pointer (some ⟨ba, 0, none⟩), .pointer (some ⟨bx, 0, none⟩)]] 94 (0, 0))
  ha : w.heap[ba]? = some (.cells #[v] 48 (0, 0))
  own : Own B w 3 .i64 v (ints l)
  hB : wb.heap.size ≤ B
  hba : wb.heap.size ≤ ba
  hBw : B ≤ w.heap.size
  pre : PreK u l0 ba w v l
section
variable {wb w w' : World} {B s bs ba bu bx : Nat} {u v : Value} {l l0 : List Nat}
theorem PreK.ext {w w' : World} (h : PreK u l0 ba w v l) (e : Ext w w') : PreK u l0 ba w' v l := by
  rcases h with h | ⟨h1, g, n, c, h2, h3, h4, h5⟩
  · exact .inl h
  · exact .inr ⟨h1.ext e, g, n, c, h2, Nat.lt_of_lt_of_le h3 e.size, h4, h5⟩
theorem Row.cut0 {w : World} {k : IntKind} {A : Option Addr} {n c : Nat} {l : List Int} (h : Row w k (.slice A n c) l) : n = l.length ∧ l.length ≤ c ∧ c ≤ maxLen := by
  obtain ⟨A', c', h1, h2, h3, _⟩ := h
  injection h1 with _ e2 e3
  exact ⟨e2, by omega, by omega⟩
theorem ClE.ext' (h : ClE wb B s bs ba bu bx u l0 w v l) (e : Ext w w') : ClE wb B s bs ba bu bx u l0 w' v l :=
  ⟨h.ext.trans e, (e.block _ (lt_of_get h.hs)).trans h.hs, (e.block _ (lt_of_get h.hu)).trans h.hu, (e.block _ (lt_of_get h.hx)).trans h.hx, (e.block _ (lt_of_get h.ha)).trans h.ha, h.own.ext e, h.hB, h.hba, Nat.le_trans h.hBw e.size, h.pre.ext e⟩
theorem heap_ne {w : World} {a b : Nat} {c1 c2 : Array Value} {T1 T2 : TypeId} {z1 z2 : Nat × Nat} (h1 : w.heap[a]? = some (.cells c1 T1 z1)) (h2 : w.heap[b]? = some (.cells c2 T2 z2)) (h : T1 ≠ T2) : a ≠ b := by
  intro e
  subst e
  rw [h1] at h2
  injection h2 with h2
  injection h2 with _ h2 _
  exact h h2
theorem ClE.left (h : ClE wb B s bs ba bu bx u l0 w v l) {w1 w2 : World} (e1 : Ext w w1) (hg : w1.grownBy w2 v.ownBlock) {b : Nat} {c : Array Value} {T : TypeId} {z : Nat × Nat} (hb : w.heap[b]? = some (.cells c T z)) (hT : T ≠ 3) : w2.heap[b]? = some (.cells c T z) := by
  have h1 := h.ext' e1
  have hb1 : w1.heap[b]? = some (.cells c T z) := (e1.block _ (lt_of_get hb)).trans hb
  rw [hg.block b (lt_of_get hb1) (fun e => ?_)]
  · exact hb1
  · obtain ⟨c2, z2, h2⟩ := own_typed h1.own b e.symm
    rw [hb1] at h2
    injection h2 with h2
    injection h2 with _ h2 _
    exact hT h2
theorem ClE.baAt (h : ClE wb B s bs ba bu bx u l0 w v l) {w1 w2 : World} (e1 : Ext w w1) (hg : w1.grownBy w2 v.ownBlock) : w2.cell? ⟨ba, 0, none⟩ = some v ∧ w2.frozen? ⟨ba, 0, none⟩ = false := by
  have h2 := h.left e1 hg h.ha (by decide)
  exact ⟨by rw [cell_of_row w2 ba 0 _ _ (0, 0) h2]; rfl, by simp [World.frozen?, h2]⟩
theorem ClE.push (h : ClE wb B s bs ba bu bx u l0 w v l) {w2 : World} {v' : Value} {j : Nat} (ho : Own B w2 3 .i64 v' (ints l ++ [(j : Int)])) {w1 : World} (e1 : Ext w w1) (hg : w1.grownBy w2 v.ownBlock) (hb2 : v'.ownBlock = v.ownBlock ∨ (v'.ownBlock = some w1.heap.size ∧ w1.grownBy w2 none)) : ClE wb B s bs ba bu bx u l0 (w2.setCell ⟨ba, 0, none⟩ v') v' (l ++ [j]) := by
  have h1 := h.ext' e1
  have k : ∀ {b : Nat} {c : Array Value} {T : TypeId} {z : Nat × Nat}, w.heap[b]? = some (.cells c T z) → T ≠ 3 → w2.heap[b]? = some (.cells c T z) := fun {b c T z} hb hT => h.left e1 hg hb hT
  have ha2 := k h.ha (by decide)
  have s2 : ∀ {b : Nat} {c : Array Value} {T : TypeId} {z : Nat × Nat}, w.heap[b]? = some (.cells c T z) → T ≠ 3 → T ≠ 48 → (w2.setCell ⟨ba, 0, none⟩ v').heap[b]? = some (.cells c T z) := fun {b c T z} hb h2 h3 => by
    have hb2 := k hb h2
    rw [Below.heap_setCell w2 ⟨ba, 0, none⟩ v' b (fun e => heap_ne hb2 ha2 h3 e)]
    exact hb2
  have e2 : Ext wb w2 := h1.ext.grown hg (fun q hq => Nat.le_trans h.hB (h1.own.low q hq))
  refine ⟨e2.set_ h.hba v', s2 h.hs (by decide) (by decide), s2 h.hu (by decide) (by decide), s2 h.hx (by decide) (by decide), ?_, ?_, h.hB, h.hba, ?_, ?_⟩
  · have := heap_setCell_same w2 ba 0 _ _ v' ha2
    rw [this]
    rfl
  · have hne : ∀ q, v'.ownBlock = some q → (some ba : Option Nat) ≠ some q := fun q hq e => by
      injection e with e
      subst e
      obtain ⟨c2, z2, h2⟩ := own_typed ho ba hq
      rw [ha2] at h2
      injection h2 with h2
      injection h2 with _ h2 _
      exact absurd h2 (by decide)
    have e : ints (l ++ [j]) = ints l ++ [(j : Int)] := by simp [ints]
    rw [e]
    exact ho.kept (only_set (World.grownBy.refl w2 (some ba)) 0 v') hne
  · have := hg.size
    have := e1.size
    have := h.hBw
    show B ≤ (w2.setCell ⟨ba, 0, none⟩ v').heap.size
    have : (w2.setCell ⟨ba, 0, none⟩ v').heap.size = w2.heap.size := by simp [World.setCell]
    omega
  · have hsz : (w2.setCell ⟨ba, 0, none⟩ v').heap.size = w2.heap.size := by simp [World.setCell]
    rcases h1.pre with hp | ⟨p1, g, n, c, rfl, p3, p4, p5⟩
    · exact .inl hp
    · right
      have keep : ∀ {row : Option Nat}, w1.grownBy w2 row → row ≠ some g → Row (w2.setCell ⟨ba, 0, none⟩ v') .i64 (.slice (some ⟨g, 0, none⟩) n c) (ints l0) := fun {row} hgr hne => by
        have q1 : Row w2 .i64 (.slice (some ⟨g, 0, none⟩) n c) (ints l0) := p1.kept hgr (fun q hq e => hne (by rw [e, ← hq]; rfl))
        exact q1.kept (only_set (World.grownBy.refl w2 (some ba)) 0 v') (fun q hq e => by
          have hq : g = q := by simpa [Value.ownBlock] using hq
          injection e with e
          exact p4 (by rw [hq, e]))
      have ho3 : Own B (w2.setCell ⟨ba, 0, none⟩ v') 3 .i64 v' (ints l ++ [(j : Int)]) := by
        refine ho.kept (only_set (World.grownBy.refl w2 (some ba)) 0 v') fun q hq e => ?_
        injection e with e
        subst e
        obtain ⟨c2, z2, h2⟩ := own_typed ho ba hq
        rw [ha2] at h2
        injection h2 with h2
        injection h2 with _ h2 _
        exact absurd h2 (by decide)
      rcases p5 with ⟨p5, t, p6⟩ | p5
      · rcases hb2 with hb2 | ⟨hb2, hb3⟩
        · refine ⟨?_, g, n, c, rfl, by rw [hsz]; exact Nat.lt_of_lt_of_le p3 hg.size, p4, .inl ⟨hb2.trans p5, t ++ [j], by rw [p6]; simp⟩⟩
          obtain ⟨q0, q1⟩ := p1.cut0
          have hnn : n = (ints l0).length := q0
          have hv' : v'.ownBlock = some g := hb2.trans p5
          by_cases hl0 : (ints l0).length = 0
          · have e0 : ints l0 = [] := List.eq_nil_of_length_eq_zero hl0
            rw [e0]
            rw [hl0] at hnn
            exact Row.zero _ _ _ hnn q1.2
          · have hpos : 0 < (ints l ++ [(j : Int)]).length := by simp
            obtain ⟨g', c', e1', _, _, _, _, hat, _⟩ := ho3.parts hpos
            rw [e1'] at hv'
            have eg : g' = g := by simpa [Value.ownBlock] using hv'
            subst eg
            refine ⟨_, _, by rw [hnn], q1.1, q1.2, (fun h => by cases h), p1.fit, fun _ => ⟨g', 0, rfl, by rw [hsz]; exact Nat.lt_of_lt_of_le p3 hg.size, fun q hq => ?_⟩⟩
            have hlt : q < (ints l ++ [(j : Int)]).length := by rw [p6] at *; unfold ints at *; simp at hq ⊢; omega
            rw [Nat.zero_add, hat q hlt]
            congr 2
            unfold gi
            rw [List.getD_eq_getElem?_getD, List.getD_eq_getElem?_getD, p6]
            unfold ints at hq ⊢
            rw [List.map_append, List.append_assoc, List.getElem?_append_left hq]
        · refine ⟨keep hb3 (by simp), g, n, c, rfl, by rw [hsz]; exact Nat.lt_of_lt_of_le p3 hg.size, p4, .inr ?_⟩
          rw [hb2]
          intro e
          injection e with e
          omega
      · refine ⟨keep hg p5, g, n, c, rfl, by rw [hsz]; exact Nat.lt_of_lt_of_le p3 hg.size, p4, .inr ?_⟩
        rcases hb2 with hb2 | ⟨hb2, _⟩
        · rw [hb2]; exact p5
        · rw [hb2]
          intro e
          injection e with e
          omega
theorem ClE.cellA (h : ClE wb B s bs ba bu bx u l0 w v l) : w.cell? ⟨ba, 0, none⟩ = some v := by rw [cell_of_row w ba 0 _ _ (0, 0) h.ha]; rfl
theorem ClE.cellS (h : ClE wb B s bs ba bu bx u l0 w v l) : w.cell? ⟨bs, 0, none⟩ = some (.pointer (some ⟨s, 0, none⟩)) := by rw [cell_of_row w bs 0 _ _ (0, 0) h.hs]; rfl
theorem ClE.cellU (h : ClE wb B s bs ba bu bx u l0 w v l) : w.cell? ⟨bu, 0, none⟩ = some (.func (.func 72) #[] #[.pointer (some ⟨ba, 0, none⟩), .pointer (some ⟨bu, 0, none⟩), .pointer (some ⟨bs, 0, none⟩)]) := by rw [cell_of_row w bu 0 _ _ (0, 0) h.hu]; rfl
theorem ClE.cellX (h : ClE wb B s bs ba bu bx u l0 w v l) : w.cell? ⟨bx, 0, none⟩ = some (.func (.func 73) #[] #[.pointer (some ⟨bs, 0, none⟩), .pointer (some ⟨ba, 0, none⟩), .pointer (some ⟨bx, 0, none⟩)]) := by rw [cell_of_row w bx 0 _ _ (0, 0) h.hx]; rfl
end
def supV (g : Gr) (i : Nat) : Int := match g.sup i with | none => -1 | some j => (j : Int)
set_option maxRecDepth 100000 in
theorem up_none (w : World) (ba bu bs : Nat) : Calls Tryd.prog 72 #[.int .i64 (-1), .pointer (some ⟨ba, 0, none⟩), .pointer (some ⟨bu, 0, none⟩), .pointer (some ⟨bs, 0, none⟩)] w fun e w' => e = .returned (.tuple #[]) ∧ w' = w := by
  go_enter Tryd.func72, Tryd.ntmps72
  go_wp2
  go_end0
  exact ⟨rfl, rfl⟩
set_option maxRecDepth 100000 in
set_option maxHeartbeats 4000000 in
theorem up_any {s m gb n c : Nat} {wb : World} {ns : List Nd} {g : Gr} (hg : g.Ok) (hE : SetEv s m gb n c ns wb) (hgn : g.n = n) (h72 : n ≤ 72) (hsu : ∀ i x, ns[i]? = some x → x.su = supV g i) (hln : ns.length = n) {B bs ba bu bx : Nat} {u : Value} {l0 : List Nat} :
    ∀ (N i : Nat) (l : List Nat) (v : Value) (w : World), g.rank i < N → i < n → ClE wb B s bs ba bu bx u l0 w v l → l.length + (g.chain i).length ≤ 1000 →
    Calls Tryd.prog 72 #[.int .i64 i, .pointer (some ⟨ba, 0, none⟩), .pointer (some ⟨bu, 0, none⟩), .pointer (some ⟨bs, 0, none⟩)] w fun e w' => e = .returned (.tuple #[]) ∧ ∃ v', ClE wb B s bs ba bu bx u l0 w' v' (l ++ g.chain i)
  | 0, _, _, _, _, h, _, _, _ => by omega
  | N + 1, i, l, v, w, hr, hi, hc, hl => by
    obtain ⟨x, hx⟩ : ∃ x, ns[i]? = some x := ⟨ns[i]'(by omega), List.getElem?_eq_getElem _⟩
    have hch := hg.chain_eq i
    have HSX := Lib.hid (hsu i x hx)
    have HXX := Lib.hid hx
    have HE := Lib.hid hE
    have HIH := Lib.hid (fun j hj => up_any hg hE hgn h72 hsu hln (B := B) (bs := bs) (ba := ba) (bu := bu) (bx := bx) (u := u) (l0 := l0) N j hj)
    have ca := hc.cellA
    have HCC := Lib.hid hc
    have hif : ((i : Int) != -1) = true := by rw [bne_iff_ne]; omega
    obtain ⟨A, c0, rfl, hc0, hcm, -⟩ := id hc.own.row
    obtain ⟨nl, hnl⟩ : ∃ nl, (ints l).length = nl := ⟨_, rfl⟩
    rw [hnl] at ca HCC hc0 hc
    have hnl2 : nl ≤ 1000 := by rw [← hnl, ints_len]; omega
    have wfi : (Lit.int .i64 (i : Int)).wf = true := by simp [Lit.wf, IntKind.min, IntKind.max, IntKind.signed, IntKind.bits]; omega
    have HO1 := Lib.hid (hc.own.ext ((Ext.refl w).alloc (.cells #[.int .i64 i] 3)))
    have HR1 := Lib.hid (Row.built1 w .i64 3 (i : Int) wfi)
    have hBw := hc.hBw
    have HL := Lib.hid hl
    have HNL := Lib.hid hnl
    have HCH := Lib.hid hch
    have HNL2 : Hid ((ints l ++ [(i : Int)]).length = nl + 1) := Lib.hid (by rw [List.length_append, hnl]; rfl)
    clear hE hx hc hnl hl hch wfi
    go_enter Tryd.func72, Tryd.ntmps72
    go_wp2_with (at_builtin; refine wpList_appK _ rfl _ _ B 48 3 _ 8 .i64 rfl Tryd.underlying48 infoI rfl (by omega) _ (ints l) rfl HO1.out _ [(i : Int)] rfl HR1.out (by rw [HNL.out]; simp; omega) (by simp; omega) ?_; intro v2 w2 o2 g2 b2; obtain ⟨A2, c2, e2, hc2, hm2, -⟩ := id o2.row; rw [HNL2.out] at e2 hc2; subst e2; obtain ⟨z1, z2⟩ := HCC.out.baAt ((Ext.refl w).alloc _) g2; have HPU := Lib.hid (HCC.out.push o2 ((Ext.refl w).alloc _) g2 b2); clear o2 g2 b2)
    obtain ⟨W, hW⟩ : ∃ W, w2.setCell ⟨ba, 0, none⟩ (.slice A2 (nl + 1) c2) = W := ⟨_, rfl⟩
    rw [hW] at HPU ⊢
    have HP2 := Lib.hid (HPU.out.ext' (Ext.refl W).drew)
    have f1 := HP2.out.cellU
    have f2 := HP2.out.cellS
    have hsup := super_in (HE.out _ HP2.out.ext).1 i x HXX.out h72
    rw [HSX.out] at hsup
    clear hW z1 z2 HO1 HR1 ca HCC
    cases hs : g.sup i with
    | none =>
      have hsv : supV g i = -1 := by unfold supV; rw [hs]
      rw [hsv] at hsup
      have HS := Lib.hid hsup
      have HU := Lib.hid (up_none W.drew ba bu bs)
      have HC2 : Hid (g.chain i = [i]) := Lib.hid (by rw [HCH.out, hs])
      clear hsup hsv hs
      go_region_held3 (fun w' => w'.cell? ⟨bu, 0, none⟩ = some (.func (.func 72) #[] #[.pointer (some ⟨ba, 0, none⟩), .pointer (some ⟨bu, 0, none⟩), .pointer (some ⟨bs, 0, none⟩)]) ∧ w'.cell? ⟨bs, 0, none⟩ = some (.pointer (some ⟨s, 0, none⟩))) (first | go_keep | assumption) (first
        | (go_at_call 22; (with_reducible refine HS.out.mono ?_); rintro e6 w6 ⟨rfl, rfl⟩)
        | (go_at_call 72; (with_reducible refine HU.out.mono ?_); rintro e6 w6 ⟨rfl, rfl⟩))
      go_wp2
      go_end0
      exact ⟨rfl, _, by rw [HC2.out]; exact HP2.out⟩
    | some j =>
      have hsv : supV g i = (j : Int) := by unfold supV; rw [hs]
      rw [hsv] at hsup
      have hju : j ∈ g.ups i := by unfold Gr.ups; rw [hs]; simp
      have hjn : j < n := by rw [← hgn]; exact hg.in_ i j hju
      have hrk := hg.rank_lt hju
      have HS := Lib.hid hsup
      have HC2 : Hid (g.chain i = i :: g.chain j) := Lib.hid (by rw [HCH.out, hs])
      have HU := Lib.hid (HIH.out j (l ++ [i]) _ W.drew (by omega) hjn HP2.out (by have h1 := HL.out; rw [HC2.out] at h1; simp at h1 ⊢; omega))
      clear hsup hsv hs hju hjn hrk
      go_region_held3 (fun w' => w'.cell? ⟨bu, 0, none⟩ = some (.func (.func 72) #[] #[.pointer (some ⟨ba, 0, none⟩), .pointer (some ⟨bu, 0, none⟩), .pointer (some ⟨bs, 0, none⟩)]) ∧ w'.cell? ⟨bs, 0, none⟩ = some (.pointer (some ⟨s, 0, none⟩))) (first | go_keep | assumption) (first
        | (go_at_call 22; (with_reducible refine HS.out.mono ?_); rintro e6 w6 ⟨rfl, rfl⟩)
        | (go_at_call 72; (with_reducible refine HU.out.mono ?_); rintro e6 w6 ⟨rfl, v6, h6⟩; have H6 := Lib.hid h6; clear h6; have g1 := H6.out.cellU; have g2 := H6.out.cellS))
      go_wp2
      go_end0
      exact ⟨rfl, v6, by rw [HC2.out]; simpa using H6.out⟩
end Go.Proofs.YtkkfkjjmmdpafaaDoor
