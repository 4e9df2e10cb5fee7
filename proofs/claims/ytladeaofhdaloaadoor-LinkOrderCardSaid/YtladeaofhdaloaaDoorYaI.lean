/- Several texts of this proof, one behind the other. -/
import Derived.Test.YtladeaofhdaloaaDoorYaE
import Derived.Test.YtladeaofhdaloaaDoorYaH
import Derived.Test.YtladeaofhdaloaaDoorYaF
import Derived.Laws.EntriesVeiled
namespace Go.Proofs.YtladeaofhdaloaaDoor
open Go.RowKit
set_option linter.unusedVariables false

theorem cmp_facts {W0 w : World} {B len c g : Nat} {T : List (KlV × Nat)} {p q : Nat} {x y : KlV × Nat} (h : OwnT W0 B w (some ⟨g, 0, none⟩) len c T) (hp : T[p]? = some x) (hq : T[q]? = some y) :
    p < len ∧ q < len ∧ ∀ W, Ext w W → AtK W g (p * 7) x.1 ∧ AtK W g (q * 7) y.1 := by
  obtain ⟨c1, -, l1⟩ := h.at p x hp
  obtain ⟨c2, -, l2⟩ := h.at q y hq
  obtain ⟨-, -, hl, -⟩ := h.head (by omega)
  have hgb : g < w.heap.size := (Shp.Own.high (S := ShKW W0) h) g rfl
  exact ⟨by omega, by omega, fun W e => ⟨c1.ext e hgb, c2.ext e hgb⟩⟩
def Merged (W0 : World) (B g len c : Nat) (P L R S : List (KlV × Nat)) (w : World) (e : Ending) (w' : World) : Prop :=
  e = .returned (.tuple #[]) ∧ (∃ E, Srt tK E ∧ E.Perm (L ++ R) ∧ OwnT W0 B w' (some ⟨g, 0, none⟩) len c (P ++ (E ++ S))) ∧ w.grownBy w' (some g)
set_option maxRecDepth 100000 in
set_option maxHeartbeats 8000000 in
theorem symMerge_one {W0 w : World} {B a m b len c g : Nat} (P R S : List (KlV × Nat)) (x : KlV × Nat) (ha : P.length = a) (hm : a + 1 = m) (hb : m + R.length = b) (hR : Srt tK R) (hag : Agr (fun a b => cbK a.1 b.1) tK [x] R)
    (ho : OwnT W0 B w (some ⟨g, 0, none⟩) len c (P ++ ([x] ++ (R ++ S)))) (hl : (P ++ ([x] ++ (R ++ S))).length ≤ 64) :
    Calls Tryd.prog 93 #[.slice (some ⟨g, 0, none⟩) len c, .int .i64 a, .int .i64 m, .int .i64 b, cmpV] w (Merged W0 B g len c P [x] R S w) := by
  have hl2 : P.length + (1 + (R.length + S.length)) ≤ 64 := by simp at hl; omega
  have hb64 : b ≤ 64 := by omega
  have HL := Lib.hid (And.intro ha (And.intro hm (And.intro hb hl2)))
  have HR := Lib.hid hR
  have HAG := Lib.hid hag
  have HOW := Lib.hid ho
  have H0 : Hid ((∀ y ∈ R.take (m - m), tK y x) ∧ ∀ y ∈ R.drop (b - m), tK x y) := Lib.hid ⟨fun y hy => by simp at hy, fun y hy => by rw [List.drop_of_length_le (by omega)] at hy; cases hy⟩
  have hma : (m : Int) - (a : Int) = 1 := by omega
  have hmb : m ≤ b := by omega
  have ham : a < m := by omega
  clear ha hm hb hR hag ho hl hl2
  go_enter Tryd.func93, Tryd.ntmps93
  go_wp2_with fail
  go_loopw [10, 11] (fun i j wr => ∃ p q : Nat, i = .int .i64 p ∧ j = .int .i64 q ∧ m ≤ p ∧ p ≤ q ∧ q ≤ b ∧ Hid ((∀ y ∈ R.take (p - m), tK y x) ∧ ∀ y ∈ R.drop (q - m), tK x y) ∧ Hid (Ext w wr)) (fun i j _ => (intOf j).toNat - (intOf i).toNat)
  case atStart => exact ⟨m, b, rfl, rfl, Nat.le_refl _, hmb, Nat.le_refl _, H0, Lib.hid (Ext.refl _)⟩
  case round =>
    obtain ⟨p, q, rfl, rfl, hmp, hpq, hqb, HI, HX⟩ := hrel
    rename World => wr
    clear H0
    by_cases hlt : p < q
    · have hltz : (p : Int) < (q : Int) := by omega
      obtain ⟨h, hh⟩ : ∃ h, (p + q) / 2 = h := ⟨_, rfl⟩
      have hh2 : ((p : Int) + (q : Int)) / 2 = (h : Int) := by omega
      have hph : p ≤ h := by omega
      have hhq : h < q := by omega
      have HO := Lib.hid (HOW.out.ext HX.out)
      obtain ⟨z, hz⟩ : ∃ z, R[h - m]? = some z := ⟨R[h - m]'(by have := HL.out; omega), List.getElem?_eq_getElem _⟩
      have hp : (P ++ ([x] ++ (R ++ S)))[h]? = some z := by
        have := HL.out
        have hz2 := (List.getElem?_eq_some_iff.1 hz).1
        rw [List.getElem?_append_right (by omega), List.getElem?_append_right (by simp; omega), List.getElem?_append_left (by simp; omega), ← hz]
        congr 1
        simp; omega
      have hq : (P ++ ([x] ++ (R ++ S)))[a]? = some x := by
        have := HL.out
        rw [List.getElem?_append_right (by omega), show a - P.length = 0 by omega]
        rfl
      have hmem : z ∈ R := List.mem_of_getElem? hz
      have hord := HAG.out x (List.mem_singleton.2 rfl) z hmem
      have hlow : tK z x → (∀ y ∈ R.take (h + 1 - m), tK y x) := fun h1 => by
        obtain ⟨h2, h3⟩ := List.getElem?_eq_some_iff.1 hz
        have := bs_low (tl_tr swoK) HR.out h2 (by rw [h3]; exact h1)
        rw [show h - m + 1 = h + 1 - m by omega] at this
        exact this
      have hhigh : tK x z → (∀ y ∈ R.drop (h - m), tK x y) := fun h1 => by
        obtain ⟨h2, h3⟩ := List.getElem?_eq_some_iff.1 hz
        exact bs_high (tl_tr swoK) HR.out h2 (by rw [h3]; exact h1)
      have hdec : (Hid (∀ y ∈ R.take (h + 1 - m), tK y x) ∧ cfK z.1 x.1 < 0) ∨ (Hid (∀ y ∈ R.drop (h - m), tK x y) ∧ ¬ cfK z.1 x.1 < 0) := by
        cases e : cbK z.1 x.1
        · exact .inr ⟨hhigh (hord.2 e), cf_no e⟩
        · exact .inl ⟨hlow (hord.1 e), cf_yes e⟩
      have HFF := cmp_facts HO.out hp hq
      have hpl : h < len := HFF.1
      have hql : a < len := HFF.2.1
      obtain ⟨x', hx'⟩ : ∃ x', z.1 = x' := ⟨_, rfl⟩
      obtain ⟨y', hy'⟩ : ∃ y', x.1 = y' := ⟨_, rfl⟩
      have HF := Lib.hid HFF.2.2
      rw [hx', hy'] at HF
      have HXY := Lib.hid (And.intro hx' hy')
      have HC := Lib.hid (fun W => cmp_any x' y' W)
      have e1 := (Ext.refl wr).drew
      have f0 := HF.out _ e1
      unfold AtK at f0
      rw [hx', hy'] at hdec
      obtain ⟨rv, hr⟩ : ∃ rv, cfK x' y' = rv := ⟨_, rfl⟩
      rw [hr] at hdec HC
      have hplz : (h : Int) < (len : Int) := by omega
      have hqlz : (a : Int) < (len : Int) := by omega
      clear HFF hx' hy' hr
      unfold KlV.vals at HC
      clear hp hq hmem hord hlow hhigh hz
      rcases hdec with ⟨HD, hneg⟩ | ⟨HD, hneg⟩
      · go_wp2_with fail
        go_region_held3 (fun w' => w'.cell? ⟨g, h * 7, none⟩ = some (.slice x'.vp.A x'.vp.n x'.vp.c) ∧ w'.cell? ⟨g, h * 7 + 1, none⟩ = some (.string x'.k.nm) ∧ w'.cell? ⟨g, h * 7 + 2, none⟩ = some (.string x'.k.sup) ∧ w'.cell? ⟨g, h * 7 + 3, none⟩ = some (.bool x'.k.inf) ∧ w'.cell? ⟨g, h * 7 + 4, none⟩ = some (.slice x'.vi.A x'.vi.n x'.vi.c) ∧ w'.cell? ⟨g, h * 7 + 5, none⟩ = some (.slice x'.vf.A x'.vf.n x'.vf.c) ∧ w'.cell? ⟨g, h * 7 + 6, none⟩ = some (.slice x'.vm.A x'.vm.n x'.vm.c) ∧ w'.cell? ⟨g, a * 7, none⟩ = some (.slice y'.vp.A y'.vp.n y'.vp.c) ∧ w'.cell? ⟨g, a * 7 + 1, none⟩ = some (.string y'.k.nm) ∧ w'.cell? ⟨g, a * 7 + 2, none⟩ = some (.string y'.k.sup) ∧ w'.cell? ⟨g, a * 7 + 3, none⟩ = some (.bool y'.k.inf) ∧ w'.cell? ⟨g, a * 7 + 4, none⟩ = some (.slice y'.vi.A y'.vi.n y'.vi.c) ∧ w'.cell? ⟨g, a * 7 + 5, none⟩ = some (.slice y'.vf.A y'.vf.n y'.vf.c) ∧ w'.cell? ⟨g, a * 7 + 6, none⟩ = some (.slice y'.vm.A y'.vm.n y'.vm.c)) (first | go_keep | with_reducible assumption | assumption) (first
          | (go_at_call 65; (with_reducible refine (HC.out _).mono ?_); rintro e w5 ⟨rfl, x5⟩; have e5 := e1.grown x5 (fun g h => by cases h); have f1 := HF.out w5 e5; unfold AtK at f1))
        have HX5 := Lib.hid (HX.out.trans e5)
        clear f1 f0 x5 e5 e1
        go_wp2_with fail
        go_roundw
        case rel => exact ⟨h + 1, q, by go_num, rfl, by omega, by omega, hqb, Lib.hid ⟨HD.out, HI.out.2⟩, HX5⟩
        case measure => first | (simp [intOf]; omega) | simp [intOf]
      · go_wp2_with fail
        go_region_held3 (fun w' => w'.cell? ⟨g, h * 7, none⟩ = some (.slice x'.vp.A x'.vp.n x'.vp.c) ∧ w'.cell? ⟨g, h * 7 + 1, none⟩ = some (.string x'.k.nm) ∧ w'.cell? ⟨g, h * 7 + 2, none⟩ = some (.string x'.k.sup) ∧ w'.cell? ⟨g, h * 7 + 3, none⟩ = some (.bool x'.k.inf) ∧ w'.cell? ⟨g, h * 7 + 4, none⟩ = some (.slice x'.vi.A x'.vi.n x'.vi.c) ∧ w'.cell? ⟨g, h * 7 + 5, none⟩ = some (.slice x'.vf.A x'.vf.n x'.vf.c) ∧ w'.cell? ⟨g, h * 7 + 6, none⟩ = some (.slice x'.vm.A x'.vm.n x'.vm.c) ∧ w'.cell? ⟨g, a * 7, none⟩ = some (.slice y'.vp.A y'.vp.n y'.vp.c) ∧ w'.cell? ⟨g, a * 7 + 1, none⟩ = some (.string y'.k.nm) ∧ w'.cell? ⟨g, a * 7 + 2, none⟩ = some (.string y'.k.sup) ∧ w'.cell? ⟨g, a * 7 + 3, none⟩ = some (.bool y'.k.inf) ∧ w'.cell? ⟨g, a * 7 + 4, none⟩ = some (.slice y'.vi.A y'.vi.n y'.vi.c) ∧ w'.cell? ⟨g, a * 7 + 5, none⟩ = some (.slice y'.vf.A y'.vf.n y'.vf.c) ∧ w'.cell? ⟨g, a * 7 + 6, none⟩ = some (.slice y'.vm.A y'.vm.n y'.vm.c)) (first | go_keep | with_reducible assumption | assumption) (first
          | (go_at_call 65; (with_reducible refine (HC.out _).mono ?_); rintro e w5 ⟨rfl, x5⟩; have e5 := e1.grown x5 (fun g h => by cases h); have f1 := HF.out w5 e5; unfold AtK at f1))
        have HX5 := Lib.hid (HX.out.trans e5)
        clear f1 f0 x5 e5 e1
        go_wp2_with fail
        go_roundw
        case rel => exact ⟨p, h, rfl, by go_num, by omega, by omega, by omega, Lib.hid ⟨HI.out.1, HD.out⟩, HX5⟩
        case measure => first | (simp [intOf]; omega) | simp [intOf]
    · have hltz : ¬ (p : Int) < (q : Int) := by omega
      obtain rfl : p = q := by omega
      have e1 : R.take (p - m) ++ R.drop (p - m) = R := List.take_append_drop _ _
      have l1 : (R.take (p - m)).length = p - m := by have := HL.out; simp; omega
      have h1 := HI.out
      have HJ0 : Hid (∃ R1 R2 : List (KlV × Nat), R = R1 ++ R2 ∧ R1.length = p - m ∧ (∀ y ∈ R1, tK y x) ∧ (∀ y ∈ R2, tK x y)) := Lib.hid ⟨_, _, e1.symm, l1, h1.1, h1.2⟩
      clear e1 l1 h1 HI
      obtain ⟨R1, R2, r1, r2, r3, r4⟩ := HJ0.out
      subst r1
      have HR2 := Lib.hid r2
      have HR3 := Lib.hid r3
      have HR4 := Lib.hid r4
      have HOX : Hid (OwnT W0 B wr (some ⟨g, 0, none⟩) len c (P ++ (R1.take 0 ++ (x :: (R1.drop 0 ++ (R2 ++ S)))))) := Lib.hid (by simpa using HOW.out.ext HX.out)
      have HGX := Lib.hid (grown_extG (World.grownBy.refl w (some g)) HX.out)
      clear HJ0 r2 r3 r4 HX HOW
      go_wp2_with fail
      go_loopw [13] (fun k ws => ∃ t : Nat, k = .int .i64 (a + t : Nat) ∧ t ≤ p - m ∧ Hid (OwnT W0 B ws (some ⟨g, 0, none⟩) len c (P ++ (R1.take t ++ (x :: (R1.drop t ++ (R2 ++ S)))))) ∧ Hid (w.grownBy ws (some g))) (fun k _ => 64 - (intOf k).toNat)
      case atStart => exact ⟨0, by go_num, by omega, HOX, HGX⟩
      case round =>
        obtain ⟨t, rfl, htp, HO, HG⟩ := hrel
        rename World => ws
        clear HOX HGX
        by_cases hlt2 : t < p - m
        · have hltz2 : ((a + t : Nat) : Int) < (p : Int) - 1 := by omega
          obtain ⟨z, hz⟩ : ∃ z, R1[t]? = some z := ⟨R1[t]'(by have := HR2.out; omega), List.getElem?_eq_getElem _⟩
          obtain ⟨ht1, ht2⟩ := List.getElem?_eq_some_iff.1 hz
          have hd : R1.drop t = z :: R1.drop (t + 1) := by rw [← ht2]; exact List.drop_eq_getElem_cons ht1
          have htk : R1.take (t + 1) = R1.take t ++ [z] := by rw [← ht2]; exact List.take_succ_eq_append_getElem ht1
          have hln : (P ++ R1.take t).length = a + t := by have := HL.out; simp; omega
          have O1 : OwnT W0 B ws (some ⟨g, 0, none⟩) len c ((P ++ R1.take t) ++ x :: z :: (R1.drop (t + 1) ++ (R2 ++ S))) := by
            have := HO.out; rw [hd] at this; simpa using this
          obtain ⟨c1, n1, -⟩ := O1.at (a + t) x (by rw [← hln]; simp)
          obtain ⟨c2, n2, -⟩ := O1.at (a + t + 1) z (by rw [← hln, List.getElem?_append_right (by omega)]; simp)
          obtain ⟨g2, hg2, hlen, -, hfr⟩ := O1.head (by simp; omega)
          injection hg2 with hg2
          injection hg2 with hg2
          subst hg2
          have hat : a + t + 1 < len := by rw [hlen]; simp at hln ⊢; omega
          have O2 := O1.swap' n1 n2
          rw [hln] at O2
          obtain ⟨p', hp'⟩ : ∃ p', a + t = p' := ⟨_, rfl⟩
          rw [hp'] at O2 c1 c2 hat hltz2 ⊢
          have G3 := Lib.hid (grown_drewG (st7_only (st7_only (show w.grownBy ws (some g) from HG.out) (p' * 7) z.1) ((p' + 1) * 7) x.1))
          have O3 : Hid (OwnT W0 B (st7 (st7 ws g (p' * 7) z.1) g ((p' + 1) * 7) x.1).drew (some ⟨g, 0, none⟩) len c (P ++ (R1.take (t + 1) ++ (x :: (R1.drop (t + 1) ++ (R2 ++ S)))))) := Lib.hid (by rw [htk]; simpa using O2)
          obtain ⟨x', hx'⟩ : ∃ x', x.1 = x' := ⟨_, rfl⟩
          obtain ⟨y', hy'⟩ : ∃ y', z.1 = y' := ⟨_, rfl⟩
          rw [hx', hy'] at O3 G3
          rw [hx'] at c1
          rw [hy'] at c2
          obtain ⟨x0, x1, x2, x3, x4, x5, x6⟩ := c1
          obtain ⟨y0, y1, y2, y3, y4, y5, y6⟩ := c2
          obtain ⟨W, hW⟩ : ∃ W, (st7 (st7 ws g (p' * 7) y') g ((p' + 1) * 7) x').drew = W := ⟨_, rfl⟩
          rw [hW] at O3 G3
          unfold st7 at hW
          have hpl : (p' : Int) + 1 < (len : Int) := by omega
          have hpl0 : (p' : Int) < (len : Int) := by omega
          have p0 : (0 : Int) ≤ (p' : Int) + 1 := by omega
          have p1 : ((p' : Int) + 1).toNat = p' + 1 := by omega
          have hwp : IntKind.i64.wrap ((p' : Int) + 1) = (p' : Int) + 1 := by rw [IntKind.wrap_i64]; omega
          clear O1 O2 n1 n2 hd htk hln hlen ht1 ht2 hz hx' hy'
          go_wp2_with fail
          go_region
          try rw [hW]
          clear hW x0 x1 x2 x3 x4 x5 x6 y0 y1 y2 y3 y4 y5 y6 hfr
          go_wp2_with fail
          go_roundw
          case rel => exact ⟨t + 1, by go_num, by omega, O3, G3⟩
          case measure => first | (simp [intOf]; omega) | simp [intOf]
        · have hltz2 : ¬ ((a + t : Nat) : Int) < (p : Int) - 1 := by omega
          go_wp2
          go_end0
          have h1 := HR2.out
          obtain rfl : t = R1.length := by omega
          have h2 := HO.out
          rw [List.take_length, List.drop_length] at h2
          refine ⟨rfl, ⟨R1 ++ x :: R2, ins_done HR.out HR3.out HR4.out, List.perm_middle, ?_⟩, HG.out⟩
          simpa using h2
end Go.Proofs.YtladeaofhdaloaaDoor
namespace Go.Proofs.YtladeaofhdaloaaDoor
open Go.RowKit
set_option linter.unusedVariables false

set_option maxRecDepth 100000 in
set_option maxHeartbeats 8000000 in
theorem symMerge_last {W0 w : World} {B a m b len c g : Nat} (P L S : List (KlV × Nat)) (x : KlV × Nat) (ha : P.length = a) (hm : a + L.length = m) (hb : m + 1 = b) (hL2 : L.length ≠ 1) (hR : Srt tK L) (hag : Agr (fun a b => cbK a.1 b.1) tK L [x])
    (ho : OwnT W0 B w (some ⟨g, 0, none⟩) len c (P ++ (L ++ ([x] ++ S)))) (hl : (P ++ (L ++ ([x] ++ S))).length ≤ 64) :
    Calls Tryd.prog 93 #[.slice (some ⟨g, 0, none⟩) len c, .int .i64 a, .int .i64 m, .int .i64 b, cmpV] w (Merged W0 B g len c P L [x] S w) := by
  have hl2 : P.length + (L.length + (1 + S.length)) ≤ 64 := by simp at hl; omega
  have hb64 : b ≤ 64 := by omega
  have HL := Lib.hid (And.intro ha (And.intro hm (And.intro hb hl2)))
  have HR := Lib.hid hR
  have HAG := Lib.hid hag
  have HOW := Lib.hid ho
  have H0 : Hid ((∀ y ∈ L.take (a - a), tK y x) ∧ ∀ y ∈ L.drop (m - a), tK x y) := Lib.hid ⟨fun y hy => by simp at hy, fun y hy => by rw [List.drop_of_length_le (by omega)] at hy; cases hy⟩
  have hma : ((m : Int) - (a : Int) == 1) = false := by
    rw [beq_eq_false_iff_ne]
    omega
  have hbm : (b : Int) - (m : Int) = 1 := by omega
  have ham : a ≤ m := by omega
  have hmb : m < b := by omega
  clear hL2
  clear ha hm hb hR hag ho hl hl2
  go_enter Tryd.func93, Tryd.ntmps93
  go_wp2_with fail
  go_loopw [14, 15] (fun i j wr => ∃ p q : Nat, i = .int .i64 p ∧ j = .int .i64 q ∧ a ≤ p ∧ p ≤ q ∧ q ≤ m ∧ Hid ((∀ y ∈ L.take (p - a), tK y x) ∧ ∀ y ∈ L.drop (q - a), tK x y) ∧ Hid (Ext w wr)) (fun i j _ => (intOf j).toNat - (intOf i).toNat)
  case atStart => exact ⟨a, m, rfl, rfl, Nat.le_refl _, ham, Nat.le_refl _, H0, Lib.hid (Ext.refl _)⟩
  case round =>
    obtain ⟨p, q, rfl, rfl, hmp, hpq, hqb, HI, HX⟩ := hrel
    rename World => wr
    clear H0
    by_cases hlt : p < q
    · have hltz : (p : Int) < (q : Int) := by omega
      obtain ⟨h, hh⟩ : ∃ h, (p + q) / 2 = h := ⟨_, rfl⟩
      have hh2 : ((p : Int) + (q : Int)) / 2 = (h : Int) := by omega
      have hph : p ≤ h := by omega
      have hhq : h < q := by omega
      have HO := Lib.hid (HOW.out.ext HX.out)
      obtain ⟨z, hz⟩ : ∃ z, L[h - a]? = some z := ⟨L[h - a]'(by have := HL.out; omega), List.getElem?_eq_getElem _⟩
      have hp : (P ++ (L ++ ([x] ++ S)))[m]? = some x := by
        have := HL.out
        rw [List.getElem?_append_right (by omega), List.getElem?_append_right (by omega), show m - P.length - L.length = 0 by omega]
        rfl
      have hq : (P ++ (L ++ ([x] ++ S)))[h]? = some z := by
        have := HL.out
        have hz2 := (List.getElem?_eq_some_iff.1 hz).1
        rw [List.getElem?_append_right (by omega), List.getElem?_append_left (by omega), ← hz]
        congr 1
        omega
      have hmem : z ∈ L := List.mem_of_getElem? hz
      have hord := HAG.out z hmem x (List.mem_singleton.2 rfl)
      have hlow : tK z x → (∀ y ∈ L.take (h + 1 - a), tK y x) := fun h1 => by
        obtain ⟨h2, h3⟩ := List.getElem?_eq_some_iff.1 hz
        have := bs_low (tl_tr swoK) HR.out h2 (by rw [h3]; exact h1)
        rw [show h - a + 1 = h + 1 - a by omega] at this
        exact this
      have hhigh : tK x z → (∀ y ∈ L.drop (h - a), tK x y) := fun h1 => by
        obtain ⟨h2, h3⟩ := List.getElem?_eq_some_iff.1 hz
        exact bs_high (tl_tr swoK) HR.out h2 (by rw [h3]; exact h1)
      have hdec : (Hid (∀ y ∈ L.take (h + 1 - a), tK y x) ∧ ¬ cfK x.1 z.1 < 0) ∨ (Hid (∀ y ∈ L.drop (h - a), tK x y) ∧ cfK x.1 z.1 < 0) := by
        cases e : cbK x.1 z.1
        · exact .inl ⟨hlow (hord.2 e), cf_no e⟩
        · exact .inr ⟨hhigh (hord.1 e), cf_yes e⟩
      have HFF := cmp_facts HO.out hp hq
      have hpl : m < len := HFF.1
      have hql : h < len := HFF.2.1
      obtain ⟨x', hx'⟩ : ∃ x', x.1 = x' := ⟨_, rfl⟩
      obtain ⟨y', hy'⟩ : ∃ y', z.1 = y' := ⟨_, rfl⟩
      have HF := Lib.hid HFF.2.2
      rw [hx', hy'] at HF
      have HXY := Lib.hid (And.intro hx' hy')
      have HC := Lib.hid (fun W => cmp_any x' y' W)
      have e1 := (Ext.refl wr).drew
      have f0 := HF.out _ e1
      unfold AtK at f0
      rw [hx', hy'] at hdec
      obtain ⟨rv, hr⟩ : ∃ rv, cfK x' y' = rv := ⟨_, rfl⟩
      rw [hr] at hdec HC
      have hplz : (m : Int) < (len : Int) := by omega
      have hqlz : (h : Int) < (len : Int) := by omega
      clear HFF hx' hy' hr
      unfold KlV.vals at HC
      clear hp hq hmem hord hlow hhigh hz
      rcases hdec with ⟨HD, hneg⟩ | ⟨HD, hneg⟩
      · have hnb : decide (rv < 0) = false := decide_eq_false hneg
        go_wp2_with fail
        go_region_held3 (fun w' => w'.cell? ⟨g, m * 7, none⟩ = some (.slice x'.vp.A x'.vp.n x'.vp.c) ∧ w'.cell? ⟨g, m * 7 + 1, none⟩ = some (.string x'.k.nm) ∧ w'.cell? ⟨g, m * 7 + 2, none⟩ = some (.string x'.k.sup) ∧ w'.cell? ⟨g, m * 7 + 3, none⟩ = some (.bool x'.k.inf) ∧ w'.cell? ⟨g, m * 7 + 4, none⟩ = some (.slice x'.vi.A x'.vi.n x'.vi.c) ∧ w'.cell? ⟨g, m * 7 + 5, none⟩ = some (.slice x'.vf.A x'.vf.n x'.vf.c) ∧ w'.cell? ⟨g, m * 7 + 6, none⟩ = some (.slice x'.vm.A x'.vm.n x'.vm.c) ∧ w'.cell? ⟨g, h * 7, none⟩ = some (.slice y'.vp.A y'.vp.n y'.vp.c) ∧ w'.cell? ⟨g, h * 7 + 1, none⟩ = some (.string y'.k.nm) ∧ w'.cell? ⟨g, h * 7 + 2, none⟩ = some (.string y'.k.sup) ∧ w'.cell? ⟨g, h * 7 + 3, none⟩ = some (.bool y'.k.inf) ∧ w'.cell? ⟨g, h * 7 + 4, none⟩ = some (.slice y'.vi.A y'.vi.n y'.vi.c) ∧ w'.cell? ⟨g, h * 7 + 5, none⟩ = some (.slice y'.vf.A y'.vf.n y'.vf.c) ∧ w'.cell? ⟨g, h * 7 + 6, none⟩ = some (.slice y'.vm.A y'.vm.n y'.vm.c)) (first | go_keep | with_reducible assumption | assumption) (first
          | (go_at_call 65; (with_reducible refine (HC.out _).mono ?_); rintro e w5 ⟨rfl, x5⟩; have e5 := e1.grown x5 (fun g h => by cases h); have f1 := HF.out w5 e5; unfold AtK at f1))
        have HX5 := Lib.hid (HX.out.trans e5)
        clear f1 f0 x5 e5 e1
        go_wp2_with fail
        go_roundw
        case rel => exact ⟨h + 1, q, by go_num, rfl, by omega, by omega, hqb, Lib.hid ⟨HD.out, HI.out.2⟩, HX5⟩
        case measure => first | (simp [intOf]; omega) | simp [intOf]
      · have hnb : decide (rv < 0) = true := decide_eq_true hneg
        go_wp2_with fail
        go_region_held3 (fun w' => w'.cell? ⟨g, m * 7, none⟩ = some (.slice x'.vp.A x'.vp.n x'.vp.c) ∧ w'.cell? ⟨g, m * 7 + 1, none⟩ = some (.string x'.k.nm) ∧ w'.cell? ⟨g, m * 7 + 2, none⟩ = some (.string x'.k.sup) ∧ w'.cell? ⟨g, m * 7 + 3, none⟩ = some (.bool x'.k.inf) ∧ w'.cell? ⟨g, m * 7 + 4, none⟩ = some (.slice x'.vi.A x'.vi.n x'.vi.c) ∧ w'.cell? ⟨g, m * 7 + 5, none⟩ = some (.slice x'.vf.A x'.vf.n x'.vf.c) ∧ w'.cell? ⟨g, m * 7 + 6, none⟩ = some (.slice x'.vm.A x'.vm.n x'.vm.c) ∧ w'.cell? ⟨g, h * 7, none⟩ = some (.slice y'.vp.A y'.vp.n y'.vp.c) ∧ w'.cell? ⟨g, h * 7 + 1, none⟩ = some (.string y'.k.nm) ∧ w'.cell? ⟨g, h * 7 + 2, none⟩ = some (.string y'.k.sup) ∧ w'.cell? ⟨g, h * 7 + 3, none⟩ = some (.bool y'.k.inf) ∧ w'.cell? ⟨g, h * 7 + 4, none⟩ = some (.slice y'.vi.A y'.vi.n y'.vi.c) ∧ w'.cell? ⟨g, h * 7 + 5, none⟩ = some (.slice y'.vf.A y'.vf.n y'.vf.c) ∧ w'.cell? ⟨g, h * 7 + 6, none⟩ = some (.slice y'.vm.A y'.vm.n y'.vm.c)) (first | go_keep | with_reducible assumption | assumption) (first
          | (go_at_call 65; (with_reducible refine (HC.out _).mono ?_); rintro e w5 ⟨rfl, x5⟩; have e5 := e1.grown x5 (fun g h => by cases h); have f1 := HF.out w5 e5; unfold AtK at f1))
        have HX5 := Lib.hid (HX.out.trans e5)
        clear f1 f0 x5 e5 e1
        go_wp2_with fail
        go_roundw
        case rel => exact ⟨p, h, rfl, by go_num, by omega, by omega, by omega, Lib.hid ⟨HI.out.1, HD.out⟩, HX5⟩
        case measure => first | (simp [intOf]; omega) | simp [intOf]
    · have hltz : ¬ (p : Int) < (q : Int) := by omega
      obtain rfl : p = q := by omega
      have e1 : L.take (p - a) ++ L.drop (p - a) = L := List.take_append_drop _ _
      have l1 : (L.take (p - a)).length = p - a := by have := HL.out; simp; omega
      have h1 := HI.out
      have HJ0 : Hid (∃ R1 R2 : List (KlV × Nat), L = R1 ++ R2 ∧ R1.length = p - a ∧ (∀ y ∈ R1, tK y x) ∧ (∀ y ∈ R2, tK x y)) := Lib.hid ⟨_, _, e1.symm, l1, h1.1, h1.2⟩
      clear e1 l1 h1 HI
      obtain ⟨R1, R2, r1, r2, r3, r4⟩ := HJ0.out
      subst r1
      have hr2 : R2.length = m - p := by have := HL.out; simp at this; omega
      have HR2 := Lib.hid (And.intro r2 hr2)
      have HR3 := Lib.hid r3
      have HR4 := Lib.hid r4
      have HOX : Hid (OwnT W0 B wr (some ⟨g, 0, none⟩) len c (P ++ (R1 ++ (R2.take (m - p) ++ (x :: (R2.drop (m - p) ++ S)))))) := Lib.hid (by rw [← hr2, List.take_length, List.drop_length]; simpa using HOW.out.ext HX.out)
      have HGX := Lib.hid (grown_extG (World.grownBy.refl w (some g)) HX.out)
      clear HJ0 r2 r3 r4 HX HOW hr2
      go_wp2_with fail
      go_loopw [17] (fun k ws => ∃ t : Nat, k = .int .i64 (p + t : Nat) ∧ t ≤ m - p ∧ Hid (OwnT W0 B ws (some ⟨g, 0, none⟩) len c (P ++ (R1 ++ (R2.take t ++ (x :: (R2.drop t ++ S)))))) ∧ Hid (w.grownBy ws (some g))) (fun k _ => (intOf k).toNat)
      case atStart => exact ⟨m - p, by go_num, by omega, HOX, HGX⟩
      case round =>
        obtain ⟨t, rfl, htp, HO, HG⟩ := hrel
        rename World => ws
        clear HOX HGX
        by_cases hlt2 : 0 < t
        · obtain ⟨t, rfl⟩ : ∃ t', t = t' + 1 := ⟨t - 1, by omega⟩
          have hltz2 : (p : Int) < ((p + (t + 1) : Nat) : Int) := by omega
          obtain ⟨z, hz⟩ : ∃ z, R2[t]? = some z := ⟨R2[t]'(by have := HR2.out; omega), List.getElem?_eq_getElem _⟩
          obtain ⟨ht1, ht2⟩ := List.getElem?_eq_some_iff.1 hz
          have hd : R2.drop t = z :: R2.drop (t + 1) := by rw [← ht2]; exact List.drop_eq_getElem_cons ht1
          have htk : R2.take (t + 1) = R2.take t ++ [z] := by rw [← ht2]; exact List.take_succ_eq_append_getElem ht1
          have hln : (P ++ (R1 ++ R2.take t)).length = p + t := by have := HL.out; have := HR2.out; simp; omega
          have O1 : OwnT W0 B ws (some ⟨g, 0, none⟩) len c ((P ++ (R1 ++ R2.take t)) ++ z :: x :: (R2.drop (t + 1) ++ S)) := by
            have := HO.out; rw [htk] at this; simpa using this
          obtain ⟨c1, n1, -⟩ := O1.at (p + t) z (by rw [← hln]; simp)
          obtain ⟨c2, n2, -⟩ := O1.at (p + t + 1) x (by rw [← hln, List.getElem?_append_right (by omega)]; simp)
          obtain ⟨g2, hg2, hlen, -, hfr⟩ := O1.head (by simp; omega)
          injection hg2 with hg2
          injection hg2 with hg2
          subst hg2
          have hat : p + t + 1 < len := by rw [hlen]; simp at hln ⊢; omega
          have O2 := O1.swap n1 n2
          rw [hln] at O2
          obtain ⟨p', hp'⟩ : ∃ p', p + t = p' := ⟨_, rfl⟩
          have hp2 : p + (t + 1) = p' + 1 := by omega
          rw [hp'] at O2 c1 c2 hat
          rw [hp2] at hltz2 ⊢
          have G3 := Lib.hid (grown_drewG (st7_only (st7_only (show w.grownBy ws (some g) from HG.out) ((p' + 1) * 7) z.1) (p' * 7) x.1))
          have O3 : Hid (OwnT W0 B (st7 (st7 ws g ((p' + 1) * 7) z.1) g (p' * 7) x.1).drew (some ⟨g, 0, none⟩) len c (P ++ (R1 ++ (R2.take t ++ (x :: (R2.drop t ++ S)))))) := Lib.hid (by rw [hd]; simpa using O2)
          obtain ⟨x', hx'⟩ : ∃ x', x.1 = x' := ⟨_, rfl⟩
          obtain ⟨y', hy'⟩ : ∃ y', z.1 = y' := ⟨_, rfl⟩
          rw [hx', hy'] at O3 G3
          rw [hx'] at c2
          rw [hy'] at c1
          obtain ⟨x0, x1, x2, x3, x4, x5, x6⟩ := c1
          obtain ⟨y0, y1, y2, y3, y4, y5, y6⟩ := c2
          obtain ⟨W, hW⟩ : ∃ W, (st7 (st7 ws g ((p' + 1) * 7) y') g (p' * 7) x').drew = W := ⟨_, rfl⟩
          rw [hW] at O3 G3
          unfold st7 at hW
          have hpl : (p' : Int) + 1 < (len : Int) := by omega
          have hpl0 : (p' : Int) < (len : Int) := by omega
          have p0 : (0 : Int) ≤ (p' : Int) + 1 := by omega
          have p1 : ((p' : Int) + 1).toNat = p' + 1 := by omega
          have hwp : IntKind.i64.wrap (p' : Int) = (p' : Int) := by rw [IntKind.wrap_i64]; omega
          push_cast at hltz2
          clear O1 O2 n1 n2 hd htk hln hlen ht1 ht2 hz hx' hy' hp2
          go_wp2_with fail
          go_region
          try rw [hW]
          clear hW x0 x1 x2 x3 x4 x5 x6 y0 y1 y2 y3 y4 y5 y6 hfr
          go_wp2_with fail
          go_roundw
          case rel => exact ⟨t, by go_num, by omega, O3, G3⟩
          case measure => first | (simp [intOf]; omega) | simp [intOf]
        · obtain rfl : t = 0 := by omega
          have hltz2 : ¬ (p : Int) < ((p + 0 : Nat) : Int) := by omega
          go_wp2
          go_end0
          have h2 := HO.out
          refine ⟨rfl, ⟨R1 ++ x :: R2, ins_done HR.out HR3.out HR4.out, ?_, ?_⟩, HG.out⟩
          · exact List.perm_middle.trans (by simpa using (List.perm_append_comm (l₁ := [x]) (l₂ := R1 ++ R2)))
          · simpa using h2
end Go.Proofs.YtladeaofhdaloaaDoor
namespace Go.Proofs.YtladeaofhdaloaaDoor
open Go.RowKit Go.Maps
set_option linter.unusedVariables false

theorem infoB : (Tryd.prog.info? 4).map (fun i => (i.zero, i.size, i.bytes)) = some (some (.bool false), ShB.n, 1) := by kernel_rfl
def SetEv (s m g n c : Nat) (ns : List Nd) (w : World) : Prop := ∀ W, Ext w W → SetG s m g n c W ns ∧ ∀ (i : Nat) (x : Nd), ns[i]? = some x → NdR W x
theorem SetEv.ext {s m g n c : Nat} {ns : List Nd} {w w' : World} (h : SetEv s m g n c ns w) (e : Ext w w') : SetEv s m g n c ns w' := fun W e2 => h W (e.trans e2)
set_option maxRecDepth 100000 in
set_option maxHeartbeats 4000000 in
theorem cycle_any {s m g n c : Nat} {ns : List Nd} {w : World} {ups : Nat → List Nat} (hE : SetEv s m g n c ns w) (hU : UpsOk ns ups) (hub : ∀ i j, j ∈ ups i → j < n) (h72 : n ≤ 72) (hil : ∀ x ∈ ns, x.is.length ≤ 1000000) (i : Nat) (hi : i < n) (x : Nd) (hx : ns[i]? = some x) :
    Calls Tryd.prog 71 #[.pointer (some ⟨s, 0, none⟩), .int .i64 i] w fun e w' => e = .returned (fv (if ringF ups n i then some (x.k.nm, 91) else none)) ∧ Ext w w' := by
  have hln : ns.length = n := ((hE w (Ext.refl w)).1).len.symm
  have HE := Lib.hid hE
  have HU := Lib.hid hU
  have HUB := Lib.hid hub
  have HIL := Lib.hid hil
  have HLN := Lib.hid hln
  have HX := Lib.hid hx
  have c0 : (w.alloc (.cells #[.pointer (some ⟨s, 0, none⟩)] 24)).cell? ⟨s, 0, none⟩ = some (.slice (some ⟨g, 0, none⟩) n c) := (hE _ ((Ext.refl w).alloc _)).1.c0
  obtain ⟨R, hR⟩ : ∃ R, (if ringF ups n i then some (x.k.nm, 91) else none : Flt) = R := ⟨_, rfl⟩
  have HRR := Lib.hid hR
  rw [hR]
  clear hE hU hub hil hln hx hR
  go_enter Tryd.func71, Tryd.ntmps71
  go_wp2_with (at_make; refine ShB.wpList_make _ rfl _ _ (w.heap.size + 1) 95 _ 1 rfl Tryd.underlying95 infoB rfl (fun _ => trivial) _ _ _ _ n rfl rfl rfl rfl (by omega) (by decide) (by simp) ?_; intro w1 ho1 hg1)
  have hs1 : (w.alloc (.cells #[.pointer (some ⟨s, 0, none⟩)] 24)).heap.size = w.heap.size + 1 := by simp
  rw [hs1] at ho1
  have hw1 : w.heap.size + 1 < w1.heap.size := by have := Shp.Own.high ho1 _ rfl; exact this
  have HO1 := Lib.hid ho1
  have HG1 := Lib.hid hg1
  have HX1 := Lib.hid (((Ext.refl w).alloc (.cells #[.pointer (some ⟨s, 0, none⟩)] 24)).grown hg1 (fun g h => by cases h))
  clear ho1 hg1 c0
  go_wp2_with fail
  obtain ⟨fv0, hfv⟩ : ∃ fv0, (Value.func (.func 87) #[] #[.pointer (some ⟨w.heap.size, 0, none⟩), .pointer (some ⟨w1.heap.size, 0, none⟩), .pointer (some ⟨w1.heap.size + 1, 0, none⟩)]) = fv0 := ⟨_, rfl⟩
  obtain ⟨W, hW⟩ : ∃ W, ((w1.alloc (.cells #[.slice (some ⟨w.heap.size + 1, 0, none⟩) n n] 95)).alloc (.cells #[fv0] 94)) = W := ⟨_, rfl⟩
  rw [hfv]
  rw [hW]
  have hb_s : W.heap[w.heap.size]? = some (.cells #[.pointer (some ⟨s, 0, none⟩)] 24 (0, 0)) := by
    rw [← hW, heap_alloc_old _ _ (by simp; omega), heap_alloc_old _ _ (by omega), HG1.out.block _ (by simp) (by simp)]
    exact heap_alloc_new w _
  have hb_n : W.heap[w1.heap.size]? = some (.cells #[.slice (some ⟨w.heap.size + 1, 0, none⟩) n n] 95 (0, 0)) := by
    rw [← hW, heap_alloc_old _ _ (by simp)]
    exact heap_alloc_new w1 _
  have hb_v : W.heap[w1.heap.size + 1]? = some (.cells #[fv0] 94 (0, 0)) := by
    rw [← hW]
    have := heap_alloc_new (w1.alloc (.cells #[.slice (some ⟨w.heap.size + 1, 0, none⟩) n n] 95)) (.cells #[fv0] 94)
    rw [show (w1.alloc (.cells #[.slice (some ⟨w.heap.size + 1, 0, none⟩) n n] 95)).heap.size = w1.heap.size + 1 by simp] at this
    exact this
  have hsz : W.heap.size = w1.heap.size + 2 := by rw [← hW]; simp
  have hX : Ext w W := by rw [← hW]; exact (HX1.out.alloc _).alloc _
  have HOW := Lib.hid (show ShB.Own (w.heap.size + 1) W (.slice (some ⟨w.heap.size + 1, 0, none⟩) n n) (List.replicate n false) from by rw [← hW]; exact HO1.out.ext (((Ext.refl w1).alloc _).alloc _))
  have HEV : Hid (∀ W', W.grownBy W' (some (w.heap.size + 1)) → CyEnv s m g n c w.heap.size w1.heap.size (w1.heap.size + 1) (w.heap.size + 1) ns W') := Lib.hid fun W' hg => by
    have e1 : Ext w W' := hX.grown hg (fun q h => by injection h with h; omega)
    have hv := HE.out W' e1
    refine ⟨hv.1, fun i x hx => (hv.2 i x hx).vs, ?_, ?_, ?_⟩
    · exact (hg.cell (by rw [cell_of_row W _ 0 _ _ (0, 0) hb_s]; rfl) (by intro h; injection h with h; simp at h))
    · exact (hg.cell (by rw [cell_of_row W _ 0 _ _ (0, 0) hb_n]; rfl) (by intro h; injection h with h; simp only at h; omega))
    · rw [hfv]
      exact (hg.cell (by rw [cell_of_row W _ 0 _ _ (0, 0) hb_v]; rfl) (by intro h; injection h with h; simp only at h; omega))
  have HC := Lib.hid (visit_any ups n s m g n c w.heap.size w1.heap.size (w1.heap.size + 1) (w.heap.size + 1) (w.heap.size + 1) ns W W (List.replicate n false) i HEV.out HU.out HLN.out h72 HIL.out (Nat.le_refl _) (by omega) (World.grownBy.refl _ _) (Nat.le_trans List.count_le_length (by simp)) hi (by simp) HOW.out)
  have HXW := Lib.hid hX
  have HFV := Lib.hid hfv
  have hw2 : w.heap.size + 1 < W.heap.size := by omega
  have HRG := Lib.hid (fun m2 (h : Vis ups (List.replicate n false) m2 (ups i)) => (h.ring).trans (ring_iff (n := n) HUB.out i).symm)
  clear hW hb_s hb_n hb_v hsz hX HOW HO1 HG1 HX1 hw1 hs1 hfv
  refine HC.out.mono ?_
  rintro e0 w5 ⟨rfl, q1, m2, q2, q3⟩
  have env := HEV.out w5 q1
  have hlm : m2.length = n := q2.len.trans (by simp)
  have y1 := boolAt q3 i (by omega)
  have hbit : gbl m2 i = ringF ups n i := by
    have := HRG.out m2 q2
    cases e1 : gbl m2 i <;> cases e2 : ringF ups n i
    · rfl
    · rw [e1, e2] at this; exact absurd (this.2 rfl) (by simp)
    · rw [e1, e2] at this; exact absurd (this.1 rfl) (by simp)
    · rfl
  rw [hbit] at y1
  have HX5 := Lib.hid (HXW.out.grown q1 (fun q h => by injection h with h; omega))
  have e5 := (Ext.refl w5).drew
  have ev5 := (HE.out.ext HX5.out) _ e5
  have HNN := Lib.hid (node_in ev5.1 i hi h72)
  obtain ⟨_, z1, _⟩ := ev5.1.node i x HX.out
  obtain ⟨rb, hrb⟩ : ∃ rb, ringF ups n i = rb := ⟨_, rfl⟩
  have HRR2 : Hid ((if rb then some (x.k.nm, 91) else none : Flt) = R) := Lib.hid (by rw [← hrb]; exact HRR.out)
  rw [hrb] at y1
  have HFF := Lib.hid (fails_at (w := w5.drew) (g := g) (i * 11) x.k.nm rb 91 z1)
  have f1 := env.cs
  have f2 := env.cn
  have iz : (i : Int) < (n : Int) := by omega
  clear q1 q2 q3 env hlm hbit HC HEV hrb ev5 HRG HRR
  cases rb
  case false =>
    simp only [Bool.false_eq_true, if_false] at HFF HRR2
    go_wp2_with fail
    go_region_held3 (fun w' => w'.cell? ⟨w.heap.size, 0, none⟩ = some (.pointer (some ⟨s, 0, none⟩)) ∧ w'.cell? ⟨w1.heap.size, 0, none⟩ = some (.slice (some ⟨w.heap.size + 1, 0, none⟩) n n) ∧ w'.cell? ⟨w.heap.size + 1, i, none⟩ = some (.bool false)) (first | go_keep | assumption) (first
      | (go_at_call 52; (with_reducible refine HNN.out.mono ?_); rintro e6 w6 ⟨rfl, rfl⟩)
      | (go_at_call 86; (with_reducible refine HFF.out.mono ?_); rintro e6 w6 ⟨rfl, rfl⟩))
    go_wp2
    go_ret2
    exact ⟨by rw [← HRR2.out]; rfl, HX5.out.drew⟩
  case true =>
    simp only [if_true] at HFF HRR2
    go_wp2_with fail
    go_region_held3 (fun w' => w'.cell? ⟨w.heap.size, 0, none⟩ = some (.pointer (some ⟨s, 0, none⟩)) ∧ w'.cell? ⟨w1.heap.size, 0, none⟩ = some (.slice (some ⟨w.heap.size + 1, 0, none⟩) n n) ∧ w'.cell? ⟨w.heap.size + 1, i, none⟩ = some (.bool true)) (first | go_keep | assumption) (first
      | (go_at_call 52; (with_reducible refine HNN.out.mono ?_); rintro e6 w6 ⟨rfl, rfl⟩)
      | (go_at_call 86; (with_reducible refine HFF.out.mono ?_); rintro e6 w6 ⟨rfl, rfl⟩))
    go_wp2
    go_ret2
    exact ⟨by rw [← HRR2.out]; rfl, HX5.out.drew⟩
end Go.Proofs.YtladeaofhdaloaaDoor
