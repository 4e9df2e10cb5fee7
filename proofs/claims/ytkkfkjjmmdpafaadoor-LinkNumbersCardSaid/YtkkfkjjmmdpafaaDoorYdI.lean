/- Several texts of this proof, one behind the other. -/
import Derived.Test.YtkkfkjjmmdpafaaDoorYdG
import Derived.Deep.CutRange
namespace Go.Proofs.YtkkfkjjmmdpafaaDoor
open Go.RowKit
set_option linter.unusedVariables false

def SymOk (N : Nat) : Prop := ∀ (W0 w : World) (B a m b len c g : Nat) (P L R S : List (KlV × Nat)), L.length + R.length ≤ N → 0 < L.length → 0 < R.length → P.length = a → a + L.length = m → m + R.length = b →
  Srt tK L → Srt tK R → Agr (fun a b => cbK a.1 b.1) tK L R → OwnT W0 B w (some ⟨g, 0, none⟩) len c (P ++ (L ++ (R ++ S))) → (P ++ (L ++ (R ++ S))).length ≤ 64 →
  Calls Tryd.prog 93 #[.slice (some ⟨g, 0, none⟩) len c, .int .i64 a, .int .i64 m, .int .i64 b, cmpV] w (Merged W0 B g len c P L R S w)
def LoS (a mid : Nat) (L R : List (KlV × Nat)) (s : Nat) : Prop := s = a ∨ mid = s + R.length ∨ ∃ x y, L[s - a - 1]? = some x ∧ R[mid - s]? = some y ∧ tK x y
def HiS (a m mid : Nat) (L R : List (KlV × Nat)) (s : Nat) : Prop := s = m ∨ s = mid ∨ ∃ x y, R[mid - s - 1]? = some x ∧ L[s - a]? = some y ∧ tK x y
theorem cutS {a m mid : Nat} {L R : List (KlV × Nat)} {s : Nat} (hL : Srt tK L) (hR : Srt tK R) (hm : a + L.length = m) (h1 : a ≤ s) (h2 : s ≤ m) (h3 : s ≤ mid) (h4 : mid ≤ s + R.length) (hl : LoS a mid L R s) (hh : HiS a m mid L R s) :
    ∃ L1 L2 R1 R2, L = L1 ++ L2 ∧ R = R1 ++ R2 ∧ L1.length = s - a ∧ R1.length = mid - s ∧ ∀ x, x ∈ L1 ++ R1 → ∀ y, y ∈ L2 ++ R2 → tK x y := by
  refine ⟨L.take (s - a), L.drop (s - a), R.take (mid - s), R.drop (mid - s), (List.take_append_drop _ _).symm, (List.take_append_drop _ _).symm, by simp; omega, by simp; omega, ?_⟩
  refine sym_split (tl_tr swoK) hL hR (by omega) (by omega) ?_ ?_
  · rcases hl with h | h | h
    · exact .inl (by omega)
    · exact .inr (.inl (by omega))
    · exact .inr (.inr h)
  · rcases hh with h | h | h
    · exact .inl (by omega)
    · exact .inr (.inl (by omega))
    · exact .inr (.inr h)
theorem perm_four {α : Type} {E1 E2 L1 L2 R1 R2 : List α} (h1 : E1.Perm (L1 ++ R1)) (h2 : E2.Perm (L2 ++ R2)) : (E1 ++ E2).Perm ((L1 ++ L2) ++ (R1 ++ R2)) := by
  refine (h1.append h2).trans ?_
  rw [List.append_assoc, List.append_assoc]
  refine List.Perm.append_left L1 ?_
  rw [← List.append_assoc, ← List.append_assoc]
  exact List.Perm.append_right R2 List.perm_append_comm
set_option maxRecDepth 100000 in
set_option maxHeartbeats 8000000 in
theorem symMerge_two {N : Nat} (ih : SymOk N) {W0 w : World} {B a m b len c g : Nat} (P L R S : List (KlV × Nat)) (hN : L.length + R.length ≤ N + 1) (hL1 : 2 ≤ L.length) (hR1 : 2 ≤ R.length) (ha : P.length = a) (hm : a + L.length = m) (hb : m + R.length = b)
    (hL : Srt tK L) (hR : Srt tK R) (hag : Agr (fun a b => cbK a.1 b.1) tK L R) (ho : OwnT W0 B w (some ⟨g, 0, none⟩) len c (P ++ (L ++ (R ++ S)))) (hl : (P ++ (L ++ (R ++ S))).length ≤ 64) :
    Calls Tryd.prog 93 #[.slice (some ⟨g, 0, none⟩) len c, .int .i64 a, .int .i64 m, .int .i64 b, cmpV] w (Merged W0 B g len c P L R S w) := by
  have hl2 : P.length + (L.length + (R.length + S.length)) ≤ 64 := by simpa using hl
  have hb64 : b ≤ 64 := by omega
  have HL := Lib.hid (And.intro ha (And.intro hm (And.intro hb hl2)))
  have HLR := Lib.hid (And.intro hL hR)
  have HAG := Lib.hid hag
  have HOW := Lib.hid ho
  have HIH := Lib.hid ih
  have HN := Lib.hid hN
  have hma : ((m : Int) - (a : Int) == 1) = false := by
    rw [beq_eq_false_iff_ne]
    omega
  have hbm : ((b : Int) - (m : Int) == 1) = false := by
    rw [beq_eq_false_iff_ne]
    omega
  have ham : a + 2 ≤ m := by omega
  have hmb : m + 2 ≤ b := by omega
  obtain ⟨lb, hlb⟩ : ∃ lb, R.length = lb := ⟨_, rfl⟩
  have hlb2 : m + lb = b := by omega
  have HLB := Lib.hid hlb
  obtain ⟨mid, hmid⟩ : ∃ mid, (a + b) / 2 = mid := ⟨_, rfl⟩
  have hmidz : ((a : Int) + (b : Int)) / 2 = (mid : Int) := by omega
  have hmid1 : 2 * mid ≤ a + b := by omega
  have hmid2 : a + b ≤ 2 * mid + 1 := by omega
  clear ha hm hb hL hR hag ho hl hl2 ih hN hL1 hR1 hlb hmid
  go_enter Tryd.func93, Tryd.ntmps93
  go_upto_if 140 with fail
  go_cut [20, 21] from 138 (fun st rt wx => wx = w ∧ ∃ s r : Nat, st = .int .i64 s ∧ rt = .int .i64 r ∧ a ≤ s ∧ s ≤ r ∧ r ≤ m ∧ r ≤ mid ∧ mid ≤ s + lb ∧ Hid (LoS a mid L R s) ∧ Hid (HiS a m mid L R r))
  case first =>
    by_cases hc : mid < m
    · have hcz : (mid : Int) < (m : Int) := by omega
      go_wp2_with fail
      go_meet
      exact ⟨rfl, mid + m - b, mid, by go_num, rfl, by omega, by omega, by omega, Nat.le_refl _, by omega, Lib.hid (.inr (.inl (by have := HLB.out; omega))), Lib.hid (.inr (.inl rfl))⟩
    · have hcz : ¬ (mid : Int) < (m : Int) := by omega
      go_wp2_with fail
      go_meet
      exact ⟨rfl, a, m, rfl, rfl, Nat.le_refl _, by omega, Nat.le_refl _, by omega, by omega, Lib.hid (.inl rfl), Lib.hid (.inl rfl)⟩
  case rest =>
    obtain ⟨rfl, s0, r0, rfl, rfl, h1, h2, h3, h4, h5, HLo, HHi⟩ := hcut
    rename World => wz
    go_wp2_with fail
    go_loopw [20, 21] (fun i j wr => ∃ s r : Nat, i = .int .i64 s ∧ j = .int .i64 r ∧ a ≤ s ∧ s ≤ r ∧ r ≤ m ∧ r ≤ mid ∧ mid ≤ s + lb ∧ Hid (LoS a mid L R s) ∧ Hid (HiS a m mid L R r) ∧ Hid (Ext wz wr)) (fun i j _ => (intOf j).toNat - (intOf i).toNat)
    case atStart => exact ⟨s0, r0, rfl, rfl, h1, h2, h3, h4, h5, HLo, HHi, Lib.hid (Ext.refl _)⟩
    case round =>
      clear h1 h2 h3 h4 h5 HLo HHi s0 r0
      obtain ⟨s, r, rfl, rfl, h1, h2, h3, h4, h5, HLo, HHi, HX⟩ := hrel
      rename World => wr
      by_cases hlt : s < r
      · have hltz : (s : Int) < (r : Int) := by omega
        obtain ⟨h, hh⟩ : ∃ h, (s + r) / 2 = h := ⟨_, rfl⟩
        have hh2 : ((s : Int) + (r : Int)) / 2 = (h : Int) := by omega
        have hph : s ≤ h := by omega
        have hhq : h < r := by omega
        obtain ⟨d, hd⟩ : ∃ d, mid + m - 1 - h = d := ⟨_, rfl⟩
        have hdz : (mid : Int) + (m : Int) - 1 - (h : Int) = (d : Int) := by omega
        have hwd : IntKind.i64.wrap ((mid : Int) + (m : Int) - 1 - (h : Int)) = (d : Int) := by rw [IntKind.wrap_i64]; omega
        have hwd2 : IntKind.i64.wrap (d : Int) = (d : Int) := by rw [IntKind.wrap_i64]; omega
        have HO := Lib.hid (HOW.out.ext HX.out)
        obtain ⟨x, hx⟩ : ∃ x, L[h - a]? = some x := ⟨L[h - a]'(by have := HL.out; omega), List.getElem?_eq_getElem _⟩
        obtain ⟨y, hy⟩ : ∃ y, R[mid - h - 1]? = some y := ⟨R[mid - h - 1]'(by have := HLB.out; omega), List.getElem?_eq_getElem _⟩
        have hp : (P ++ (L ++ (R ++ S)))[d]? = some y := by
          have := HL.out
          have hy2 := (List.getElem?_eq_some_iff.1 hy).1
          rw [List.getElem?_append_right (by omega), List.getElem?_append_right (by omega), List.getElem?_append_left (by omega), ← hy]
          congr 1
          omega
        have hq : (P ++ (L ++ (R ++ S)))[h]? = some x := by
          have := HL.out
          have hx2 := (List.getElem?_eq_some_iff.1 hx).1
          rw [List.getElem?_append_right (by omega), List.getElem?_append_left (by omega), ← hx]
          congr 1
          omega
        have hord := HAG.out x (List.mem_of_getElem? hx) y (List.mem_of_getElem? hy)
        have hdec : (Hid (LoS a mid L R (h + 1)) ∧ ¬ cfK y.1 x.1 < 0) ∨ (Hid (HiS a m mid L R h) ∧ cfK y.1 x.1 < 0) := by
          cases e : cbK y.1 x.1
          · exact .inl ⟨.inr (.inr ⟨x, y, by rw [show h + 1 - a - 1 = h - a by omega]; exact hx, by rw [show mid - (h + 1) = mid - h - 1 by omega]; exact hy, hord.2 e⟩), cf_no e⟩
          · exact .inr ⟨.inr (.inr ⟨y, x, hy, hx, hord.1 e⟩), cf_yes e⟩
        have HFF := cmp_facts HO.out hp hq
        have hpl : d < len := HFF.1
        have hql : h < len := HFF.2.1
        obtain ⟨x', hx'⟩ : ∃ x', y.1 = x' := ⟨_, rfl⟩
        obtain ⟨y', hy'⟩ : ∃ y', x.1 = y' := ⟨_, rfl⟩
        have HF := Lib.hid HFF.2.2
        rw [hx', hy'] at HF
        have HXY := Lib.hid (And.intro hx' hy')
        have HC := Lib.hid (fun W => cmp_any x' y' W)
        have e1 := (Ext.refl wr).drew
        have f0 := HF.out _ e1
        unfold AtK at f0
        rw [hx', hy'] at hdec
        obtain ⟨rv, hr⟩ : ∃ rv, cfK x' y' = rv := ⟨_, rfl⟩
        rw [hr] at hdec HC
        have hplz : (d : Int) < (len : Int) := by omega
        have hqlz : (h : Int) < (len : Int) := by omega
        clear HFF hx' hy' hr
        unfold KlV.vals at HC
        clear hp hq hord hx hy hd hh
        rcases hdec with ⟨HD, hneg⟩ | ⟨HD, hneg⟩
        · have hnb : decide (rv < 0) = false := decide_eq_false hneg
          go_wp2_with fail
          go_region_held3 (fun w' => w'.cell? ⟨g, d * 7, none⟩ = some (.slice x'.vp.A x'.vp.n x'.vp.c) ∧ w'.cell? ⟨g, d * 7 + 1, none⟩ = some (.string x'.k.nm) ∧ w'.cell? ⟨g, d * 7 + 2, none⟩ = some (.string x'.k.sup) ∧ w'.cell? ⟨g, d * 7 + 3, none⟩ = some (.bool x'.k.inf) ∧ w'.cell? ⟨g, d * 7 + 4, none⟩ = some (.slice x'.vi.A x'.vi.n x'.vi.c) ∧ w'.cell? ⟨g, d * 7 + 5, none⟩ = some (.slice x'.vf.A x'.vf.n x'.vf.c) ∧ w'.cell? ⟨g, d * 7 + 6, none⟩ = some (.slice x'.vm.A x'.vm.n x'.vm.c) ∧ w'.cell? ⟨g, h * 7, none⟩ = some (.slice y'.vp.A y'.vp.n y'.vp.c) ∧ w'.cell? ⟨g, h * 7 + 1, none⟩ = some (.string y'.k.nm) ∧ w'.cell? ⟨g, h * 7 + 2, none⟩ = some (.string y'.k.sup) ∧ w'.cell? ⟨g, h * 7 + 3, none⟩ = some (.bool y'.k.inf) ∧ w'.cell? ⟨g, h * 7 + 4, none⟩ = some (.slice y'.vi.A y'.vi.n y'.vi.c) ∧ w'.cell? ⟨g, h * 7 + 5, none⟩ = some (.slice y'.vf.A y'.vf.n y'.vf.c) ∧ w'.cell? ⟨g, h * 7 + 6, none⟩ = some (.slice y'.vm.A y'.vm.n y'.vm.c)) (first | go_keep | with_reducible assumption | assumption) (first
            | (go_at_call 65; (with_reducible refine (HC.out _).mono ?_); rintro e w5 ⟨rfl, x5⟩; have e5 := e1.grown x5 (fun g h => by cases h); have f1 := HF.out w5 e5; unfold AtK at f1))
          have HX5 := Lib.hid (HX.out.trans e5)
          clear f1 f0 x5 e5 e1
          go_wp2_with fail
          go_roundw
          case rel => exact ⟨h + 1, r, by go_num, rfl, by omega, by omega, h3, h4, by omega, HD, HHi, HX5⟩
          case measure => first | (simp [intOf]; omega) | simp [intOf]
        · have hnb : decide (rv < 0) = true := decide_eq_true hneg
          go_wp2_with fail
          go_region_held3 (fun w' => w'.cell? ⟨g, d * 7, none⟩ = some (.slice x'.vp.A x'.vp.n x'.vp.c) ∧ w'.cell? ⟨g, d * 7 + 1, none⟩ = some (.string x'.k.nm) ∧ w'.cell? ⟨g, d * 7 + 2, none⟩ = some (.string x'.k.sup) ∧ w'.cell? ⟨g, d * 7 + 3, none⟩ = some (.bool x'.k.inf) ∧ w'.cell? ⟨g, d * 7 + 4, none⟩ = some (.slice x'.vi.A x'.vi.n x'.vi.c) ∧ w'.cell? ⟨g, d * 7 + 5, none⟩ = some (.slice x'.vf.A x'.vf.n x'.vf.c) ∧ w'.cell? ⟨g, d * 7 + 6, none⟩ = some (.slice x'.vm.A x'.vm.n x'.vm.c) ∧ w'.cell? ⟨g, h * 7, none⟩ = some (.slice y'.vp.A y'.vp.n y'.vp.c) ∧ w'.cell? ⟨g, h * 7 + 1, none⟩ = some (.string y'.k.nm) ∧ w'.cell? ⟨g, h * 7 + 2, none⟩ = some (.string y'.k.sup) ∧ w'.cell? ⟨g, h * 7 + 3, none⟩ = some (.bool y'.k.inf) ∧ w'.cell? ⟨g, h * 7 + 4, none⟩ = some (.slice y'.vi.A y'.vi.n y'.vi.c) ∧ w'.cell? ⟨g, h * 7 + 5, none⟩ = some (.slice y'.vf.A y'.vf.n y'.vf.c) ∧ w'.cell? ⟨g, h * 7 + 6, none⟩ = some (.slice y'.vm.A y'.vm.n y'.vm.c)) (first | go_keep | with_reducible assumption | assumption) (first
            | (go_at_call 65; (with_reducible refine (HC.out _).mono ?_); rintro e w5 ⟨rfl, x5⟩; have e5 := e1.grown x5 (fun g h => by cases h); have f1 := HF.out w5 e5; unfold AtK at f1))
          have HX5 := Lib.hid (HX.out.trans e5)
          clear f1 f0 x5 e5 e1
          go_wp2_with fail
          go_roundw
          case rel => exact ⟨s, h, rfl, by go_num, h1, by omega, by omega, by omega, h5, HLo, HD, HX5⟩
          case measure => first | (simp [intOf]; omega) | simp [intOf]
      · have hltz : ¬ (s : Int) < (r : Int) := by omega
        obtain rfl : s = r := by omega
        have hab : s < m ∧ s < mid ∨ True := .inr trivial
        obtain ⟨L1, L2, R1, R2, q1, q2, q3, q4, q5⟩ := cutS HLR.out.1 HLR.out.2 HL.out.2.1 h1 h3 h4 (by have := HLB.out; omega) HLo.out HHi.out
        have hL2 : L2.length = m - s := by have := HL.out; have h := congrArg List.length q1; simp at h; omega
        have hR2 : R2.length + mid = s + lb := by have := HLB.out; have h := congrArg List.length q2; simp at h; omega
        have hSL := HLR.out.1
        rw [q1] at hSL
        have hSR := HLR.out.2
        rw [q2] at hSR
        have hSL := Srt.app.1 hSL
        have hSR := Srt.app.1 hSR
        have hA1 : Agr (fun a b => cbK a.1 b.1) tK L1 R1 := HAG.out.perm (fun x hx => by rw [q1]; exact List.mem_append.2 (.inl hx)) (fun x hx => by rw [q2]; exact List.mem_append.2 (.inl hx))
        have hA2 : Agr (fun a b => cbK a.1 b.1) tK L2 R2 := HAG.out.perm (fun x hx => by rw [q1]; exact List.mem_append.2 (.inr hx)) (fun x hx => by rw [q2]; exact List.mem_append.2 (.inr hx))
        have HO := Lib.hid (HOW.out.ext HX.out)
        rw [q1, q2] at HO
        have HG := Lib.hid (grown_extG (World.grownBy.refl wz (some g)) HX.out)
        obtain ⟨e, he⟩ : ∃ e, mid + m - s = e := ⟨_, rfl⟩
        have hez : (mid : Int) + (m : Int) - (s : Int) = (e : Int) := by omega
        have HQ := Lib.hid (And.intro q3 (And.intro q4 (And.intro hL2 hR2)))
        have HQ5 := Lib.hid q5
        have HS1 := Lib.hid (And.intro hSL.1 (And.intro hSR.1 hA1))
        have HS2 := Lib.hid (And.intro hSL.2.1 (And.intro hSR.2.1 hA2))
        have HQ1 := Lib.hid (And.intro q1 q2)
        clear q1 q2 q3 q4 q5 hL2 hR2 hSL hSR hA1 hA2 HLo HHi HX HOW HAG HLR hab
        go_upto_region 39 with fail
        go_cut [185] from 178 (fun tb wx => wx = wr ∧ ∃ bb, tb = .bool bb ∧ Hid (bb = true ↔ s < m ∧ m < e))
        case first =>
          by_cases k1 : s < m
          · have k1z : ((s : Nat) : Int) < ((m : Nat) : Int) := by omega
            by_cases k2 : m < e
            · have k2z : ((m : Nat) : Int) < ((e : Nat) : Int) := by omega
              go_wp2_with fail
              go_meet
              exact ⟨rfl, true, rfl, Lib.hid ⟨fun _ => ⟨k1, k2⟩, fun _ => rfl⟩⟩
            · have k2z : ¬ ((m : Nat) : Int) < ((e : Nat) : Int) := by omega
              go_wp2_with fail
              go_meet
              exact ⟨rfl, false, rfl, Lib.hid ⟨fun h => (by cases h), fun h => absurd h.2 k2⟩⟩
          · have k1z : ¬ ((s : Nat) : Int) < ((m : Nat) : Int) := by omega
            go_wp2_with fail
            go_meet
            exact ⟨rfl, false, rfl, Lib.hid ⟨fun h => (by cases h), fun h => absurd h.1 k1⟩⟩
        case rest =>
          obtain ⟨rfl, b1, rfl, Hb1⟩ := hcut
          rename World => wr
          go_upto_if 185 with fail
          go_cut [24] from 186 (fun en wx => en = .int .i64 e ∧ Hid (OwnT W0 B wx (some ⟨g, 0, none⟩) len c (P ++ (L1 ++ (R1 ++ (L2 ++ (R2 ++ S)))))) ∧ Hid (wz.grownBy wx (some g)))
          case first =>
            cases b1
            case true =>
              obtain ⟨k1, k2⟩ := Hb1.out.1 rfl
              go_wp2_with fail
              refine (rotate_any (W0 := W0) (B := B) (a := s) (m := m) (b := e) ((P ++ L1).map Prod.fst) (L2.map Prod.fst) (R1.map Prod.fst) ((R2 ++ S).map Prod.fst) (by have := HQ.out; simp; omega) (by have := HQ.out; simp; omega) (by have := HQ.out; have := HL.out; simp; omega) (by have := HQ.out; have := HL.out; simp; omega) (by have := HQ.out; simp; omega) (by have := HO.out; unfold OwnT at this; simpa using this) (by have := HQ.out; have := HL.out; have := HLB.out; simp; omega)).mono ?_
              rintro e' w' ⟨rfl, o1, o2⟩
              have HO2 : Hid (OwnT W0 B w' (some ⟨g, 0, none⟩) len c (P ++ (L1 ++ (R1 ++ (L2 ++ (R2 ++ S)))))) := Lib.hid (by unfold OwnT; simpa using o1)
              have HG2 := Lib.hid (HG.out.trans o2)
              clear o1 o2
              go_wp2_with fail
              go_meet
              exact ⟨rfl, HO2, HG2⟩
            case false =>
              go_wp2_with fail
              go_meet
              refine ⟨rfl, Lib.hid ?_, HG⟩
              by_cases k1 : s < m
              · have k2 : ¬ m < e := fun k2 => by have := Hb1.out.2 ⟨k1, k2⟩; cases this
                obtain rfl : R1 = [] := List.eq_nil_of_length_eq_zero (by have := HQ.out; omega)
                simpa using HO.out
              · obtain rfl : L2 = [] := List.eq_nil_of_length_eq_zero (by have := HQ.out; omega)
                simpa using HO.out
          case rest =>
            clear HO HG Hb1
            obtain ⟨rfl, HO, HG⟩ := hcut
            rename World => wd
            go_upto_region 41 with fail
            go_cut [199] from 192 (fun tb wx => wx = wd ∧ ∃ bb, tb = .bool bb ∧ Hid (bb = true ↔ a < s ∧ s < mid))
            case first =>
              by_cases k1 : a < s
              · have k1z : ((a : Nat) : Int) < ((s : Nat) : Int) := by omega
                by_cases k2 : s < mid
                · have k2z : ((s : Nat) : Int) < ((mid : Nat) : Int) := by omega
                  go_wp2_with fail
                  go_meet
                  exact ⟨rfl, true, rfl, Lib.hid ⟨fun _ => ⟨k1, k2⟩, fun _ => rfl⟩⟩
                · have k2z : ¬ ((s : Nat) : Int) < ((mid : Nat) : Int) := by omega
                  go_wp2_with fail
                  go_meet
                  exact ⟨rfl, false, rfl, Lib.hid ⟨fun h => (by cases h), fun h => absurd h.2 k2⟩⟩
              · have k1z : ¬ ((a : Nat) : Int) < ((s : Nat) : Int) := by omega
                go_wp2_with fail
                go_meet
                exact ⟨rfl, false, rfl, Lib.hid ⟨fun h => (by cases h), fun h => absurd h.1 k1⟩⟩
            case rest =>
              obtain ⟨rfl, b2, rfl, Hb2⟩ := hcut
              rename World => wd
              go_upto_if 199 with fail
              go_cut [24] from 200 (fun en wx => en = .int .i64 e ∧ Hid (∃ E1, Srt tK E1 ∧ E1.Perm (L1 ++ R1) ∧ OwnT W0 B wx (some ⟨g, 0, none⟩) len c (P ++ (E1 ++ (L2 ++ (R2 ++ S))))) ∧ Hid (wz.grownBy wx (some g)))
              case first =>
                cases b2
                case true =>
                  obtain ⟨k1, k2⟩ := Hb2.out.1 rfl
                  go_wp2_with fail
                  refine (HIH.out W0 wd B a s mid len c g P L1 R1 (L2 ++ (R2 ++ S)) (by have := HQ.out; have := HN.out; have := HL.out; have := HLB.out; omega) (by have := HQ.out; omega) (by have := HQ.out; omega) HL.out.1 (by have := HQ.out; omega) (by have := HQ.out; omega) HS1.out.1 HS1.out.2.1 HS1.out.2.2 HO.out (by have := HQ.out; have := HL.out; have := HLB.out; simp; omega)).mono ?_
                  rintro e' w' ⟨rfl, o1, o2⟩
                  have HO2 := Lib.hid o1
                  have HG2 := Lib.hid (HG.out.trans o2)
                  clear o1 o2
                  go_wp2_with fail
                  go_meet
                  exact ⟨rfl, HO2, HG2⟩
                case false =>
                  go_wp2_with fail
                  go_meet
                  refine ⟨rfl, Lib.hid ⟨L1 ++ R1, ?_, List.Perm.refl _, by simpa using HO.out⟩, HG⟩
                  by_cases k1 : a < s
                  · have k2 : ¬ s < mid := fun k2 => by have := Hb2.out.2 ⟨k1, k2⟩; cases this
                    obtain rfl : R1 = [] := List.eq_nil_of_length_eq_zero (by have := HQ.out; omega)
                    simpa using HS1.out.1
                  · obtain rfl : L1 = [] := List.eq_nil_of_length_eq_zero (by have := HQ.out; omega)
                    simpa using HS1.out.2.1
              case rest =>
                clear HO HG Hb2
                obtain ⟨rfl, HE, HG⟩ := hcut
                rename World => we
                go_upto_region 43 with fail
                go_cut [213] from 206 (fun tb wx => wx = we ∧ ∃ bb, tb = .bool bb ∧ Hid (bb = true ↔ mid < e ∧ e < b))
                case first =>
                  by_cases k1 : mid < e
                  · have k1z : ((mid : Nat) : Int) < ((e : Nat) : Int) := by omega
                    by_cases k2 : e < b
                    · have k2z : ((e : Nat) : Int) < ((b : Nat) : Int) := by omega
                      go_wp2_with fail
                      go_meet
                      exact ⟨rfl, true, rfl, Lib.hid ⟨fun _ => ⟨k1, k2⟩, fun _ => rfl⟩⟩
                    · have k2z : ¬ ((e : Nat) : Int) < ((b : Nat) : Int) := by omega
                      go_wp2_with fail
                      go_meet
                      exact ⟨rfl, false, rfl, Lib.hid ⟨fun h => (by cases h), fun h => absurd h.2 k2⟩⟩
                  · have k1z : ¬ ((mid : Nat) : Int) < ((e : Nat) : Int) := by omega
                    go_wp2_with fail
                    go_meet
                    exact ⟨rfl, false, rfl, Lib.hid ⟨fun h => (by cases h), fun h => absurd h.1 k1⟩⟩
                case rest =>
                  obtain ⟨rfl, b3, rfl, Hb3⟩ := hcut
                  rename World => we
                  obtain ⟨E1, t1, t2, t3⟩ := HE.out
                  have hE1 : E1.length = s - a + (mid - s) := by have := HQ.out; have h := t2.length_eq; simp at h; omega
                  have hx1 : ∀ x, x ∈ E1 → x ∈ L1 ++ R1 := fun x hx => t2.mem_iff.1 hx
                  have HT := Lib.hid (And.intro t1 (And.intro t2 hx1))
                  have HO := Lib.hid t3
                  have HE1 := Lib.hid hE1
                  clear t1 t2 t3 hE1 hx1 HE
                  cases b3
                  case true =>
                    obtain ⟨k1, k2⟩ := Hb3.out.1 rfl
                    go_wp2_with fail
                    refine (HIH.out W0 we B mid e b len c g (P ++ E1) L2 R2 S (by have := HQ.out; have := HN.out; have := HL.out; have := HLB.out; omega) (by have := HQ.out; omega) (by have := HQ.out; have := HLB.out; omega) (by have := HE1.out; have := HL.out; simp; omega) (by have := HQ.out; omega) (by have := HQ.out; omega) HS2.out.1 HS2.out.2.1 HS2.out.2.2 (by simpa using HO.out) (by have := HQ.out; have := HL.out; have := HLB.out; have := HE1.out; simp; omega)).mono ?_
                    rintro e' w' ⟨rfl, ⟨E2, o1, o2, o3⟩, o4⟩
                    have HZ := Lib.hid (And.intro o1 (And.intro o2 o3))
                    have HG2 := Lib.hid (HG.out.trans o4)
                    clear o1 o2 o3 o4
                    go_wp2
                    go_end0
                    obtain ⟨o1, o2, o3⟩ := HZ.out
                    obtain ⟨t1, t2, t3⟩ := HT.out
                    rw [HQ1.out.1, HQ1.out.2]
                    refine ⟨rfl, ⟨E1 ++ E2, merge_glue t1 o1 fun x hx y hy => HQ5.out x (t3 x hx) y (o2.mem_iff.1 hy), ?_, by simpa using o3⟩, HG2.out⟩
                    exact perm_four t2 o2
                  case false =>
                    go_wp2
                    go_end0
                    obtain ⟨t1, t2, t3⟩ := HT.out
                    rw [HQ1.out.1, HQ1.out.2]
                    have h22 : Srt tK (L2 ++ R2) := by
                      by_cases k1 : mid < e
                      · have k2 : ¬ e < b := fun k2 => by have := Hb3.out.2 ⟨k1, k2⟩; cases this
                        obtain rfl : R2 = [] := List.eq_nil_of_length_eq_zero (by have := HQ.out; have := HLB.out; omega)
                        simpa using HS2.out.1
                      · obtain rfl : L2 = [] := List.eq_nil_of_length_eq_zero (by have := HQ.out; omega)
                        simpa using HS2.out.2.1
                    refine ⟨rfl, ⟨E1 ++ (L2 ++ R2), merge_glue t1 h22 fun x hx y hy => HQ5.out x (t3 x hx) y hy, perm_four t2 (List.Perm.refl _), by simpa using HO.out⟩, HG.out⟩
theorem symMerge_any : ∀ N, SymOk N
  | 0 => fun W0 w B a m b len c g P L R S hN hL hR => by omega
  | N + 1 => fun W0 w B a m b len c g P L R S hN hL hR ha hm hb h1 h2 h3 ho hl => by
    by_cases e1 : L.length = 1
    · obtain ⟨x, rfl⟩ := List.length_eq_one_iff.1 e1
      exact symMerge_one P R S x ha (by simpa using hm) hb h2 h3 ho hl
    · by_cases e2 : R.length = 1
      · obtain ⟨x, rfl⟩ := List.length_eq_one_iff.1 e2
        exact symMerge_last P L S x ha hm (by simpa using hb) e1 h1 h3 ho hl
      · exact symMerge_two (symMerge_any N) P L R S hN (by omega) (by omega) ha hm hb h1 h2 h3 ho hl
end Go.Proofs.YtkkfkjjmmdpafaaDoor
namespace Go.Proofs.YtkkfkjjmmdpafaaDoor
open Go.RowKit
set_option linter.unusedVariables false

inductive FS (k : Nat) : List (KlV × Nat) → List (KlV × Nat) → Prop
  | nil : FS k [] []
  | cons {Y D X C} : Y.length = k → Sd cbK Y D → FS k X C → FS k (Y ++ X) (D ++ C)
theorem FS.app {k : Nat} {X C X' C' : List (KlV × Nat)} (h : FS k X C) (h2 : FS k X' C') : FS k (X ++ X') (C ++ C') := by
  induction h with
  | nil => exact h2
  | cons a b _ ih => rw [List.append_assoc, List.append_assoc]; exact .cons a b ih
theorem FS.one {k : Nat} {Y D : List (KlV × Nat)} (h : Y.length = k) (h2 : Sd cbK Y D) : FS k Y D := by
  have := FS.cons h h2 FS.nil
  simpa using this
theorem FS.len {k : Nat} {X C : List (KlV × Nat)} (h : FS k X C) : C.length = X.length := by
  induction h with
  | nil => rfl
  | cons a b _ ih => rw [List.length_append, List.length_append, b.len, ih]
theorem FS.few {k : Nat} {X C : List (KlV × Nat)} (h : FS k X C) (hl : X.length < 2 * k) : (X = [] ∧ C = []) ∨ (X.length = k ∧ Sd cbK X C) := by
  cases h with
  | nil => exact .inl ⟨rfl, rfl⟩
  | cons a b h2 =>
    rename_i Y D X C
    cases h2 with
    | nil => exact .inr ⟨by simpa using a, by simpa using b⟩
    | cons a2 b2 _ => simp at hl; omega
theorem FS.two {k : Nat} {X C : List (KlV × Nat)} (h : FS k X C) (hl : 2 * k ≤ X.length) (hk : 0 < k) : ∃ Y1 D1 Y2 D2 X' C', X = Y1 ++ (Y2 ++ X') ∧ C = D1 ++ (D2 ++ C') ∧ Y1.length = k ∧ Y2.length = k ∧ Sd cbK Y1 D1 ∧ Sd cbK Y2 D2 ∧ FS k X' C' := by
  cases h with
  | nil => simp at hl; omega
  | cons a b h2 =>
    cases h2 with
    | nil => simp at hl; omega
    | cons a2 b2 h3 => exact ⟨_, _, _, _, _, _, rfl, rfl, a, a2, b, b2, h3⟩
theorem FS.mul {k : Nat} {X C : List (KlV × Nat)} (h : FS k X C) (h2 : k < X.length) : 2 * k ≤ X.length := by
  cases h with
  | nil => simp at h2
  | cons a b h3 =>
    cases h3 with
    | nil => simp at h2; omega
    | cons a2 b2 _ => simp; omega
def Blk (k : Nat) (T D : List (KlV × Nat)) : Prop := ∃ X Y C E, T = X ++ Y ∧ D = C ++ E ∧ FS k X C ∧ Sd cbK Y E ∧ Y.length < k
theorem Blk.done {k : Nat} {T D : List (KlV × Nat)} (h : Blk k T D) (hl : T.length ≤ k) : Sd cbK T D := by
  obtain ⟨X, Y, C, E, rfl, rfl, h1, h2, h3⟩ := h
  rcases h1.few (by simp at hl; omega) with ⟨rfl, rfl⟩ | ⟨h4, h5⟩
  · simpa using h2
  · have : Y = [] := List.eq_nil_of_length_eq_zero (by simp at hl; omega)
    subst this
    rw [h2.eq_nil]
    simpa using h5
theorem Tg.lt {X Y : List (KlV × Nat)} (h : Tg (X ++ Y)) : ∀ x, x ∈ X → ∀ y, y ∈ Y → x.2 < y.2 := h.app.2.2
set_option maxRecDepth 100000 in
set_option maxHeartbeats 8000000 in
theorem stable_any {W0 w : World} {B n len c : Nat} {A : Option Addr} (T : List (KlV × Nat)) (hn : T.length = n) (h64 : n ≤ 64) (ht : Tg T) (ho : OwnT W0 B w A len c T) :
    Calls Tryd.prog 84 #[.slice A len c, .int .i64 n, cmpV] w fun e w' => e = .returned (.tuple #[]) ∧ (∃ D, Sd cbK T D ∧ OwnT W0 B w' A len c D) ∧ w.grownBy w' (Value.slice A len c).ownBlock := by
  have HN := Lib.hid hn
  have HT := Lib.hid ht
  have H0 : Hid (∃ X Y C, T = X ++ Y ∧ X.length = 0 ∧ FS 20 X C ∧ OwnT W0 B w A len c (C ++ Y)) := Lib.hid ⟨[], T, [], rfl, rfl, .nil, by simpa using ho⟩
  clear hn ht ho
  go_enter Tryd.func84, Tryd.ntmps84
  go_wp2_with fail
  go_loopw [7, 8] (fun av bv wr => ∃ a : Nat, av = .int .i64 a ∧ bv = .int .i64 (a + 20 : Nat) ∧ a ≤ n ∧ Hid (∃ X Y C, T = X ++ Y ∧ X.length = a ∧ FS 20 X C ∧ OwnT W0 B wr A len c (C ++ Y)) ∧ Hid (w.grownBy wr (Value.slice A len c).ownBlock)) (fun av _ _ => 64 - (intOf av).toNat)
  case atStart => exact ⟨0, by go_num, by go_num, by omega, H0, Lib.hid (World.grownBy.refl _ _)⟩
  case round =>
    obtain ⟨a, rfl, rfl, han, HI, HG⟩ := hrel
    rename World => wr
    clear H0
    by_cases hlt : a + 20 ≤ n
    · have hltz : ((a + 20 : Nat) : Int) ≤ (n : Int) := by omega
      obtain ⟨X, Y, C, q1, q2, q3, q4⟩ := HI.out
      have hY : Y.length = n - a := by have := HN.out; rw [q1] at this; simp at this; omega
      have e1 : Y.take 20 ++ Y.drop 20 = Y := List.take_append_drop _ _
      have l1 : (Y.take 20).length = 20 := by simp; omega
      generalize Y.take 20 = Y1 at e1 l1
      generalize Y.drop 20 = Y2 at e1
      subst e1
      have htg : Tg Y1 := by have h := HT.out; rw [q1] at h; exact h.app.2.1.app.1
      have HC := Lib.hid (insertion_any (W0 := W0) (w := wr) (B := B) (a := a) (b := a + 20) (len := len) (c := c) (A := A) C Y1 Y2 (q3.len.trans q2) (by omega) htg (by simpa using q4) (by have := q3.len; have := HN.out; rw [q1] at this; simp at this ⊢; omega))
      have HQ := Lib.hid (And.intro q1 (And.intro q2 (And.intro q3 l1)))
      clear q1 q2 q3 q4 l1 htg hY HI
      go_wp2_with fail
      refine HC.out.mono ?_
      rintro e w' ⟨rfl, ⟨D, o1, o2⟩, o3⟩
      have HI2 : Hid (∃ X Y C, T = X ++ Y ∧ X.length = a + 20 ∧ FS 20 X C ∧ OwnT W0 B w' A len c (C ++ Y)) := by
        obtain ⟨q1, q2, q3, l1⟩ := HQ.out
        exact Lib.hid ⟨X ++ Y1, Y2, C ++ D, by rw [q1]; simp, by simp; omega, q3.app (.one l1 o1), by simpa using o2⟩
      have HG2 := Lib.hid (HG.out.trans o3)
      clear o1 o2 o3 HQ HC
      go_wp2_with fail
      go_roundw
      case rel => exact ⟨a + 20, by go_num, by go_num, hlt, HI2, HG2⟩
      case measure => first | (simp [intOf]; omega) | simp [intOf]
    · have hltz : ¬ ((a + 20 : Nat) : Int) ≤ (n : Int) := by omega
      obtain ⟨X, Y, C, q1, q2, q3, q4⟩ := HI.out
      have hY : Y.length = n - a := by have := HN.out; rw [q1] at this; simp at this; omega
      have htg : Tg Y := by have h := HT.out; rw [q1] at h; exact h.app.2.1
      have HC := Lib.hid (insertion_any (W0 := W0) (w := wr) (B := B) (a := a) (b := n) (len := len) (c := c) (A := A) C Y [] (q3.len.trans q2) (by omega) htg (by simpa using q4) (by have := q3.len; simp; omega))
      have HQ := Lib.hid (And.intro q1 (And.intro q3 hY))
      clear q1 q2 q3 q4 htg hY HI
      go_wp2_with fail
      refine HC.out.mono ?_
      rintro e w' ⟨rfl, ⟨D, o1, o2⟩, o3⟩
      have HI2 : Hid (∃ D, Blk 20 T D ∧ OwnT W0 B w' A len c D) := by
        obtain ⟨q1, q3, l1⟩ := HQ.out
        exact Lib.hid ⟨C ++ D, ⟨X, Y, C, D, q1, rfl, q3, o1, by omega⟩, by simpa using o2⟩
      have HG2 := Lib.hid (HG.out.trans o3)
      clear o1 o2 o3 HQ HC HG hltz hlt
      go_wp2_with fail
      go_loopw [6] (fun kv ws => ∃ k : Nat, kv = .int .i64 k ∧ 0 < k ∧ k ≤ 128 ∧ Hid (∃ D, Blk k T D ∧ OwnT W0 B ws A len c D) ∧ Hid (w.grownBy ws (Value.slice A len c).ownBlock)) (fun kv _ => 128 - (intOf kv).toNat)
      case atStart => exact ⟨20, by go_num, by omega, by omega, HI2, HG2⟩
      case round =>
        obtain ⟨k, rfl, hk0, hk1, HB, HG⟩ := hrel
        rename World => ws
        clear HI2 HG2
        by_cases hkn : k < n
        · have hknz : (k : Int) < (n : Int) := by omega
          obtain ⟨D, b1, b2⟩ := HB.out
          obtain ⟨g, rfl, -, -, -⟩ := b2.head (by obtain ⟨X, Y, C, E, r1, r2, r3, r4, r5⟩ := b1; have h1 := HN.out; rw [r1] at h1; have h2 := r3.len; have h3 := r4.len; rw [r2]; simp at h1 ⊢; omega)
          have HJ : Hid (∃ X1 X2 Y E1 C2 E, T = X1 ++ (X2 ++ Y) ∧ X1.length = 0 ∧ FS (2 * k) X1 E1 ∧ FS k X2 C2 ∧ Sd cbK Y E ∧ Y.length < k ∧ OwnT W0 B ws (some ⟨g, 0, none⟩) len c (E1 ++ (C2 ++ E))) := by
            obtain ⟨X, Y, C, E, r1, r2, r3, r4, r5⟩ := b1
            exact Lib.hid ⟨[], X, Y, [], C, E, by simpa using r1, rfl, .nil, r3, r4, r5, by rw [r2] at b2; simpa using b2⟩
          have HG1 := Lib.hid (show w.grownBy ws (some g) from HG.out)
          clear b1 b2 HB HG
          go_wp2_with fail
          go_loopw [7, 8] (fun av bv wt => ∃ a : Nat, av = .int .i64 a ∧ bv = .int .i64 (a + 2 * k : Nat) ∧ a ≤ n ∧ Hid (∃ X1 X2 Y E1 C2 E, T = X1 ++ (X2 ++ Y) ∧ X1.length = a ∧ FS (2 * k) X1 E1 ∧ FS k X2 C2 ∧ Sd cbK Y E ∧ Y.length < k ∧ OwnT W0 B wt (some ⟨g, 0, none⟩) len c (E1 ++ (C2 ++ E))) ∧ Hid (w.grownBy wt (some g))) (fun av _ _ => 64 - (intOf av).toNat)
          case atStart => exact ⟨0, by go_num, by go_num, by omega, HJ, HG1⟩
          case round =>
            obtain ⟨a, rfl, rfl, han, HI, HG⟩ := hrel
            rename World => wt
            clear HJ HG1
            obtain ⟨X1, X2, Y, E1, C2, E, q1, q2, q3, q4, q5, q6, q7⟩ := HI.out
            have hlen : a + (X2.length + Y.length) = n := by have := HN.out; rw [q1] at this; simp at this; omega
            have hl3 := q3.len
            have hl5 := q5.len
            by_cases hlt : a + 2 * k ≤ n
            · have hltz : ((a + 2 * k : Nat) : Int) ≤ (n : Int) := by omega
              obtain ⟨Y1, D1, Y2, D2, X', C', r1, r2, r3, r4, r5, r6, r7⟩ := q4.two (q4.mul (by omega)) hk0
              have htg := HT.out
              rw [q1, r1] at htg
              have htg2 : Tg (Y1 ++ Y2) := by
                have h1 := htg.app.2.1
                rw [List.append_assoc, List.append_assoc, ← List.append_assoc] at h1
                exact h1.app.1
              have hag := Sd.agr (cb := cbK) htg2.lt r5 r6
              have HC := Lib.hid (symMerge_any (D1.length + D2.length) W0 wt B a (a + k) (a + 2 * k) len c g E1 D1 D2 (C' ++ E) (Nat.le_refl _) (by rw [r5.len]; omega) (by rw [r6.len]; omega) (by omega) (by rw [r5.len]; omega) (by rw [r6.len]; omega) r5.1 r6.1 hag (by rw [r2] at q7; simpa using q7) (by have h7 := r7.len; rw [r1] at hlen; have h5 := r5.len; have h6 := r6.len; simp at hlen ⊢; omega))
              have HQ := Lib.hid (And.intro q1 (And.intro r1 (And.intro r5 (And.intro r6 (And.intro q3 (And.intro r7 (And.intro q5 (And.intro q6 (And.intro r3 (And.intro r4 q2))))))))))
              clear q1 q2 q3 q4 q5 q6 q7 r1 r2 r3 r4 r5 r6 r7 htg htg2 hag HI hl3 hl5 hlen
              go_wp2_with fail
              refine HC.out.mono ?_
              rintro e w' ⟨rfl, ⟨M, o1, o2, o4⟩, o3⟩
              have HI2 : Hid (∃ X1 X2 Y E1 C2 E, T = X1 ++ (X2 ++ Y) ∧ X1.length = a + 2 * k ∧ FS (2 * k) X1 E1 ∧ FS k X2 C2 ∧ Sd cbK Y E ∧ Y.length < k ∧ OwnT W0 B w' (some ⟨g, 0, none⟩) len c (E1 ++ (C2 ++ E))) := by
                obtain ⟨q1, r1, r5, r6, q3, r7, q5, q6, r3, r4, q2⟩ := HQ.out
                exact Lib.hid ⟨X1 ++ (Y1 ++ Y2), X', Y, E1 ++ M, C', E, by rw [q1, r1]; simp, by simp; omega, q3.app (.one (by simp; omega) (r5.join r6 o1 o2)), r7, q5, q6, by simpa using o4⟩
              have HG2 := Lib.hid (HG.out.trans o3)
              clear o1 o2 o3 o4 HQ HC
              go_wp2_with fail
              go_roundw
              case rel => exact ⟨a + 2 * k, by go_num, by go_num, hlt, HI2, HG2⟩
              case measure => first | (simp [intOf]; omega) | simp [intOf]
            · have hltz : ¬ ((a + 2 * k : Nat) : Int) ≤ (n : Int) := by omega
              have htg := HT.out
              rw [q1] at htg
              have htg2 := htg.app.2.1
              have hfw := q4.few (by omega)
              by_cases hmid : a + k < n
              · have hmidz : (a : Int) + (k : Int) < (n : Int) := by omega
                have hf2 : X2.length = k ∧ Sd cbK X2 C2 := by
                  rcases hfw with ⟨rfl, rfl⟩ | h
                  · simp at hlen; omega
                  · exact h
                have hag := Sd.agr (cb := cbK) htg2.lt hf2.2 q5
                have HC := Lib.hid (symMerge_any (C2.length + E.length) W0 wt B a (a + k) n len c g E1 C2 E [] (Nat.le_refl _) (by rw [hf2.2.len]; omega) (by omega) (by omega) (by rw [hf2.2.len]; omega) (by omega) hf2.2.1 q5.1 hag (by simpa using q7) (by have := hf2.2.len; simp; omega))
                have HQ := Lib.hid (And.intro q1 (And.intro q3 (And.intro hf2 (And.intro q5 q6))))
                clear q1 q2 q3 q4 q5 q6 q7 htg htg2 hag hf2 hfw HI hl3 hl5
                go_wp2_with fail
                refine HC.out.mono ?_
                rintro e w' ⟨rfl, ⟨M, o1, o2, o4⟩, o3⟩
                have HI2 : Hid (∃ D, Blk (2 * k) T D ∧ OwnT W0 B w' (some ⟨g, 0, none⟩) len c D) := by
                  obtain ⟨q1, q3, hf2, q5, q6⟩ := HQ.out
                  exact Lib.hid ⟨E1 ++ M, ⟨X1, X2 ++ Y, E1, M, q1, rfl, q3, hf2.2.join q5 o1 o2, by simp; omega⟩, by simpa using o4⟩
                have HG2 := Lib.hid (HG.out.trans o3)
                clear o1 o2 o3 o4 HQ HC
                go_wp2_with fail
                go_roundw
                case rel => exact ⟨2 * k, by go_num, by omega, by omega, HI2, HG2⟩
                case measure => first | (simp [intOf]; omega) | simp [intOf]
              · have hmidz : ¬ (a : Int) + (k : Int) < (n : Int) := by omega
                have HI2 : Hid (∃ D, Blk (2 * k) T D ∧ OwnT W0 B wt (some ⟨g, 0, none⟩) len c D) := by
                  refine Lib.hid ⟨E1 ++ (C2 ++ E), ⟨X1, X2 ++ Y, E1, C2 ++ E, q1, rfl, q3, ?_, by simp; omega⟩, q7⟩
                  rcases hfw with ⟨rfl, rfl⟩ | ⟨h1, h2⟩
                  · simpa using q5
                  · have : Y = [] := List.eq_nil_of_length_eq_zero (by omega)
                    subst this
                    rw [q5.eq_nil]
                    simpa using h2
                clear q1 q2 q3 q4 q5 q6 q7 htg htg2 hfw HI hl3 hl5
                go_wp2_with fail
                go_roundw
                case rel => exact ⟨2 * k, by go_num, by omega, by omega, HI2, HG⟩
                case measure => first | (simp [intOf]; omega) | simp [intOf]
        · have hknz : ¬ (k : Int) < (n : Int) := by omega
          go_wp2
          go_end0
          obtain ⟨D, b1, b2⟩ := HB.out
          exact ⟨rfl, ⟨D, b1.done (by have := HN.out; omega), b2⟩, HG.out⟩
set_option maxRecDepth 100000 in
theorem sortStable_any {W0 w : World} {B c : Nat} {A : Option Addr} (l : List KlV) (h64 : l.length ≤ 64) (ho : (ShKW W0).Own B w (.slice A l.length c) l) :
    Calls Tryd.prog 64 #[.slice A l.length c, cmpV] w fun e w' => e = .returned (.tuple #[]) ∧ (ShKW W0).Own B w' (.slice A l.length c) (sortZ cbK l) ∧ w.grownBy w' (Value.slice A l.length c).ownBlock := by
  have hz : (l.zipIdx).map Prod.fst = l := by simp
  have HC := Lib.hid (stable_any (W0 := W0) (w := w) (B := B) (n := l.length) (len := l.length) (c := c) (A := A) l.zipIdx (by simp) h64 (tg_idx l) (by unfold OwnT; rw [hz]; exact ho))
  have HE : Hid (∀ D, Sd cbK l.zipIdx D → D.map Prod.fst = sortZ cbK l) := Lib.hid fun D h => stable_eq swoK l D h.1 h.2
  obtain ⟨R, hR⟩ : ∃ R, sortZ cbK l = R := ⟨_, rfl⟩
  rw [hR] at HE ⊢
  have HB : Hid (l.length ≤ 64) := Lib.hid h64
  obtain ⟨n, hn⟩ : ∃ n, l.length = n := ⟨_, rfl⟩
  rw [hn] at HC ⊢
  clear ho hz hR h64 hn
  go_enter Tryd.func64, Tryd.ntmps64
  go_wp2_with fail
  refine HC.out.mono ?_
  rintro e w' ⟨rfl, ⟨D, o1, o2⟩, o3⟩
  have HZ := Lib.hid (And.intro o1 (And.intro o2 o3))
  clear o1 o2 o3
  go_wp2
  go_end0
  obtain ⟨o1, o2, o3⟩ := HZ.out
  refine ⟨rfl, ?_, o3⟩
  rw [← HE.out D o1]
  exact o2
end Go.Proofs.YtkkfkjjmmdpafaaDoor
