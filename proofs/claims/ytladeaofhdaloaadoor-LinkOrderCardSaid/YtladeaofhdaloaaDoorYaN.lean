/- Several texts of this proof, one behind the other. -/
import Derived.Test.YtladeaofhdaloaaDoorYaM
namespace Go.Proofs.YtladeaofhdaloaaDoor
open Go.RowKit
set_option linter.unusedVariables false

inductive FS (k : Nat) : List (KlV × Nat) → List (KlV × Nat) → Prop
  | nil : FS k [] []
  | cons {Y D X C} : Y.length = k → Sd cbK Y D → FS k X C → FS k (Y ++ X) (D ++ C)
theorem FS.app {k : Nat} {X C X' C' : List (KlV × Nat)} (h : FS k X C) (h2 : FS k X' C') : FS k (X ++ X') (C ++ C') := by
  induction h with
  | nil => exact h2
  | cons a b _ ih => rw [List.append_assoc, List.append_assoc]; exact .cons a b ih
theorem FS.one {k : Nat} {Y D : List (KlV × Nat)} (h : Y.length = k) (h2 : Sd cbK Y D) : FS k Y D := by
  have := FS.cons h h2 FS.nil
  simpa using this
theorem FS.len {k : Nat} {X C : List (KlV × Nat)} (h : FS k X C) : C.length = X.length := by
  induction h with
  | nil => rfl
  | cons a b _ ih => rw [List.length_append, List.length_append, b.len, ih]
theorem FS.few {k : Nat} {X C : List (KlV × Nat)} (h : FS k X C) (hl : X.length < 2 * k) : (X = [] ∧ C = []) ∨ (X.length = k ∧ Sd cbK X C) := by
  cases h with
  | nil => exact .inl ⟨rfl, rfl⟩
  | cons a b h2 =>
    rename_i Y D X C
    cases h2 with
    | nil => exact .inr ⟨by simpa using a, by simpa using b⟩
    | cons a2 b2 _ => simp at hl; omega
theorem FS.two {k : Nat} {X C : List (KlV × Nat)} (h : FS k X C) (hl : 2 * k ≤ X.length) (hk : 0 < k) : ∃ Y1 D1 Y2 D2 X' C', X = Y1 ++ (Y2 ++ X') ∧ C = D1 ++ (D2 ++ C') ∧ Y1.length = k ∧ Y2.length = k ∧ Sd cbK Y1 D1 ∧ Sd cbK Y2 D2 ∧ FS k X' C' := by
  cases h with
  | nil => simp at hl; omega
  | cons a b h2 =>
    cases h2 with
    | nil => simp at hl; omega
    | cons a2 b2 h3 => exact ⟨_, _, _, _, _, _, rfl, rfl, a, a2, b, b2, h3⟩
theorem FS.mul {k : Nat} {X C : List (KlV × Nat)} (h : FS k X C) (h2 : k < X.length) : 2 * k ≤ X.length := by
  cases h with
  | nil => simp at h2
  | cons a b h3 =>
    cases h3 with
    | nil => simp at h2; omega
    | cons a2 b2 _ => simp; omega
def Blk (k : Nat) (T D : List (KlV × Nat)) : Prop := ∃ X Y C E, T = X ++ Y ∧ D = C ++ E ∧ FS k X C ∧ Sd cbK Y E ∧ Y.length < k
theorem Blk.done {k : Nat} {T D : List (KlV × Nat)} (h : Blk k T D) (hl : T.length ≤ k) : Sd cbK T D := by
  obtain ⟨X, Y, C, E, rfl, rfl, h1, h2, h3⟩ := h
  rcases h1.few (by simp at hl; omega) with ⟨rfl, rfl⟩ | ⟨h4, h5⟩
  · simpa using h2
  · have : Y = [] := List.eq_nil_of_length_eq_zero (by simp at hl; omega)
    subst this
    rw [h2.eq_nil]
    simpa using h5
theorem Tg.lt {X Y : List (KlV × Nat)} (h : Tg (X ++ Y)) : ∀ x, x ∈ X → ∀ y, y ∈ Y → x.2 < y.2 := h.app.2.2
set_option maxRecDepth 100000 in
set_option maxHeartbeats 8000000 in
theorem stable_any {W0 w : World} {B n len c : Nat} {A : Option Addr} (T : List (KlV × Nat)) (hn : T.length = n) (h64 : n ≤ 64) (ht : Tg T) (ho : OwnT W0 B w A len c T) :
    Calls Tryd.prog 84 #[.slice A len c, .int .i64 n, cmpV] w fun e w' => e = .returned (.tuple #[]) ∧ (∃ D, Sd cbK T D ∧ OwnT W0 B w' A len c D) ∧ w.grownBy w' (Value.slice A len c).ownBlock := by
  have HN := Lib.hid hn
  have HT := Lib.hid ht
  have H0 : Hid (∃ X Y C, T = X ++ Y ∧ X.length = 0 ∧ FS 20 X C ∧ OwnT W0 B w A len c (C ++ Y)) := Lib.hid ⟨[], T, [], rfl, rfl, .nil, by simpa using ho⟩
  clear hn ht ho
  go_enter Tryd.func84, Tryd.ntmps84
  go_wp2_with fail
  go_loopw [7, 8] (fun av bv wr => ∃ a : Nat, av = .int .i64 a ∧ bv = .int .i64 (a + 20 : Nat) ∧ a ≤ n ∧ Hid (∃ X Y C, T = X ++ Y ∧ X.length = a ∧ FS 20 X C ∧ OwnT W0 B wr A len c (C ++ Y)) ∧ Hid (w.grownBy wr (Value.slice A len c).ownBlock)) (fun av _ _ => 64 - (intOf av).toNat)
  case atStart => exact ⟨0, by go_num, by go_num, by omega, H0, Lib.hid (World.grownBy.refl _ _)⟩
  case round =>
    obtain ⟨a, rfl, rfl, han, HI, HG⟩ := hrel
    rename World => wr
    clear H0
    by_cases hlt : a + 20 ≤ n
    · have hltz : ((a + 20 : Nat) : Int) ≤ (n : Int) := by omega
      obtain ⟨X, Y, C, q1, q2, q3, q4⟩ := HI.out
      have hY : Y.length = n - a := by have := HN.out; rw [q1] at this; simp at this; omega
      have e1 : Y.take 20 ++ Y.drop 20 = Y := List.take_append_drop _ _
      have l1 : (Y.take 20).length = 20 := by simp; omega
      generalize Y.take 20 = Y1 at e1 l1
      generalize Y.drop 20 = Y2 at e1
      subst e1
      have htg : Tg Y1 := by have h := HT.out; rw [q1] at h; exact h.app.2.1.app.1
      have HC := Lib.hid (insertion_any (W0 := W0) (w := wr) (B := B) (a := a) (b := a + 20) (len := len) (c := c) (A := A) C Y1 Y2 (q3.len.trans q2) (by omega) htg (by simpa using q4) (by have := q3.len; have := HN.out; rw [q1] at this; simp at this ⊢; omega))
      have HQ := Lib.hid (And.intro q1 (And.intro q2 (And.intro q3 l1)))
      clear q1 q2 q3 q4 l1 htg hY HI
      go_wp2_with fail
      refine HC.out.mono ?_
      rintro e w' ⟨rfl, ⟨D, o1, o2⟩, o3⟩
      have HI2 : Hid (∃ X Y C, T = X ++ Y ∧ X.length = a + 20 ∧ FS 20 X C ∧ OwnT W0 B w' A len c (C ++ Y)) := by
        obtain ⟨q1, q2, q3, l1⟩ := HQ.out
        exact Lib.hid ⟨X ++ Y1, Y2, C ++ D, by rw [q1]; simp, by simp; omega, q3.app (.one l1 o1), by simpa using o2⟩
      have HG2 := Lib.hid (HG.out.trans o3)
      clear o1 o2 o3 HQ HC
      go_wp2_with fail
      go_roundw
      case rel => exact ⟨a + 20, by go_num, by go_num, hlt, HI2, HG2⟩
      case measure => first | (simp [intOf]; omega) | simp [intOf]
    · have hltz : ¬ ((a + 20 : Nat) : Int) ≤ (n : Int) := by omega
      obtain ⟨X, Y, C, q1, q2, q3, q4⟩ := HI.out
      have hY : Y.length = n - a := by have := HN.out; rw [q1] at this; simp at this; omega
      have htg : Tg Y := by have h := HT.out; rw [q1] at h; exact h.app.2.1
      have HC := Lib.hid (insertion_any (W0 := W0) (w := wr) (B := B) (a := a) (b := n) (len := len) (c := c) (A := A) C Y [] (q3.len.trans q2) (by omega) htg (by simpa using q4) (by have := q3.len; simp; omega))
      have HQ := Lib.hid (And.intro q1 (And.intro q3 hY))
      clear q1 q2 q3 q4 htg hY HI
      go_wp2_with fail
      refine HC.out.mono ?_
      rintro e w' ⟨rfl, ⟨D, o1, o2⟩, o3⟩
      have HI2 : Hid (∃ D, Blk 20 T D ∧ OwnT W0 B w' A len c D) := by
        obtain ⟨q1, q3, l1⟩ := HQ.out
        exact Lib.hid ⟨C ++ D, ⟨X, Y, C, D, q1, rfl, q3, o1, by omega⟩, by simpa using o2⟩
      have HG2 := Lib.hid (HG.out.trans o3)
      clear o1 o2 o3 HQ HC HG hltz hlt
      go_wp2_with fail
      go_loopw [6] (fun kv ws => ∃ k : Nat, kv = .int .i64 k ∧ 0 < k ∧ k ≤ 128 ∧ Hid (∃ D, Blk k T D ∧ OwnT W0 B ws A len c D) ∧ Hid (w.grownBy ws (Value.slice A len c).ownBlock)) (fun kv _ => 128 - (intOf kv).toNat)
      case atStart => exact ⟨20, by go_num, by omega, by omega, HI2, HG2⟩
      case round =>
        obtain ⟨k, rfl, hk0, hk1, HB, HG⟩ := hrel
        rename World => ws
        clear HI2 HG2
        by_cases hkn : k < n
        · have hknz : (k : Int) < (n : Int) := by omega
          obtain ⟨D, b1, b2⟩ := HB.out
          obtain ⟨g, rfl, -, -, -⟩ := b2.head (by obtain ⟨X, Y, C, E, r1, r2, r3, r4, r5⟩ := b1; have h1 := HN.out; rw [r1] at h1; have h2 := r3.len; have h3 := r4.len; rw [r2]; simp at h1 ⊢; omega)
          have HJ : Hid (∃ X1 X2 Y E1 C2 E, T = X1 ++ (X2 ++ Y) ∧ X1.length = 0 ∧ FS (2 * k) X1 E1 ∧ FS k X2 C2 ∧ Sd cbK Y E ∧ Y.length < k ∧ OwnT W0 B ws (some ⟨g, 0, none⟩) len c (E1 ++ (C2 ++ E))) := by
            obtain ⟨X, Y, C, E, r1, r2, r3, r4, r5⟩ := b1
            exact Lib.hid ⟨[], X, Y, [], C, E, by simpa using r1, rfl, .nil, r3, r4, r5, by rw [r2] at b2; simpa using b2⟩
          have HG1 := Lib.hid (show w.grownBy ws (some g) from HG.out)
          clear b1 b2 HB HG
          go_wp2_with fail
          go_loopw [7, 8] (fun av bv wt => ∃ a : Nat, av = .int .i64 a ∧ bv = .int .i64 (a + 2 * k : Nat) ∧ a ≤ n ∧ Hid (∃ X1 X2 Y E1 C2 E, T = X1 ++ (X2 ++ Y) ∧ X1.length = a ∧ FS (2 * k) X1 E1 ∧ FS k X2 C2 ∧ Sd cbK Y E ∧ Y.length < k ∧ OwnT W0 B wt (some ⟨g, 0, none⟩) len c (E1 ++ (C2 ++ E))) ∧ Hid (w.grownBy wt (some g))) (fun av _ _ => 64 - (intOf av).toNat)
          case atStart => exact ⟨0, by go_num, by go_num, by omega, HJ, HG1⟩
          case round =>
            obtain ⟨a, rfl, rfl, han, HI, HG⟩ := hrel
            rename World => wt
            clear HJ HG1
            obtain ⟨X1, X2, Y, E1, C2, E, q1, q2, q3, q4, q5, q6, q7⟩ := HI.out
            have hlen : a + (X2.length + Y.length) = n := by have := HN.out; rw [q1] at this; simp at this; omega
            have hl3 := q3.len
            have hl5 := q5.len
            by_cases hlt : a + 2 * k ≤ n
            · have hltz : ((a + 2 * k : Nat) : Int) ≤ (n : Int) := by omega
              obtain ⟨Y1, D1, Y2, D2, X', C', r1, r2, r3, r4, r5, r6, r7⟩ := q4.two (q4.mul (by omega)) hk0
              have htg := HT.out
              rw [q1, r1] at htg
              have htg2 : Tg (Y1 ++ Y2) := by
                have h1 := htg.app.2.1
                rw [List.append_assoc, List.append_assoc, ← List.append_assoc] at h1
                exact h1.app.1
              have hag := Sd.agr (cb := cbK) htg2.lt r5 r6
              have HC := Lib.hid (symMerge_any (D1.length + D2.length) W0 wt B a (a + k) (a + 2 * k) len c g E1 D1 D2 (C' ++ E) (Nat.le_refl _) (by rw [r5.len]; omega) (by rw [r6.len]; omega) (by omega) (by rw [r5.len]; omega) (by rw [r6.len]; omega) r5.1 r6.1 hag (by rw [r2] at q7; simpa using q7) (by have h7 := r7.len; rw [r1] at hlen; have h5 := r5.len; have h6 := r6.len; simp at hlen ⊢; omega))
              have HQ := Lib.hid (And.intro q1 (And.intro r1 (And.intro r5 (And.intro r6 (And.intro q3 (And.intro r7 (And.intro q5 (And.intro q6 (And.intro r3 (And.intro r4 q2))))))))))
              clear q1 q2 q3 q4 q5 q6 q7 r1 r2 r3 r4 r5 r6 r7 htg htg2 hag HI hl3 hl5 hlen
              go_wp2_with fail
              refine HC.out.mono ?_
              rintro e w' ⟨rfl, ⟨M, o1, o2, o4⟩, o3⟩
              have HI2 : Hid (∃ X1 X2 Y E1 C2 E, T = X1 ++ (X2 ++ Y) ∧ X1.length = a + 2 * k ∧ FS (2 * k) X1 E1 ∧ FS k X2 C2 ∧ Sd cbK Y E ∧ Y.length < k ∧ OwnT W0 B w' (some ⟨g, 0, none⟩) len c (E1 ++ (C2 ++ E))) := by
                obtain ⟨q1, r1, r5, r6, q3, r7, q5, q6, r3, r4, q2⟩ := HQ.out
                exact Lib.hid ⟨X1 ++ (Y1 ++ Y2), X', Y, E1 ++ M, C', E, by rw [q1, r1]; simp, by simp; omega, q3.app (.one (by simp; omega) (r5.join r6 o1 o2)), r7, q5, q6, by simpa using o4⟩
              have HG2 := Lib.hid (HG.out.trans o3)
              clear o1 o2 o3 o4 HQ HC
              go_wp2_with fail
              go_roundw
              case rel => exact ⟨a + 2 * k, by go_num, by go_num, hlt, HI2, HG2⟩
              case measure => first | (simp [intOf]; omega) | simp [intOf]
            · have hltz : ¬ ((a + 2 * k : Nat) : Int) ≤ (n : Int) := by omega
              have htg := HT.out
              rw [q1] at htg
              have htg2 := htg.app.2.1
              have hfw := q4.few (by omega)
              by_cases hmid : a + k < n
              · have hmidz : (a : Int) + (k : Int) < (n : Int) := by omega
                have hf2 : X2.length = k ∧ Sd cbK X2 C2 := by
                  rcases hfw with ⟨rfl, rfl⟩ | h
                  · simp at hlen; omega
                  · exact h
                have hag := Sd.agr (cb := cbK) htg2.lt hf2.2 q5
                have HC := Lib.hid (symMerge_any (C2.length + E.length) W0 wt B a (a + k) n len c g E1 C2 E [] (Nat.le_refl _) (by rw [hf2.2.len]; omega) (by omega) (by omega) (by rw [hf2.2.len]; omega) (by omega) hf2.2.1 q5.1 hag (by simpa using q7) (by have := hf2.2.len; simp; omega))
                have HQ := Lib.hid (And.intro q1 (And.intro q3 (And.intro hf2 (And.intro q5 q6))))
                clear q1 q2 q3 q4 q5 q6 q7 htg htg2 hag hf2 hfw HI hl3 hl5
                go_wp2_with fail
                refine HC.out.mono ?_
                rintro e w' ⟨rfl, ⟨M, o1, o2, o4⟩, o3⟩
                have HI2 : Hid (∃ D, Blk (2 * k) T D ∧ OwnT W0 B w' (some ⟨g, 0, none⟩) len c D) := by
                  obtain ⟨q1, q3, hf2, q5, q6⟩ := HQ.out
                  exact Lib.hid ⟨E1 ++ M, ⟨X1, X2 ++ Y, E1, M, q1, rfl, q3, hf2.2.join q5 o1 o2, by simp; omega⟩, by simpa using o4⟩
                have HG2 := Lib.hid (HG.out.trans o3)
                clear o1 o2 o3 o4 HQ HC
                go_wp2_with fail
                go_roundw
                case rel => exact ⟨2 * k, by go_num, by omega, by omega, HI2, HG2⟩
                case measure => first | (simp [intOf]; omega) | simp [intOf]
              · have hmidz : ¬ (a : Int) + (k : Int) < (n : Int) := by omega
                have HI2 : Hid (∃ D, Blk (2 * k) T D ∧ OwnT W0 B wt (some ⟨g, 0, none⟩) len c D) := by
                  refine Lib.hid ⟨E1 ++ (C2 ++ E), ⟨X1, X2 ++ Y, E1, C2 ++ E, q1, rfl, q3, ?_, by simp; omega⟩, q7⟩
                  rcases hfw with ⟨rfl, rfl⟩ | ⟨h1, h2⟩
                  · simpa using q5
                  · have : Y = [] := List.eq_nil_of_length_eq_zero (by omega)
                    subst this
                    rw [q5.eq_nil]
                    simpa using h2
                clear q1 q2 q3 q4 q5 q6 q7 htg htg2 hfw HI hl3 hl5
                go_wp2_with fail
                go_roundw
                case rel => exact ⟨2 * k, by go_num, by omega, by omega, HI2, HG⟩
                case measure => first | (simp [intOf]; omega) | simp [intOf]
        · have hknz : ¬ (k : Int) < (n : Int) := by omega
          go_wp2
          go_end0
          obtain ⟨D, b1, b2⟩ := HB.out
          exact ⟨rfl, ⟨D, b1.done (by have := HN.out; omega), b2⟩, HG.out⟩
set_option maxRecDepth 100000 in
theorem sortStable_any {W0 w : World} {B c : Nat} {A : Option Addr} (l : List KlV) (h64 : l.length ≤ 64) (ho : (ShKW W0).Own B w (.slice A l.length c) l) :
    Calls Tryd.prog 64 #[.slice A l.length c, cmpV] w fun e w' => e = .returned (.tuple #[]) ∧ (ShKW W0).Own B w' (.slice A l.length c) (sortZ cbK l) ∧ w.grownBy w' (Value.slice A l.length c).ownBlock := by
  have hz : (l.zipIdx).map Prod.fst = l := by simp
  have HC := Lib.hid (stable_any (W0 := W0) (w := w) (B := B) (n := l.length) (len := l.length) (c := c) (A := A) l.zipIdx (by simp) h64 (tg_idx l) (by unfold OwnT; rw [hz]; exact ho))
  have HE : Hid (∀ D, Sd cbK l.zipIdx D → D.map Prod.fst = sortZ cbK l) := Lib.hid fun D h => stable_eq swoK l D h.1 h.2
  obtain ⟨R, hR⟩ : ∃ R, sortZ cbK l = R := ⟨_, rfl⟩
  rw [hR] at HE ⊢
  have HB : Hid (l.length ≤ 64) := Lib.hid h64
  obtain ⟨n, hn⟩ : ∃ n, l.length = n := ⟨_, rfl⟩
  rw [hn] at HC ⊢
  clear ho hz hR h64 hn
  go_enter Tryd.func64, Tryd.ntmps64
  go_wp2_with fail
  refine HC.out.mono ?_
  rintro e w' ⟨rfl, ⟨D, o1, o2⟩, o3⟩
  have HZ := Lib.hid (And.intro o1 (And.intro o2 o3))
  clear o1 o2 o3
  go_wp2
  go_end0
  obtain ⟨o1, o2, o3⟩ := HZ.out
  refine ⟨rfl, ?_, o3⟩
  rw [← HE.out D o1]
  exact o2
end Go.Proofs.YtladeaofhdaloaaDoor
