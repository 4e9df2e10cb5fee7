/- The reader's others, walked with each of the two function literals. -/
import Derived.Test.YthobicnhophdlaaOpsQ2
import Derived.LoopN
namespace Go.Proofs.Ythobicnhophdlaa
open Go.RowKit
set_option linter.unusedVariables false

theorem rdN_u2 {l : List Int} {en : Bool} (hb : ∀ c ∈ l, B8 c) : 0 ≤ (rdN true 2 false (l, en)).1 ∧ (rdN true 2 false (l, en)).1 ≤ 65535 := by
  unfold rdN
  split
  · simp
  · match l with
    | [] => simp [pk]
    | [_] => simp [pk]
    | p :: q :: l => have := u2_in (hb p (by simp)) (hb q (by simp)); simp [pk]; omega
theorem rdT_step {a : Int} {n : Nat} {q : List Int × Bool} (h : q.2 = false) : rdT true a (n + 1) q = ((a + (rdN true 2 true q).1) :: (rdT true a n (rdN true 2 true q).2).1, (rdT true a n (rdN true 2 true q).2).2) := by
  rw [rdT, if_neg (by simp [h])]
theorem rdK_step {a : Int} {n : Nat} {q : List Int × Bool} (h : q.2 = false) : rdK true a (n + 1) q = ((rdN true 4 true q).1 :: (rdK true a n (rdN true 2 true (rdN true 4 true q).2).2).1, (a + (rdN true 2 true (rdN true 4 true q).2).1) :: (rdK true a n (rdN true 2 true (rdN true 4 true q).2).2).2.1, (rdK true a n (rdN true 2 true (rdN true 4 true q).2).2).2.2) := by
  rw [rdK, if_neg (by simp [h])]
/-- How far others has come: so many to come, what was added, what is left. -/
def ComeT (a : Int) (Y : List Int × List Int × Bool) (k : Nat) (l : List Int) (q : List Int × Bool) : Prop := Y = (l ++ (rdT true a k q).1, (rdT true a k q).2)
def ComeK (a : Int) (Y : List Int × List Int × List Int × Bool) (k : Nat) (l m : List Int) (q : List Int × Bool) : Prop := Y = (l ++ (rdK true a k q).1, m ++ (rdK true a k q).2.1, (rdK true a k q).2.2)
theorem ComeT.next {a : Int} {Y : List Int × List Int × Bool} {k : Nat} {l : List Int} {q : List Int × Bool} (h : ComeT a Y (k + 1) l q) (he : q.2 = false) : ComeT a Y k (l ++ [a + (rdN true 2 true q).1]) (rdN true 2 true q).2 := by
  unfold ComeT at *
  rw [rdT_step he] at h
  simpa using h
theorem ComeK.next {a : Int} {Y : List Int × List Int × List Int × Bool} {k : Nat} {l m : List Int} {q : List Int × Bool} (h : ComeK a Y (k + 1) l m q) (he : q.2 = false) :
    ComeK a Y k (l ++ [(rdN true 4 true q).1]) (m ++ [a + (rdN true 2 true (rdN true 4 true q).2).1]) (rdN true 2 true (rdN true 4 true q).2).2 := by
  unfold ComeK at *
  rw [rdK_step he] at h
  simpa using h
theorem ComeT.end_ {a : Int} {Y : List Int × List Int × Bool} {k : Nat} {l : List Int} {q : List Int × Bool} (h : ComeT a Y k l q) (he : k = 0 ∨ q.2 = true) : Y = (l, q) := by
  unfold ComeT at h
  rcases he with rfl | he
  · simpa [rdT] using h
  · rw [rdT_ended he] at h; simpa using h
theorem ComeK.end_ {a : Int} {Y : List Int × List Int × List Int × Bool} {k : Nat} {l m : List Int} {q : List Int × Bool} (h : ComeK a Y k l m q) (he : k = 0 ∨ q.2 = true) : Y = (l, m, q) := by
  unfold ComeK at h
  rcases he with rfl | he
  · simpa [rdK] using h
  · rw [rdK_ended he] at h; simpa using h
set_option maxRecDepth 100000 in
set_option maxHeartbeats 2000000 in
theorem othersT_any (w0 w : World) (h r g c0 : Nat) (x : In) (v1 v2 v : Value) (q : List Int × Bool) (H : ST w0 w h r g c0 x v1 v2 v q) (ha : 0 ≤ x.a ∧ x.a < 8192) (hl : x.to.length ≤ 20000) (Y : List Int × List Int × Bool) (hY : rdT true x.a (rdN true 2 false q).1.toNat (rdN true 2 false q).2 = Y) :
    Calls Try.prog 41 #[.pointer (some ⟨g, 0, none⟩), .func (.func 42) #[] #[.pointer (some ⟨h, 0, none⟩), .pointer (some ⟨r, 0, none⟩)]] w
      (Left w0 h r g c0 { x with to := x.to ++ Y.1 } Y.2) := by
  have hb := rdN_u2 (en := q.2) (bytes_of H.row)
  have hw : Calls Try.prog 38 #[.pointer (some ⟨g, 0, none⟩), .int .i64 2] w (PRet w0 w g x.a (rdN true 2 false (q.1, q.2))) := plain_any w0 w g q.1 v x.a q.2 2 H.pr H.row H.ext H.hg (by unfold Siz; simp)
  rw [show (q.1, q.2) = q from rfl] at hb hw
  obtain ⟨rr, hrr⟩ : ∃ rr, rdN true 2 false q = rr := ⟨_, rfl⟩
  rw [hrr] at hb hw hY
  obtain ⟨c, q'⟩ := rr
  simp only at hb hw hY
  obtain ⟨n, rfl⟩ : ∃ n : Nat, c = (n : Int) := ⟨c.toNat, by omega⟩
  rw [Int.toNat_natCast] at hY
  have HC : Hid (ComeT x.a Y n [] q') := Lib.hid (by unfold ComeT; rw [← hY]; simp)
  have HW := Lib.hid hw
  have H0 := Lib.hid H
  clear hw hrr H hY
  go_enter Try.func41, Try.ntmps41
  go_wp2_with (go_at_call 38; refine HW.out.mono ?_; rintro e w1 hp1; obtain ⟨rfl, u1, hs1⟩ := H0.out.read hp1)
  go_loopw [4] (fun i wr => ∃ (k : Nat) (l : List Int) (v1 v2 v : Value) (p : List Int × Bool), i = .int .i64 k ∧ (x.to.length + l.length + k ≤ 90000) ∧ Hid (ST w0 wr h r g c0 { x with to := x.to ++ l } v1 v2 v p) ∧ Hid (ComeT x.a Y k l p)) (fun i _ => (intOf i).toNat)
  case atStart => exact ⟨n, [], v1, v2, u1, q', rfl, by simp; omega, Lib.hid (by simpa using hs1), HC⟩
  case round =>
    obtain ⟨k, l, v1, v2, v, p, rfl, hlen, HS, HCk⟩ := hrel
    by_cases hk0 : k = 0
    · subst hk0
      have HE := Lib.hid (HCk.out.end_ (.inl rfl))
      go_wp2
      go_end0
      rw [HE.out]
      exact ⟨rfl, v1, v2, v, HS.out⟩
    · obtain ⟨j, rfl⟩ : ∃ j, k = j + 1 := ⟨k - 1, by omega⟩
      obtain ⟨d0, d1, d2, f0, f1, f2⟩ := HS.out.pr.cells
      obtain ⟨p1, p2⟩ := p
      cases p2
      · have HN := Lib.hid (HCk.out.next rfl)
        go_wp2_with (go_at_call 42; refine (lit1_any w0 _ h r g c0 _ v1 v2 v (p1, false) HS.out ha (by simp; omega)).mono ?_; rintro e w2 ⟨rfl, u1, u2, u, hs2⟩)
        go_roundw
        case rel => exact ⟨j, _, _, _, _, _, by go_num, by simp; omega, Lib.hid (by simpa using hs2), HN⟩
        case measure => simp [intOf]
      · have HE := Lib.hid (HCk.out.end_ (.inr rfl))
        go_wp2
        go_end0
        rw [HE.out]
        exact ⟨rfl, v1, v2, v, HS.out⟩
set_option maxRecDepth 100000 in
set_option maxHeartbeats 2000000 in
theorem othersK_any (w0 w : World) (h r g c0 : Nat) (x : In) (v1 v2 v : Value) (q : List Int × Bool) (H : ST w0 w h r g c0 x v1 v2 v q) (ha : 0 ≤ x.a ∧ x.a < 8192) (hl : x.to.length ≤ 20000) (hk : x.ks.length ≤ 20000) (Y : List Int × List Int × List Int × Bool) (hY : rdK true x.a (rdN true 2 false q).1.toNat (rdN true 2 false q).2 = Y) :
    Calls Try.prog 41 #[.pointer (some ⟨g, 0, none⟩), .func (.func 43) #[] #[.pointer (some ⟨h, 0, none⟩), .pointer (some ⟨r, 0, none⟩)]] w
      (Left w0 h r g c0 { x with ks := x.ks ++ Y.1, to := x.to ++ Y.2.1 } Y.2.2) := by
  have hb := rdN_u2 (en := q.2) (bytes_of H.row)
  have hw : Calls Try.prog 38 #[.pointer (some ⟨g, 0, none⟩), .int .i64 2] w (PRet w0 w g x.a (rdN true 2 false (q.1, q.2))) := plain_any w0 w g q.1 v x.a q.2 2 H.pr H.row H.ext H.hg (by unfold Siz; simp)
  rw [show (q.1, q.2) = q from rfl] at hb hw
  obtain ⟨rr, hrr⟩ : ∃ rr, rdN true 2 false q = rr := ⟨_, rfl⟩
  rw [hrr] at hb hw hY
  obtain ⟨c, q'⟩ := rr
  simp only at hb hw hY
  obtain ⟨n, rfl⟩ : ∃ n : Nat, c = (n : Int) := ⟨c.toNat, by omega⟩
  rw [Int.toNat_natCast] at hY
  have HC : Hid (ComeK x.a Y n [] [] q') := Lib.hid (by unfold ComeK; rw [← hY]; simp)
  have HW := Lib.hid hw
  have H0 := Lib.hid H
  clear hw hrr H hY
  go_enter Try.func41, Try.ntmps41
  go_wp2_with (go_at_call 38; refine HW.out.mono ?_; rintro e w1 hp1; obtain ⟨rfl, u1, hs1⟩ := H0.out.read hp1)
  go_loopw [4] (fun i wr => ∃ (k : Nat) (l m : List Int) (v1 v2 v : Value) (p : List Int × Bool), i = .int .i64 k ∧ (x.to.length + m.length + k ≤ 90000 ∧ x.ks.length + l.length + k ≤ 90000) ∧ Hid (ST w0 wr h r g c0 { x with ks := x.ks ++ l, to := x.to ++ m } v1 v2 v p) ∧ Hid (ComeK x.a Y k l m p)) (fun i _ => (intOf i).toNat)
  case atStart => exact ⟨n, [], [], v1, v2, u1, q', rfl, by simp; omega, Lib.hid (by simpa using hs1), HC⟩
  case round =>
    obtain ⟨k, l, m, v1, v2, v, p, rfl, hlen, HS, HCk⟩ := hrel
    by_cases hk0 : k = 0
    · subst hk0
      have HE := Lib.hid (HCk.out.end_ (.inl rfl))
      go_wp2
      go_end0
      rw [HE.out]
      exact ⟨rfl, v1, v2, v, HS.out⟩
    · obtain ⟨j, rfl⟩ : ∃ j, k = j + 1 := ⟨k - 1, by omega⟩
      obtain ⟨d0, d1, d2, f0, f1, f2⟩ := HS.out.pr.cells
      obtain ⟨p1, p2⟩ := p
      cases p2
      · have HN := Lib.hid (HCk.out.next rfl)
        go_wp2_with (go_at_call 43; refine (lit2_any w0 _ h r g c0 _ v1 v2 v (p1, false) HS.out ha (by simp; omega) (by simp; omega)).mono ?_; rintro e w2 ⟨rfl, u1, u2, u, hs2⟩)
        go_roundw
        case rel => exact ⟨j, _, _, _, _, _, _, by go_num, by simp; omega, Lib.hid (by simpa using hs2), HN⟩
        case measure => simp [intOf]
      · have HE := Lib.hid (HCk.out.end_ (.inr rfl))
        go_wp2
        go_end0
        rw [HE.out]
        exact ⟨rfl, v1, v2, v, HS.out⟩
end Go.Proofs.Ythobicnhophdlaa
