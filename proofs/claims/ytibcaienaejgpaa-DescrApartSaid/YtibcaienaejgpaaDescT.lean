/- The project's reader of types, walked: what a proto takes. -/
import Derived.Test.YtibcaienaejgpaaDescS
namespace Go.Proofs.Ytibcaienaejgpaa
open Go.RowKit
set_option linter.unusedVariables false

theorem infoT : (Try.prog.info? 23).map (fun i => (i.zero, i.size, i.bytes)) = some (some (.agg t0.vals), 2, 24) := by kernel_rfl
theorem refZ_k (l : List UInt8) : 0 ≤ (refZ l).1.k ∧ (refZ l).1.k ≤ 3 := by
  unfold refZ
  split <;> simp [t0]
theorem singleZ_k (l : List UInt8) : 0 ≤ (singleZ l).1.k ∧ (singleZ l).1.k ≤ 3 := by
  match l with
  | [] => exact ⟨Int.le_refl _, by decide⟩
  | c :: r =>
    have := refZ_k r
    rw [singleZ]
    repeat' split
    all_goals first | exact this | simp [t0]
theorem typZ_k (l : List UInt8) : 0 ≤ (typZ l).1.k ∧ (typZ l).1.k ≤ 6 := by
  match l with
  | [] => exact ⟨Int.le_refl _, by decide⟩
  | c :: r =>
    have h1 := singleZ_k r
    have h2 := singleZ_k (c :: r)
    rw [typZ]
    split
    · unfold overT
      split
      · simp only
        omega
      · simp [t0]
    · omega
theorem typZ_ok (l : List UInt8) : (typZ l).1.ok := by
  have h1 := typZ_k l
  have h2 := typZ_le l
  exact ⟨⟨by omega, by omega⟩, by omega⟩
/-- What a proto takes, and what is left; none if something is wrong. -/
def argsZ : List UInt8 → Option (List Ty × List UInt8)
  | [] => none
  | c :: r => if c = 40 then prs 16 r else none
def ahead (ts : List Ty) (x : Option (List Ty × List UInt8)) : Option (List Ty × List UInt8) := x.map fun y => (ts ++ y.1, y.2)
theorem ahead_nil (x : Option (List Ty × List UInt8)) : ahead [] x = x := by cases x <;> rfl
theorem prs_end (f : Nat) (r : List UInt8) : prs f (41 :: r) = some ([], r) := by
  cases f <;> rw [prs, if_pos rfl]
theorem prs_zero {l : List UInt8} (h : skipZ 41 l = (l, false)) : prs 0 l = none := by
  match l with
  | [] => rw [prs]
  | c :: r =>
    rw [prs, if_neg]
    rintro rfl
    rw [skipZ_hit] at h
    cases h
theorem prs_bad {f : Nat} {l : List UInt8} (h : skipZ 41 l = (l, false)) (h2 : (takeT l).2 = 0) : prs f l = none := by
  match f, l with
  | 0, l => exact prs_zero h
  | f + 1, [] => rw [prs]
  | f + 1, c :: r =>
    rw [prs, if_neg, if_pos h2]
    rintro rfl
    rw [skipZ_hit] at h
    cases h
theorem prs_one {f : Nat} {l : List UInt8} (h : skipZ 41 l = (l, false)) (h2 : (takeT l).2 ≠ 0) : prs (f + 1) l = ahead [(takeT l).1] (prs f (l.drop (takeT l).2)) := by
  match l with
  | [] => exact absurd rfl h2
  | c :: r =>
    rw [prs, if_neg, if_neg h2]
    · rfl
    · rintro rfl
      rw [skipZ_hit] at h
      cases h
theorem ahead_ahead (a b : List Ty) (x : Option (List Ty × List UInt8)) : ahead a (ahead b x) = ahead (a ++ b) x := by
  cases x <;> simp [ahead]
/-- How far the reading of what a proto takes has come. -/
def Come (L : List UInt8) (ts : List Ty) (l : List UInt8) (b : Bool) : Prop :=
  (b = false ∧ ts.length ≤ 16 ∧ argsZ L = ahead ts (prs (16 - ts.length) l)) ∨ (b = true ∧ ts.length ≤ 17 ∧ argsZ L = none)
theorem Come.start {L r : List UInt8} (h : skipZ 40 L = (r, true)) : Come L [] r false := by
  refine .inl ⟨rfl, Nat.zero_le _, ?_⟩
  match L with
  | [] => cases h
  | c :: s =>
    rw [skipZ] at h
    rw [argsZ]
    by_cases hc : c = 40
    · rw [if_pos hc] at h ⊢
      injection h with h
      subst h
      rw [ahead_nil]
      rfl
    · rw [if_neg hc] at h
      cases h
theorem Come.not {L : List UInt8} (h : skipZ 40 L = (L, false)) (l : List UInt8) : Come L [] l true := by
  refine .inr ⟨rfl, Nat.zero_le _, ?_⟩
  match L with
  | [] => rfl
  | c :: s =>
    rw [argsZ, if_neg]
    rintro rfl
    rw [skipZ_hit] at h
    cases h
theorem Come.full {L l : List UInt8} {ts : List Ty} (h : Come L ts l false) (hs : skipZ 41 l = (l, false)) (hn : ts.length = 16) (l' : List UInt8) : Come L ts l' true := by
  rcases h with ⟨_, h1, h2⟩ | ⟨h, _⟩
  · refine .inr ⟨rfl, by omega, ?_⟩
    rw [h2, hn, prs_zero hs]
    rfl
  · cases h
theorem Come.next {L l : List UInt8} {ts : List Ty} (h : Come L ts l false) (hs : skipZ 41 l = (l, false)) (hn : ¬ ts.length = 16) : Come L (ts ++ [(typZ l).1]) (typZ l).2.1 (!(typZ l).2.2) := by
  rcases h with ⟨_, h1, h2⟩ | ⟨h, _⟩
  · rcases typZ_take l with ⟨g1, g2⟩ | ⟨g1, g2⟩
    · refine .inr ⟨by rw [g2]; rfl, by simp; omega, ?_⟩
      rw [h2, prs_bad hs g1]
      rfl
    · refine .inl ⟨by rw [g2]; rfl, by simp; omega, ?_⟩
      rw [h2, show 16 - ts.length = (16 - (ts.length + 1)) + 1 by omega, prs_one hs g1, ahead_ahead, g2, List.length_append]
      rfl
  · cases h
theorem Come.done {L l r : List UInt8} {ts : List Ty} (h : Come L ts l false) (hs : skipZ 41 l = (r, true)) : argsZ L = some (ts, r) := by
  rcases h with ⟨_, h1, h2⟩ | ⟨h, _⟩
  · match l with
    | [] => cases hs
    | c :: s =>
      rw [skipZ] at hs
      by_cases hc : c = 41
      · subst hc
        rw [if_pos rfl] at hs
        injection hs with hs
        subst hs
        rw [h2, prs_end]
        simp [ahead]
      · rw [if_neg hc] at hs
        cases hs
  · cases h
theorem Come.wrong {L l : List UInt8} {ts : List Ty} (h : Come L ts l true) : argsZ L = none := by
  rcases h with ⟨h, _⟩ | ⟨_, _, h⟩
  · cases h
  · exact h
theorem Come.len {L l : List UInt8} {ts : List Ty} {b : Bool} (h : Come L ts l b) : ts.length ≤ 17 := by
  rcases h with ⟨_, h, _⟩ | ⟨_, h, _⟩ <;> omega
theorem Come.len16 {L l : List UInt8} {ts : List Ty} (h : Come L ts l false) : ts.length ≤ 16 := by
  rcases h with ⟨_, h, _⟩ | ⟨h, _⟩
  · exact h
  · cases h
def sliceLen : Value → Nat
  | .slice _ n _ => n
  | _ => 0
theorem grown_own {w w1 w2 w3 : World} {g : Nat} {v : Value} (h : w.grownBy w1 (some g)) (e : Ext w1 w2) (h2 : w2.grownBy w3 v.ownBlock) (hl : ∀ k, v.ownBlock = some k → w.heap.size ≤ k) : w.grownBy w3 (some g) := by
  have h1 := grown_then' h e
  refine ⟨h2.os.trans h1.os, h2.tape.trans h1.tape, h2.output.trans h1.output, Nat.le_trans h1.size h2.size, fun i hi hne => ?_⟩
  rw [h2.block i (Nat.lt_of_lt_of_le hi h1.size) (fun e => by have := hl i e.symm; omega)]
  exact h1.block i hi hne
/-- What reading what a proto takes leaves. -/
def ArgsAns (w : World) (g : Nat) (L : List UInt8) (e : Ending) (w' : World) : Prop :=
  ∃ v l b ts, e = .returned v ∧ RD w' g l b ∧ w.grownBy w' (some g) ∧ l.length ≤ L.length ∧ OwnT w.heap.size w' 23 v ts ∧ ((b = true ∧ argsZ L = none) ∨ (b = false ∧ argsZ L = some (ts, l)))
set_option maxHeartbeats 4000000 in
theorem args_any (w : World) (g : Nat) (L : List UInt8) (hl : L.length ≤ 140737488351232) (h : RD w g L false) :
    Calls Try.prog 46 #[.pointer (some ⟨g, 0, none⟩)] w (ArgsAns w g L) := by
  have hlt := h.lt
  have K40 := Lib.hid (skip_any 40 w g L false h)
  -- the way in: what the loop begins with
  have H := Lib.hid h
  clear h
  cases h40 : (skipZ 40 L).2
  · have e := skipZ_no h40
    have HC := Lib.hid (fun l => Come.not e l)
    have hk := K40.out
    rw [e] at hk
    have K := Lib.hid hk
    clear h40 e hk K40
    go_enter Try.func46, Try.ntmps46
    go_wp2_with fail
    refine K.out.mono ?_
    rintro e w1 ⟨rfl, h1, g1⟩
    have H1 := Lib.hid h1
    have HG1 := Lib.hid g1
    clear h1 g1
    go_wp2_with fail
    refine (rfail_any _ g _ _ H1.out).mono ?_
    rintro e w2 ⟨rfl, h2, g2⟩
    have H2 := Lib.hid h2
    have HG2 := Lib.hid (grown_two' HG1.out g2)
    clear h2 g2
    have HCC := Lib.hid (HC.out L)
    go_wp2
    go_loopw [3] (fun v wr => ∃ ts l b, Hid (OwnT w.heap.size wr 23 v ts) ∧ Hid (RD wr g l b) ∧ Hid (w.grownBy wr (some g)) ∧ l.length ≤ L.length ∧ Hid (Come L ts l b)) (fun v _ => 18 - sliceLen v)
    case atStart => exact ⟨[], _, _, Lib.hid (OwnT.nil _ _ _), H2, HG2, Nat.le_refl _, HCC⟩
    case round =>
      obtain ⟨ts, l, b, Ho, Hr, Hg, hle, Hc⟩ := hrel
      have hlen := Hc.out.len
      obtain ⟨A, c, hv, hcn, hcm, -⟩ := Ho.out.row
      subst hv
      obtain ⟨n, hn⟩ : ∃ n, n = ts.length := ⟨_, rfl⟩
      rw [← hn] at hlen hcn Ho ⊢
      have Hn := Lib.hid hn
      clear hn
      obtain ⟨a0, a1, f0, f1⟩ := Hr.out.cells
      cases b
      · have K41 := Lib.hid (skip_any 41 _ g l false Hr.out)
        cases h41 : (skipZ 41 l).2
        · have e := skipZ_no h41
          have hk := K41.out
          rw [e] at hk
          have K := Lib.hid hk
          have E := Lib.hid e
          clear h41 e hk K41
          by_cases h16 : n = 16
          · have hb16 : ((n : Int) == 16) = true := by rw [beq_iff_eq]; omega
            have HF := Lib.hid (fun l' => Hc.out.full E.out (by rw [← Hn.out]; exact h16) l')
            clear h16
            go_wp2_with fail
            refine K.out.mono ?_
            rintro e w5 ⟨rfl, h5, g5⟩
            have H5 := Lib.hid h5
            have HG5 := Lib.hid (grown_two' Hg.out g5)
            have HO5 := Lib.hid (Ho.out.kept g5 (fun k hk e => by injection e with e; have := Ho.out.low k hk; omega))
            clear h5 g5 a0 a1 f0 f1
            go_wp2_with fail
            refine (rfail_any _ g _ _ H5.out).mono ?_
            rintro e w6 ⟨rfl, h6, g6⟩
            have H6 := Lib.hid h6
            have HG6 := Lib.hid (grown_two' HG5.out g6)
            have HO6 := Lib.hid (HO5.out.kept g6 (fun k hk e => by injection e with e; have := HO5.out.low k hk; omega))
            clear h6 g6
            go_wp2
            go_ret
            exact ⟨_, _, _, _, rfl, H6.out, HG6.out, hle, HO6.out, .inl ⟨rfl, (HF.out l).wrong⟩⟩
          · have hb16 : ((n : Int) == 16) = false := by rw [beq_eq_false_iff_ne]; omega
            have hn16 : n ≤ 16 := by rw [Hn.out]; exact Hc.out.len16
            have HN := Lib.hid (Hc.out.next E.out (by rw [← Hn.out]; exact h16))
            have HT := Lib.hid (fun W (h : RD W g l false) => typ_any W g l false (by omega) h)
            have hle2 := (typZ_le l).1
            have hok := Lib.hid (typZ_ok l)
            obtain ⟨X, hX⟩ : ∃ X, X = typZ l := ⟨_, rfl⟩
            rw [← hX] at HN HT hle2 hok
            unfold Ty.vals at HT
            clear hX h16
            go_wp2_with fail
            refine K.out.mono ?_
            rintro e w5 ⟨rfl, h5, g5⟩
            have H5 := Lib.hid h5
            have HG5 := Lib.hid (grown_two' Hg.out g5)
            have HO5 := Lib.hid (Ho.out.kept g5 (fun k hk e => by injection e with e; have := Ho.out.low k hk; omega))
            clear h5 g5 a0 a1 f0 f1
            go_wp2_with fail
            refine (HT.out _ H5.out).mono ?_
            rintro e w6 ⟨rfl, h6, g6⟩
            have hs6 := HG5.out.size
            have hs6' := g6.size
            have H6 := Lib.hid h6
            have HG6 := Lib.hid (grown_two' HG5.out g6)
            have HO6 := Lib.hid (HO5.out.kept g6 (fun k hk e => by injection e with e; have := HO5.out.low k hk; omega))
            clear h6 g6
            go_wp2_with (at_builtin; go_loud (refine wpList_appT _ rfl _ _ w.heap.size 27 23 _ 24 rfl Try.underlying27 infoT rfl (by omega) _ ts rfl (HO6.out.ext ((Ext.refl _).alloc _)) _ [X.1] rfl (RowT.one (T := 23) (heap_alloc_new _ _) hok.out) (by rw [← Hn.out]; simp only [List.length_cons, List.length_nil]; omega) (by simp; omega) ?_); intro v7 w7 ho7 hg7 hb7)
            have H7 := Lib.hid ((H6.out.ext ((Ext.refl _).alloc _)).kept hg7 (fun k hk => by have := HO6.out.low k hk; omega))
            have HG7 := Lib.hid (grown_own HG6.out ((Ext.refl _).alloc _) hg7 HO6.out.low)
            have HO7 := Lib.hid ho7
            obtain ⟨A7, c7, hv7, -⟩ := ho7.row
            have e7 : sliceLen v7 = n + 1 := by rw [hv7, Hn.out, List.length_append]; rfl
            have E7 := Lib.hid e7
            clear hg7 hb7 ho7 hv7 e7
            go_wp2
            refine ⟨⟨ts ++ [X.1], X.2.1, _, HO7, H7, HG7, by omega, Lib.hid ?_⟩, ?_⟩
            · simpa using HN.out
            · rw [E7.out]
              show 18 - (n + 1) < 18 - n
              omega
        · obtain ⟨r, hr, e⟩ := skipZ_yes h41
          have HD := Lib.hid (Hc.out.done e)
          have hk := K41.out
          rw [e] at hk
          have K := Lib.hid hk
          have hrl : r.length ≤ L.length := by
            rw [hr] at hle
            simp only [List.length_cons] at hle
            omega
          clear h41 hr e hk K41
          go_wp2_with fail
          refine K.out.mono ?_
          rintro e w5 ⟨rfl, h5, g5⟩
          have H5 := Lib.hid h5
          have HG5 := Lib.hid (grown_two' Hg.out g5)
          have HO5 := Lib.hid (Ho.out.kept g5 (fun k hk e => by injection e with e; have := Ho.out.low k hk; omega))
          clear h5 g5 a0 a1 f0 f1
          go_wp2
          go_ret
          exact ⟨_, _, _, _, rfl, H5.out, HG5.out, hrl, HO5.out, .inr ⟨rfl, HD.out⟩⟩
      · go_wp2
        go_ret
        exact ⟨_, _, _, _, rfl, Hr.out, Hg.out, hle, Ho.out, .inl ⟨rfl, Hc.out.wrong⟩⟩
  · obtain ⟨r, hr, e⟩ := skipZ_yes h40
    have HC := Lib.hid (Come.start e)
    have hk := K40.out
    rw [e] at hk
    have K := Lib.hid hk
    clear h40 e hk K40
    go_enter Try.func46, Try.ntmps46
    go_wp2_with fail
    refine K.out.mono ?_
    rintro e w1 ⟨rfl, h1, g1⟩
    have H1 := Lib.hid h1
    have HG1 := Lib.hid g1
    clear h1 g1
    go_wp2
    have hrl : r.length ≤ L.length := by rw [hr]; simp
    clear hr
    go_loopw [3] (fun v wr => ∃ ts l b, Hid (OwnT w.heap.size wr 23 v ts) ∧ Hid (RD wr g l b) ∧ Hid (w.grownBy wr (some g)) ∧ l.length ≤ L.length ∧ Hid (Come L ts l b)) (fun v _ => 18 - sliceLen v)
    case atStart => exact ⟨[], _, _, Lib.hid (OwnT.nil _ _ _), H1, HG1, hrl, HC⟩
    case round =>
      obtain ⟨ts, l, b, Ho, Hr, Hg, hle, Hc⟩ := hrel
      have hlen := Hc.out.len
      obtain ⟨A, c, hv, hcn, hcm, -⟩ := Ho.out.row
      subst hv
      obtain ⟨n, hn⟩ : ∃ n, n = ts.length := ⟨_, rfl⟩
      rw [← hn] at hlen hcn Ho ⊢
      have Hn := Lib.hid hn
      clear hn
      obtain ⟨a0, a1, f0, f1⟩ := Hr.out.cells
      cases b
      · have K41 := Lib.hid (skip_any 41 _ g l false Hr.out)
        cases h41 : (skipZ 41 l).2
        · have e := skipZ_no h41
          have hk := K41.out
          rw [e] at hk
          have K := Lib.hid hk
          have E := Lib.hid e
          clear h41 e hk K41
          by_cases h16 : n = 16
          · have hb16 : ((n : Int) == 16) = true := by rw [beq_iff_eq]; omega
            have HF := Lib.hid (fun l' => Hc.out.full E.out (by rw [← Hn.out]; exact h16) l')
            clear h16
            go_wp2_with fail
            refine K.out.mono ?_
            rintro e w5 ⟨rfl, h5, g5⟩
            have H5 := Lib.hid h5
            have HG5 := Lib.hid (grown_two' Hg.out g5)
            have HO5 := Lib.hid (Ho.out.kept g5 (fun k hk e => by injection e with e; have := Ho.out.low k hk; omega))
            clear h5 g5 a0 a1 f0 f1
            go_wp2_with fail
            refine (rfail_any _ g _ _ H5.out).mono ?_
            rintro e w6 ⟨rfl, h6, g6⟩
            have H6 := Lib.hid h6
            have HG6 := Lib.hid (grown_two' HG5.out g6)
            have HO6 := Lib.hid (HO5.out.kept g6 (fun k hk e => by injection e with e; have := HO5.out.low k hk; omega))
            clear h6 g6
            go_wp2
            go_ret
            exact ⟨_, _, _, _, rfl, H6.out, HG6.out, hle, HO6.out, .inl ⟨rfl, (HF.out l).wrong⟩⟩
          · have hb16 : ((n : Int) == 16) = false := by rw [beq_eq_false_iff_ne]; omega
            have hn16 : n ≤ 16 := by rw [Hn.out]; exact Hc.out.len16
            have HN := Lib.hid (Hc.out.next E.out (by rw [← Hn.out]; exact h16))
            have HT := Lib.hid (fun W (h : RD W g l false) => typ_any W g l false (by omega) h)
            have hle2 := (typZ_le l).1
            have hok := Lib.hid (typZ_ok l)
            obtain ⟨X, hX⟩ : ∃ X, X = typZ l := ⟨_, rfl⟩
            rw [← hX] at HN HT hle2 hok
            unfold Ty.vals at HT
            clear hX h16
            go_wp2_with fail
            refine K.out.mono ?_
            rintro e w5 ⟨rfl, h5, g5⟩
            have H5 := Lib.hid h5
            have HG5 := Lib.hid (grown_two' Hg.out g5)
            have HO5 := Lib.hid (Ho.out.kept g5 (fun k hk e => by injection e with e; have := Ho.out.low k hk; omega))
            clear h5 g5 a0 a1 f0 f1
            go_wp2_with fail
            refine (HT.out _ H5.out).mono ?_
            rintro e w6 ⟨rfl, h6, g6⟩
            have hs6 := HG5.out.size
            have hs6' := g6.size
            have H6 := Lib.hid h6
            have HG6 := Lib.hid (grown_two' HG5.out g6)
            have HO6 := Lib.hid (HO5.out.kept g6 (fun k hk e => by injection e with e; have := HO5.out.low k hk; omega))
            clear h6 g6
            go_wp2_with (at_builtin; go_loud (refine wpList_appT _ rfl _ _ w.heap.size 27 23 _ 24 rfl Try.underlying27 infoT rfl (by omega) _ ts rfl (HO6.out.ext ((Ext.refl _).alloc _)) _ [X.1] rfl (RowT.one (T := 23) (heap_alloc_new _ _) hok.out) (by rw [← Hn.out]; simp only [List.length_cons, List.length_nil]; omega) (by simp; omega) ?_); intro v7 w7 ho7 hg7 hb7)
            have H7 := Lib.hid ((H6.out.ext ((Ext.refl _).alloc _)).kept hg7 (fun k hk => by have := HO6.out.low k hk; omega))
            have HG7 := Lib.hid (grown_own HG6.out ((Ext.refl _).alloc _) hg7 HO6.out.low)
            have HO7 := Lib.hid ho7
            obtain ⟨A7, c7, hv7, -⟩ := ho7.row
            have e7 : sliceLen v7 = n + 1 := by rw [hv7, Hn.out, List.length_append]; rfl
            have E7 := Lib.hid e7
            clear hg7 hb7 ho7 hv7 e7
            go_wp2
            refine ⟨⟨ts ++ [X.1], X.2.1, _, HO7, H7, HG7, by omega, Lib.hid ?_⟩, ?_⟩
            · simpa using HN.out
            · rw [E7.out]
              show 18 - (n + 1) < 18 - n
              omega
        · obtain ⟨r, hr, e⟩ := skipZ_yes h41
          have HD := Lib.hid (Hc.out.done e)
          have hk := K41.out
          rw [e] at hk
          have K := Lib.hid hk
          have hrl : r.length ≤ L.length := by
            rw [hr] at hle
            simp only [List.length_cons] at hle
            omega
          clear h41 hr e hk K41
          go_wp2_with fail
          refine K.out.mono ?_
          rintro e w5 ⟨rfl, h5, g5⟩
          have H5 := Lib.hid h5
          have HG5 := Lib.hid (grown_two' Hg.out g5)
          have HO5 := Lib.hid (Ho.out.kept g5 (fun k hk e => by injection e with e; have := Ho.out.low k hk; omega))
          clear h5 g5 a0 a1 f0 f1
          go_wp2
          go_ret
          exact ⟨_, _, _, _, rfl, H5.out, HG5.out, hrl, HO5.out, .inr ⟨rfl, HD.out⟩⟩
      · go_wp2
        go_ret
        exact ⟨_, _, _, _, rfl, Hr.out, Hg.out, hle, Ho.out, .inl ⟨rfl, Hc.out.wrong⟩⟩
end Go.Proofs.Ytibcaienaejgpaa
