/- Several texts of this proof, one behind the other. -/
import Derived.Test.YtokmeomjdpfknaaGreatDoorZbT
namespace Go.Proofs.YtokmeomjdpfknaaGreatDoor
open Go.RowKit
set_option linter.unusedVariables false

theorem infoTD : (Tryz.prog.info? 41).map (fun i => (i.zero, i.size, i.bytes)) = some (some (.agg t0D.vals), 2, 24) := by kernel_rfl
theorem refZ_k (l : List UInt8) : 0 ≤ (refZ l).1.k ∧ (refZ l).1.k ≤ 3 := by
  unfold refZ
  split <;> simp [t0D]
theorem singleZ_k (l : List UInt8) : 0 ≤ (singleZ l).1.k ∧ (singleZ l).1.k ≤ 3 := by
  match l with
  | [] => exact ⟨Int.le_refl _, by decide⟩
  | c :: r =>
    have := refZ_k r
    rw [singleZ]
    repeat' split
    all_goals first | exact this | simp [t0D]
theorem typZ_k (l : List UInt8) : 0 ≤ (typZ l).1.k ∧ (typZ l).1.k ≤ 6 := by
  match l with
  | [] => exact ⟨Int.le_refl _, by decide⟩
  | c :: r =>
    have h1 := singleZ_k r
    have h2 := singleZ_k (c :: r)
    rw [typZ]
    split
    · unfold overT
      split
      · simp only
        omega
      · simp [t0D]
    · omega
theorem typZ_ok (l : List UInt8) : (typZ l).1.ok := by
  have h1 := typZ_k l
  have h2 := typZ_le l
  exact ⟨⟨by omega, by omega⟩, by omega⟩
def argsZ : List UInt8 → Option (List TyD × List UInt8)
  | [] => none
  | c :: r => if c = 40 then prs 16 r else none
def ahead (ts : List TyD) (x : Option (List TyD × List UInt8)) : Option (List TyD × List UInt8) := x.map fun y => (ts ++ y.1, y.2)
theorem ahead_nil (x : Option (List TyD × List UInt8)) : ahead [] x = x := by cases x <;> rfl
theorem prs_end (f : Nat) (r : List UInt8) : prs f (41 :: r) = some ([], r) := by
  cases f <;> rw [prs, if_pos rfl]
theorem prs_zero {l : List UInt8} (h : skipZ 41 l = (l, false)) : prs 0 l = none := by
  match l with
  | [] => rw [prs]
  | c :: r =>
    rw [prs, if_neg]
    rintro rfl
    rw [skipZ_hit] at h
    cases h
theorem prs_bad {f : Nat} {l : List UInt8} (h : skipZ 41 l = (l, false)) (h2 : (takeT l).2 = 0) : prs f l = none := by
  match f, l with
  | 0, l => exact prs_zero h
  | f + 1, [] => rw [prs]
  | f + 1, c :: r =>
    rw [prs, if_neg, if_pos h2]
    rintro rfl
    rw [skipZ_hit] at h
    cases h
theorem prs_one {f : Nat} {l : List UInt8} (h : skipZ 41 l = (l, false)) (h2 : (takeT l).2 ≠ 0) : prs (f + 1) l = ahead [(takeT l).1] (prs f (l.drop (takeT l).2)) := by
  match l with
  | [] => exact absurd rfl h2
  | c :: r =>
    rw [prs, if_neg, if_neg h2]
    · rfl
    · rintro rfl
      rw [skipZ_hit] at h
      cases h
theorem ahead_ahead (a b : List TyD) (x : Option (List TyD × List UInt8)) : ahead a (ahead b x) = ahead (a ++ b) x := by
  cases x <;> simp [ahead]
def ComeD (L : List UInt8) (ts : List TyD) (l : List UInt8) (b : Bool) : Prop :=
  (b = false ∧ ts.length ≤ 16 ∧ argsZ L = ahead ts (prs (16 - ts.length) l)) ∨ (b = true ∧ ts.length ≤ 17 ∧ argsZ L = none)
theorem ComeD.start {L r : List UInt8} (h : skipZ 40 L = (r, true)) : ComeD L [] r false := by
  refine .inl ⟨rfl, Nat.zero_le _, ?_⟩
  match L with
  | [] => cases h
  | c :: s =>
    rw [skipZ] at h
    rw [argsZ]
    by_cases hc : c = 40
    · rw [if_pos hc] at h ⊢
      injection h with h
      subst h
      rw [ahead_nil]
      rfl
    · rw [if_neg hc] at h
      cases h
theorem ComeD.not {L : List UInt8} (h : skipZ 40 L = (L, false)) (l : List UInt8) : ComeD L [] l true := by
  refine .inr ⟨rfl, Nat.zero_le _, ?_⟩
  match L with
  | [] => rfl
  | c :: s =>
    rw [argsZ, if_neg]
    rintro rfl
    rw [skipZ_hit] at h
    cases h
theorem ComeD.full {L l : List UInt8} {ts : List TyD} (h : ComeD L ts l false) (hs : skipZ 41 l = (l, false)) (hn : ts.length = 16) (l' : List UInt8) : ComeD L ts l' true := by
  rcases h with ⟨_, h1, h2⟩ | ⟨h, _⟩
  · refine .inr ⟨rfl, by omega, ?_⟩
    rw [h2, hn, prs_zero hs]
    rfl
  · cases h
theorem ComeD.next {L l : List UInt8} {ts : List TyD} (h : ComeD L ts l false) (hs : skipZ 41 l = (l, false)) (hn : ¬ ts.length = 16) : ComeD L (ts ++ [(typZ l).1]) (typZ l).2.1 (!(typZ l).2.2) := by
  rcases h with ⟨_, h1, h2⟩ | ⟨h, _⟩
  · rcases typZ_take l with ⟨g1, g2⟩ | ⟨g1, g2⟩
    · refine .inr ⟨by rw [g2]; rfl, by simp; omega, ?_⟩
      rw [h2, prs_bad hs g1]
      rfl
    · refine .inl ⟨by rw [g2]; rfl, by simp; omega, ?_⟩
      rw [h2, show 16 - ts.length = (16 - (ts.length + 1)) + 1 by omega, prs_one hs g1, ahead_ahead, g2, List.length_append]
      rfl
  · cases h
theorem ComeD.done {L l r : List UInt8} {ts : List TyD} (h : ComeD L ts l false) (hs : skipZ 41 l = (r, true)) : argsZ L = some (ts, r) := by
  rcases h with ⟨_, h1, h2⟩ | ⟨h, _⟩
  · match l with
    | [] => cases hs
    | c :: s =>
      rw [skipZ] at hs
      by_cases hc : c = 41
      · subst hc
        rw [if_pos rfl] at hs
        injection hs with hs
        subst hs
        rw [h2, prs_end]
        simp [ahead]
      · rw [if_neg hc] at hs
        cases hs
  · cases h
theorem ComeD.wrong {L l : List UInt8} {ts : List TyD} (h : ComeD L ts l true) : argsZ L = none := by
  rcases h with ⟨h, _⟩ | ⟨_, _, h⟩
  · cases h
  · exact h
theorem ComeD.len {L l : List UInt8} {ts : List TyD} {b : Bool} (h : ComeD L ts l b) : ts.length ≤ 17 := by
  rcases h with ⟨_, h, _⟩ | ⟨_, h, _⟩ <;> omega
theorem ComeD.len16 {L l : List UInt8} {ts : List TyD} (h : ComeD L ts l false) : ts.length ≤ 16 := by
  rcases h with ⟨_, h, _⟩ | ⟨h, _⟩
  · exact h
  · cases h
def sliceLen : Value → Nat
  | .slice _ n _ => n
  | _ => 0
theorem grown_own {w w1 w2 w3 : World} {g : Nat} {v : Value} (h : w.grownBy w1 (some g)) (e : Ext w1 w2) (h2 : w2.grownBy w3 v.ownBlock) (hl : ∀ k, v.ownBlock = some k → w.heap.size ≤ k) : w.grownBy w3 (some g) := by
  have h1 := grown_thenD' h e
  refine ⟨h2.os.trans h1.os, h2.tape.trans h1.tape, h2.output.trans h1.output, Nat.le_trans h1.size h2.size, fun i hi hne => ?_⟩
  rw [h2.block i (Nat.lt_of_lt_of_le hi h1.size) (fun e => by have := hl i e.symm; omega)]
  exact h1.block i hi hne
def ArgsAns (w : World) (g : Nat) (L : List UInt8) (e : Ending) (w' : World) : Prop :=
  ∃ v l b ts, e = .returned v ∧ RD w' g l b ∧ w.grownBy w' (some g) ∧ l.length ≤ L.length ∧ OwnT w.heap.size w' 41 v ts ∧ ((b = true ∧ argsZ L = none) ∨ (b = false ∧ argsZ L = some (ts, l)))
set_option maxHeartbeats 4000000 in
theorem args_any (w : World) (g : Nat) (L : List UInt8) (hl : L.length ≤ 140737488351232) (h : RD w g L false) :
    Calls Tryz.prog 226 #[.pointer (some ⟨g, 0, none⟩)] w (ArgsAns w g L) := by
  have hlt := h.lt
  have K40 := Lib.hid (skip_any 40 w g L false h)
  -- the way in: what the loop begins with
  have H := Lib.hid h
  clear h
  cases h40 : (skipZ 40 L).2
  · have e := skipZ_no h40
    have HC := Lib.hid (fun l => ComeD.not e l)
    have hk := K40.out
    rw [e] at hk
    have K := Lib.hid hk
    clear h40 e hk K40
    go_enter Tryz.func226, Tryz.ntmps226
    go_wp2_with fail
    refine K.out.mono ?_
    rintro e w1 ⟨rfl, h1, g1⟩
    have H1 := Lib.hid h1
    have HG1 := Lib.hid g1
    clear h1 g1
    go_wp2_with fail
    refine (rfail_any _ g _ _ H1.out).mono ?_
    rintro e w2 ⟨rfl, h2, g2⟩
    have H2 := Lib.hid h2
    have HG2 := Lib.hid (grown_twoD' HG1.out g2)
    clear h2 g2
    have HCC := Lib.hid (HC.out L)
    go_wp2
    go_loopw [3] (fun v wr => ∃ ts l b, Hid (OwnT w.heap.size wr 41 v ts) ∧ Hid (RD wr g l b) ∧ Hid (w.grownBy wr (some g)) ∧ l.length ≤ L.length ∧ Hid (ComeD L ts l b)) (fun v _ => 18 - sliceLen v)
    case atStart => exact ⟨[], _, _, Lib.hid (OwnT.nil _ _ _), H2, HG2, Nat.le_refl _, HCC⟩
    case round =>
      obtain ⟨ts, l, b, Ho, Hr, Hg, hle, Hc⟩ := hrel
      have hlen := Hc.out.len
      obtain ⟨A, c, hv, hcn, hcm, -⟩ := Ho.out.row
      subst hv
      obtain ⟨n, hn⟩ : ∃ n, n = ts.length := ⟨_, rfl⟩
      rw [← hn] at hlen hcn Ho ⊢
      have Hn := Lib.hid hn
      clear hn
      obtain ⟨a0, a1, f0, f1⟩ := Hr.out.cells
      cases b
      · have K41 := Lib.hid (skip_any 41 _ g l false Hr.out)
        cases h41 : (skipZ 41 l).2
        · have e := skipZ_no h41
          have hk := K41.out
          rw [e] at hk
          have K := Lib.hid hk
          have E := Lib.hid e
          clear h41 e hk K41
          by_cases h16 : n = 16
          · have hb16 : ((n : Int) == 16) = true := by rw [beq_iff_eq]; omega
            have HF := Lib.hid (fun l' => Hc.out.full E.out (by rw [← Hn.out]; exact h16) l')
            clear h16
            go_wp2_with fail
            refine K.out.mono ?_
            rintro e w5 ⟨rfl, h5, g5⟩
            have H5 := Lib.hid h5
            have HG5 := Lib.hid (grown_twoD' Hg.out g5)
            have HO5 := Lib.hid (Ho.out.kept g5 (fun k hk e => by injection e with e; have := Ho.out.low k hk; omega))
            clear h5 g5 a0 a1 f0 f1
            go_wp2_with fail
            refine (rfail_any _ g _ _ H5.out).mono ?_
            rintro e w6 ⟨rfl, h6, g6⟩
            have H6 := Lib.hid h6
            have HG6 := Lib.hid (grown_twoD' HG5.out g6)
            have HO6 := Lib.hid (HO5.out.kept g6 (fun k hk e => by injection e with e; have := HO5.out.low k hk; omega))
            clear h6 g6
            go_wp2
            go_ret
            exact ⟨_, _, _, _, rfl, H6.out, HG6.out, hle, HO6.out, .inl ⟨rfl, (HF.out l).wrong⟩⟩
          · have hb16 : ((n : Int) == 16) = false := by rw [beq_eq_false_iff_ne]; omega
            have hn16 : n ≤ 16 := by rw [Hn.out]; exact Hc.out.len16
            have HN := Lib.hid (Hc.out.next E.out (by rw [← Hn.out]; exact h16))
            have HT := Lib.hid (fun W (h : RD W g l false) => typ_any W g l false (by omega) h)
            have hle2 := (typZ_le l).1
            have hok := Lib.hid (typZ_ok l)
            obtain ⟨X, hX⟩ : ∃ X, X = typZ l := ⟨_, rfl⟩
            rw [← hX] at HN HT hle2 hok
            unfold TyD.vals at HT
            clear hX h16
            go_wp2_with fail
            refine K.out.mono ?_
            rintro e w5 ⟨rfl, h5, g5⟩
            have H5 := Lib.hid h5
            have HG5 := Lib.hid (grown_twoD' Hg.out g5)
            have HO5 := Lib.hid (Ho.out.kept g5 (fun k hk e => by injection e with e; have := Ho.out.low k hk; omega))
            clear h5 g5 a0 a1 f0 f1
            go_wp2_with fail
            refine (HT.out _ H5.out).mono ?_
            rintro e w6 ⟨rfl, h6, g6⟩
            have hs6 := HG5.out.size
            have hs6' := g6.size
            have H6 := Lib.hid h6
            have HG6 := Lib.hid (grown_twoD' HG5.out g6)
            have HO6 := Lib.hid (HO5.out.kept g6 (fun k hk e => by injection e with e; have := HO5.out.low k hk; omega))
            clear h6 g6
            go_wp2_with (at_builtin; go_loud (refine wpList_appT _ rfl _ _ w.heap.size 42 41 _ 24 rfl Tryz.underlying42 infoTD rfl (by omega) _ ts rfl (HO6.out.ext ((Ext.refl _).alloc _)) _ [X.1] rfl (RowT.one (T := 41) (heap_alloc_new _ _) hok.out) (by rw [← Hn.out]; simp only [List.length_cons, List.length_nil]; omega) (by simp; omega) ?_); intro v7 w7 ho7 hg7 hb7)
            have H7 := Lib.hid ((H6.out.ext ((Ext.refl _).alloc _)).kept hg7 (fun k hk => by have := HO6.out.low k hk; omega))
            have HG7 := Lib.hid (grown_own HG6.out ((Ext.refl _).alloc _) hg7 HO6.out.low)
            have HO7 := Lib.hid ho7
            obtain ⟨A7, c7, hv7, -⟩ := ho7.row
            have e7 : sliceLen v7 = n + 1 := by rw [hv7, Hn.out, List.length_append]; rfl
            have E7 := Lib.hid e7
            clear hg7 hb7 ho7 hv7 e7
            go_wp2
            refine ⟨⟨ts ++ [X.1], X.2.1, _, HO7, H7, HG7, by omega, Lib.hid ?_⟩, ?_⟩
            · simpa using HN.out
            · rw [E7.out]
              show 18 - (n + 1) < 18 - n
              omega
        · obtain ⟨r, hr, e⟩ := skipZ_yes h41
          have HD := Lib.hid (Hc.out.done e)
          have hk := K41.out
          rw [e] at hk
          have K := Lib.hid hk
          have hrl : r.length ≤ L.length := by
            rw [hr] at hle
            simp only [List.length_cons] at hle
            omega
          clear h41 hr e hk K41
          go_wp2_with fail
          refine K.out.mono ?_
          rintro e w5 ⟨rfl, h5, g5⟩
          have H5 := Lib.hid h5
          have HG5 := Lib.hid (grown_twoD' Hg.out g5)
          have HO5 := Lib.hid (Ho.out.kept g5 (fun k hk e => by injection e with e; have := Ho.out.low k hk; omega))
          clear h5 g5 a0 a1 f0 f1
          go_wp2
          go_ret
          exact ⟨_, _, _, _, rfl, H5.out, HG5.out, hrl, HO5.out, .inr ⟨rfl, HD.out⟩⟩
      · go_wp2
        go_ret
        exact ⟨_, _, _, _, rfl, Hr.out, Hg.out, hle, Ho.out, .inl ⟨rfl, Hc.out.wrong⟩⟩
  · obtain ⟨r, hr, e⟩ := skipZ_yes h40
    have HC := Lib.hid (ComeD.start e)
    have hk := K40.out
    rw [e] at hk
    have K := Lib.hid hk
    clear h40 e hk K40
    go_enter Tryz.func226, Tryz.ntmps226
    go_wp2_with fail
    refine K.out.mono ?_
    rintro e w1 ⟨rfl, h1, g1⟩
    have H1 := Lib.hid h1
    have HG1 := Lib.hid g1
    clear h1 g1
    go_wp2
    have hrl : r.length ≤ L.length := by rw [hr]; simp
    clear hr
    go_loopw [3] (fun v wr => ∃ ts l b, Hid (OwnT w.heap.size wr 41 v ts) ∧ Hid (RD wr g l b) ∧ Hid (w.grownBy wr (some g)) ∧ l.length ≤ L.length ∧ Hid (ComeD L ts l b)) (fun v _ => 18 - sliceLen v)
    case atStart => exact ⟨[], _, _, Lib.hid (OwnT.nil _ _ _), H1, HG1, hrl, HC⟩
    case round =>
      obtain ⟨ts, l, b, Ho, Hr, Hg, hle, Hc⟩ := hrel
      have hlen := Hc.out.len
      obtain ⟨A, c, hv, hcn, hcm, -⟩ := Ho.out.row
      subst hv
      obtain ⟨n, hn⟩ : ∃ n, n = ts.length := ⟨_, rfl⟩
      rw [← hn] at hlen hcn Ho ⊢
      have Hn := Lib.hid hn
      clear hn
      obtain ⟨a0, a1, f0, f1⟩ := Hr.out.cells
      cases b
      · have K41 := Lib.hid (skip_any 41 _ g l false Hr.out)
        cases h41 : (skipZ 41 l).2
        · have e := skipZ_no h41
          have hk := K41.out
          rw [e] at hk
          have K := Lib.hid hk
          have E := Lib.hid e
          clear h41 e hk K41
          by_cases h16 : n = 16
          · have hb16 : ((n : Int) == 16) = true := by rw [beq_iff_eq]; omega
            have HF := Lib.hid (fun l' => Hc.out.full E.out (by rw [← Hn.out]; exact h16) l')
            clear h16
            go_wp2_with fail
            refine K.out.mono ?_
            rintro e w5 ⟨rfl, h5, g5⟩
            have H5 := Lib.hid h5
            have HG5 := Lib.hid (grown_twoD' Hg.out g5)
            have HO5 := Lib.hid (Ho.out.kept g5 (fun k hk e => by injection e with e; have := Ho.out.low k hk; omega))
            clear h5 g5 a0 a1 f0 f1
            go_wp2_with fail
            refine (rfail_any _ g _ _ H5.out).mono ?_
            rintro e w6 ⟨rfl, h6, g6⟩
            have H6 := Lib.hid h6
            have HG6 := Lib.hid (grown_twoD' HG5.out g6)
            have HO6 := Lib.hid (HO5.out.kept g6 (fun k hk e => by injection e with e; have := HO5.out.low k hk; omega))
            clear h6 g6
            go_wp2
            go_ret
            exact ⟨_, _, _, _, rfl, H6.out, HG6.out, hle, HO6.out, .inl ⟨rfl, (HF.out l).wrong⟩⟩
          · have hb16 : ((n : Int) == 16) = false := by rw [beq_eq_false_iff_ne]; omega
            have hn16 : n ≤ 16 := by rw [Hn.out]; exact Hc.out.len16
            have HN := Lib.hid (Hc.out.next E.out (by rw [← Hn.out]; exact h16))
            have HT := Lib.hid (fun W (h : RD W g l false) => typ_any W g l false (by omega) h)
            have hle2 := (typZ_le l).1
            have hok := Lib.hid (typZ_ok l)
            obtain ⟨X, hX⟩ : ∃ X, X = typZ l := ⟨_, rfl⟩
            rw [← hX] at HN HT hle2 hok
            unfold TyD.vals at HT
            clear hX h16
            go_wp2_with fail
            refine K.out.mono ?_
            rintro e w5 ⟨rfl, h5, g5⟩
            have H5 := Lib.hid h5
            have HG5 := Lib.hid (grown_twoD' Hg.out g5)
            have HO5 := Lib.hid (Ho.out.kept g5 (fun k hk e => by injection e with e; have := Ho.out.low k hk; omega))
            clear h5 g5 a0 a1 f0 f1
            go_wp2_with fail
            refine (HT.out _ H5.out).mono ?_
            rintro e w6 ⟨rfl, h6, g6⟩
            have hs6 := HG5.out.size
            have hs6' := g6.size
            have H6 := Lib.hid h6
            have HG6 := Lib.hid (grown_twoD' HG5.out g6)
            have HO6 := Lib.hid (HO5.out.kept g6 (fun k hk e => by injection e with e; have := HO5.out.low k hk; omega))
            clear h6 g6
            go_wp2_with (at_builtin; go_loud (refine wpList_appT _ rfl _ _ w.heap.size 42 41 _ 24 rfl Tryz.underlying42 infoTD rfl (by omega) _ ts rfl (HO6.out.ext ((Ext.refl _).alloc _)) _ [X.1] rfl (RowT.one (T := 41) (heap_alloc_new _ _) hok.out) (by rw [← Hn.out]; simp only [List.length_cons, List.length_nil]; omega) (by simp; omega) ?_); intro v7 w7 ho7 hg7 hb7)
            have H7 := Lib.hid ((H6.out.ext ((Ext.refl _).alloc _)).kept hg7 (fun k hk => by have := HO6.out.low k hk; omega))
            have HG7 := Lib.hid (grown_own HG6.out ((Ext.refl _).alloc _) hg7 HO6.out.low)
            have HO7 := Lib.hid ho7
            obtain ⟨A7, c7, hv7, -⟩ := ho7.row
            have e7 : sliceLen v7 = n + 1 := by rw [hv7, Hn.out, List.length_append]; rfl
            have E7 := Lib.hid e7
            clear hg7 hb7 ho7 hv7 e7
            go_wp2
            refine ⟨⟨ts ++ [X.1], X.2.1, _, HO7, H7, HG7, by omega, Lib.hid ?_⟩, ?_⟩
            · simpa using HN.out
            · rw [E7.out]
              show 18 - (n + 1) < 18 - n
              omega
        · obtain ⟨r, hr, e⟩ := skipZ_yes h41
          have HD := Lib.hid (Hc.out.done e)
          have hk := K41.out
          rw [e] at hk
          have K := Lib.hid hk
          have hrl : r.length ≤ L.length := by
            rw [hr] at hle
            simp only [List.length_cons] at hle
            omega
          clear h41 hr e hk K41
          go_wp2_with fail
          refine K.out.mono ?_
          rintro e w5 ⟨rfl, h5, g5⟩
          have H5 := Lib.hid h5
          have HG5 := Lib.hid (grown_twoD' Hg.out g5)
          have HO5 := Lib.hid (Ho.out.kept g5 (fun k hk e => by injection e with e; have := Ho.out.low k hk; omega))
          clear h5 g5 a0 a1 f0 f1
          go_wp2
          go_ret
          exact ⟨_, _, _, _, rfl, H5.out, HG5.out, hrl, HO5.out, .inr ⟨rfl, HD.out⟩⟩
      · go_wp2
        go_ret
        exact ⟨_, _, _, _, rfl, Hr.out, Hg.out, hle, Ho.out, .inl ⟨rfl, Hc.out.wrong⟩⟩
end Go.Proofs.YtokmeomjdpfknaaGreatDoor
namespace Go.Proofs.YtokmeomjdpfknaaGreatDoor
open Go.RowKit
set_option linter.unusedVariables false

theorem typeZ_of (l : List UInt8) : typeZ l = if (typZ l).2.2 = true ∧ (typZ l).2.1 = [] then ((typZ l).1, 0) else (t0D, 50) := by
  unfold typeZ
  rcases typZ_take l with ⟨h1, h2⟩ | ⟨h1, h2⟩
  · rw [if_pos (.inl h1), if_neg]
    rw [h2]
    simp
  · rw [h2]
    by_cases hd : (takeT l).2 < l.length
    · rw [if_pos (.inr hd), if_neg]
      rintro ⟨_, h⟩
      have := List.drop_eq_nil_iff.1 h
      omega
    · rw [if_neg (by omega), if_pos]
      exact ⟨rfl, List.drop_eq_nil_iff.2 (by omega)⟩
theorem protoZ_none {l : List UInt8} (h : argsZ l = none) : protoZ l = (⟨t0D, []⟩, 50) := by
  match l with
  | [] => rfl
  | c :: r =>
    rw [argsZ] at h
    unfold protoZ
    simp only
    by_cases hc : c = 40
    · rw [if_pos hc] at h ⊢
      rw [h]
    · rw [if_neg hc]
theorem protoZ_some {l q : List UInt8} {ts : List TyD} (h : argsZ l = some (ts, q)) : protoZ l = if (retZ q).2.2 = true ∧ (retZ q).2.1 = [] then (⟨(retZ q).1, ts⟩, 0) else (⟨t0D, []⟩, 50) := by
  match l with
  | [] => cases h
  | c :: r =>
    rw [argsZ] at h
    unfold protoZ
    simp only
    by_cases hc : c = 40
    · rw [if_pos hc] at h ⊢
      rw [h]
      simp only
      match q with
      | [] => rfl
      | d :: s =>
        rw [retZ]
        by_cases hd : d = 86
        · subst hd
          rw [if_pos rfl]
          match s with
          | [] => rfl
          | x :: s => rfl
        · have h86 : ¬ d :: s = [86] := by
            intro e
            injection e with e
            exact hd e
          rw [if_neg hd, if_neg h86, typeZ_of]
          by_cases hx : (typZ (d :: s)).2.2 = true ∧ (typZ (d :: s)).2.1 = []
          · rw [if_pos hx, if_pos hx]
            rfl
          · rw [if_neg hx, if_neg hx]
            rfl
    · rw [if_neg hc] at h
      cases h
def BlkP (w : World) (R : Nat) : Prop := w.heap[R]? = some (.cells #[.int .i64 0, .string ⟨#[]⟩, .slice none 0 0] 44 (0, 0))
theorem BlkP.new (w : World) : BlkP (w.alloc (.cells #[.int .i64 0, .string ⟨#[]⟩, .slice none 0 0] 44)) w.heap.size := heap_alloc_new _ _
theorem BlkP.ext {w w' : World} {R : Nat} (h : BlkP w R) (he : Ext w w') : BlkP w' R := (he.block R (lt_of_get h)).trans h
theorem BlkP.kept {w w' : World} {R : Nat} {r : Option Nat} (h : BlkP w R) (hw : w.grownBy w' r) (hr : ∀ k, r = some k → k ≠ R) : BlkP w' R := (hw.block R (lt_of_get h) (fun e => hr R e.symm rfl)).trans h
theorem BlkP.cells {w : World} {R : Nat} (h : BlkP w R) : w.cell? ⟨R, 0, none⟩ = some (.int .i64 0) ∧ w.cell? ⟨R, 1, none⟩ = some (.string ⟨#[]⟩) ∧ w.cell? ⟨R, 2, none⟩ = some (.slice none 0 0) ∧ w.frozen? ⟨R, 0, none⟩ = false ∧ w.frozen? ⟨R, 1, none⟩ = false ∧ w.frozen? ⟨R, 2, none⟩ = false :=
  ⟨by rw [cell_of_row w R 0 _ _ (0, 0) h]; rfl, by rw [cell_of_row w R 1 _ _ (0, 0) h]; rfl, by rw [cell_of_row w R 2 _ _ (0, 0) h]; rfl, by simp [World.frozen?, show w.heap[R]? = _ from h], by simp [World.frozen?, show w.heap[R]? = _ from h], by simp [World.frozen?, show w.heap[R]? = _ from h]⟩
theorem made (w : World) (l : List UInt8) (o : Obj) : RD ((w.alloc o).alloc (.cells #[.string (bs l), .bool false] 248)) (w.heap.size + 1) l false := by
  have := heap_alloc_new (w.alloc o) (.cells #[.string (bs l), .bool false] 248)
  unfold RD
  simpa using this

set_option maxHeartbeats 1000000 in
theorem Type_w1 (l : List UInt8) (hl : l.length ≤ 140737488351232) (w : World) (p1 : (typZ l).2.2 = false) :
    Calls Tryz.prog 184 #[.string (bs l)] w fun e w' => e = .returned (.tuple #[.agg (TyD.vals t0D), .int .i64 50]) ∧ Ext w w' := by
  obtain ⟨w1, hw1⟩ : ∃ w1, w1 = (w.alloc (.cells #[.int .i64 0, .string ⟨#[]⟩] 41)).alloc (.cells #[.string (bs l), .bool false] 248) := ⟨_, rfl⟩
  have h1 := made w l (.cells #[.int .i64 0, .string ⟨#[]⟩] 41)
  have hb1 := (Blk.new w).ext ((Ext.refl _).alloc (.cells #[.string (bs l), .bool false] 248))
  have x1 : Ext w w1 := by rw [hw1]; exact ((Ext.refl w).alloc _).alloc _
  rw [← hw1] at h1 hb1
  have hT := typ_any w1 (w.heap.size + 1) l false hl h1
  obtain ⟨X, hX⟩ : ∃ X, X = typZ l := ⟨_, rfl⟩
  rw [← hX] at hT p1
  rw [p1] at hT
  unfold TyD.vals at hT
  have HT := Lib.hid hT
  have HB1 := Lib.hid hb1
  have X1 := Lib.hid x1
  have P2 := Lib.hid p1
  clear hX hT h1 hb1 x1 p1
  go_enter Tryz.func184, Tryz.ntmps184
  go_wp2_with fail
  rw [← hw1]
  clear hw1
  refine HT.out.mono ?_
  rintro e w2 ⟨rfl, h2, g2⟩
  have hb2 := HB1.out.kept g2 (fun k hk => by injection hk with hk; omega)
  have x2 : Ext w w2 := X1.out.grown g2 (fun k hk => by injection hk with hk; omega)
  obtain ⟨a0, a1, -, -⟩ := h2.cells
  obtain ⟨d0, d1, f0, f1⟩ := hb2.cells
  have hltg : w.heap.size + 1 < w2.heap.size := h2.lt
  have hltR : w.heap.size < w2.heap.size := by omega
  have hneR : ¬ w.heap.size = w2.heap.size := by omega
  have hneg : ¬ w.heap.size + 1 = w2.heap.size := by omega
  have H2 := Lib.hid h2
  have X2 := Lib.hid x2
  clear h2 g2 hb2 x2
  go_wp2
  refine bodyPost_ret (v := .tuple #[.agg (TyD.vals t0D), .int .i64 50]) (by unfold TyD.vals; simp [results, Tryz.results184, go_sem, d0, d1, hltR]; try first | exact ⟨rfl, rfl⟩ | rfl) rfl ⟨rfl, ?_⟩
  exact Ext.alloc (Ext.set_ (Ext.set_ X2.out (Nat.le_refl _) _) (Nat.le_refl _) _) _
set_option maxHeartbeats 1000000 in
theorem Type_w2 (l : List UInt8) (hl : l.length ≤ 140737488351232) (w : World) (p1 : (typZ l).2.2 = true) (p2 : (typZ l).2.1 = []) :
    Calls Tryz.prog 184 #[.string (bs l)] w fun e w' => e = .returned (.tuple #[.agg (TyD.vals (typZ l).1), .int .i64 0]) ∧ Ext w w' := by
  obtain ⟨w1, hw1⟩ : ∃ w1, w1 = (w.alloc (.cells #[.int .i64 0, .string ⟨#[]⟩] 41)).alloc (.cells #[.string (bs l), .bool false] 248) := ⟨_, rfl⟩
  have h1 := made w l (.cells #[.int .i64 0, .string ⟨#[]⟩] 41)
  have hb1 := (Blk.new w).ext ((Ext.refl _).alloc (.cells #[.string (bs l), .bool false] 248))
  have x1 : Ext w w1 := by rw [hw1]; exact ((Ext.refl w).alloc _).alloc _
  rw [← hw1] at h1 hb1
  have hT := typ_any w1 (w.heap.size + 1) l false hl h1
  obtain ⟨X, hX⟩ : ∃ X, X = typZ l := ⟨_, rfl⟩
  rw [← hX] at hT p1 p2 ⊢
  rw [p1] at hT
  unfold TyD.vals at hT
  have HT := Lib.hid hT
  have HB1 := Lib.hid hb1
  have X1 := Lib.hid x1
  have P2 := Lib.hid p1
  clear hX hT h1 hb1 x1 p1
  go_enter Tryz.func184, Tryz.ntmps184
  go_wp2_with fail
  rw [← hw1]
  clear hw1
  refine HT.out.mono ?_
  rintro e w2 ⟨rfl, h2, g2⟩
  have hb2 := HB1.out.kept g2 (fun k hk => by injection hk with hk; omega)
  have x2 : Ext w w2 := X1.out.grown g2 (fun k hk => by injection hk with hk; omega)
  obtain ⟨a0, a1, -, -⟩ := h2.cells
  obtain ⟨d0, d1, f0, f1⟩ := hb2.cells
  have hltg : w.heap.size + 1 < w2.heap.size := h2.lt
  have hltR : w.heap.size < w2.heap.size := by omega
  have hneR : ¬ w.heap.size = w2.heap.size := by omega
  have hneg : ¬ w.heap.size + 1 = w2.heap.size := by omega
  have H2 := Lib.hid h2
  have X2 := Lib.hid x2
  clear h2 g2 hb2 x2
  have HE := Lib.hid (empty_any _ _ _ _ (H2.out.ext ((Ext.refl _).alloc (.cells #[.int .i64 X.1.k, .string (bs X.1.s)] 41))))
  rw [show decide (X.2.1 = []) = true from decide_eq_true p2] at HE
  go_wp2_with fail
  refine HE.out.mono ?_
  rintro e w3 ⟨rfl, rfl⟩
  go_wp2
  refine bodyPost_ret (v := .tuple #[.agg (TyD.vals X.1), .int .i64 0]) (by unfold TyD.vals; simp [results, Tryz.results184, go_sem, d0, d1, hltR]; try first | exact ⟨rfl, rfl⟩ | rfl) rfl ⟨rfl, ?_⟩
  exact Ext.alloc (Ext.set_ (Ext.set_ X2.out (Nat.le_refl _) _) (Nat.le_refl _) _) _
set_option maxHeartbeats 1000000 in
theorem Type_w3 (l : List UInt8) (hl : l.length ≤ 140737488351232) (w : World) (p1 : (typZ l).2.2 = true) (p2 : ¬ (typZ l).2.1 = []) :
    Calls Tryz.prog 184 #[.string (bs l)] w fun e w' => e = .returned (.tuple #[.agg (TyD.vals t0D), .int .i64 50]) ∧ Ext w w' := by
  obtain ⟨w1, hw1⟩ : ∃ w1, w1 = (w.alloc (.cells #[.int .i64 0, .string ⟨#[]⟩] 41)).alloc (.cells #[.string (bs l), .bool false] 248) := ⟨_, rfl⟩
  have h1 := made w l (.cells #[.int .i64 0, .string ⟨#[]⟩] 41)
  have hb1 := (Blk.new w).ext ((Ext.refl _).alloc (.cells #[.string (bs l), .bool false] 248))
  have x1 : Ext w w1 := by rw [hw1]; exact ((Ext.refl w).alloc _).alloc _
  rw [← hw1] at h1 hb1
  have hT := typ_any w1 (w.heap.size + 1) l false hl h1
  obtain ⟨X, hX⟩ : ∃ X, X = typZ l := ⟨_, rfl⟩
  rw [← hX] at hT p1 p2
  rw [p1] at hT
  unfold TyD.vals at hT
  have HT := Lib.hid hT
  have HB1 := Lib.hid hb1
  have X1 := Lib.hid x1
  have P2 := Lib.hid p1
  clear hX hT h1 hb1 x1 p1
  go_enter Tryz.func184, Tryz.ntmps184
  go_wp2_with fail
  rw [← hw1]
  clear hw1
  refine HT.out.mono ?_
  rintro e w2 ⟨rfl, h2, g2⟩
  have hb2 := HB1.out.kept g2 (fun k hk => by injection hk with hk; omega)
  have x2 : Ext w w2 := X1.out.grown g2 (fun k hk => by injection hk with hk; omega)
  obtain ⟨a0, a1, -, -⟩ := h2.cells
  obtain ⟨d0, d1, f0, f1⟩ := hb2.cells
  have hltg : w.heap.size + 1 < w2.heap.size := h2.lt
  have hltR : w.heap.size < w2.heap.size := by omega
  have hneR : ¬ w.heap.size = w2.heap.size := by omega
  have hneg : ¬ w.heap.size + 1 = w2.heap.size := by omega
  have H2 := Lib.hid h2
  have X2 := Lib.hid x2
  clear h2 g2 hb2 x2
  have HE := Lib.hid (empty_any _ _ _ _ (H2.out.ext ((Ext.refl _).alloc (.cells #[.int .i64 X.1.k, .string (bs X.1.s)] 41))))
  rw [show decide (X.2.1 = []) = false from decide_eq_false p2] at HE
  go_wp2_with fail
  refine HE.out.mono ?_
  rintro e w3 ⟨rfl, rfl⟩
  go_wp2
  refine bodyPost_ret (v := .tuple #[.agg (TyD.vals t0D), .int .i64 50]) (by unfold TyD.vals; simp [results, Tryz.results184, go_sem, d0, d1, hltR]; try first | exact ⟨rfl, rfl⟩ | rfl) rfl ⟨rfl, ?_⟩
  exact Ext.alloc (Ext.set_ (Ext.set_ X2.out (Nat.le_refl _) _) (Nat.le_refl _) _) _
theorem Type_any (l : List UInt8) (hl : l.length ≤ 140737488351232) (w : World) :
    Calls Tryz.prog 184 #[.string (bs l)] w fun e w' => e = .returned (.tuple #[.agg (TyD.vals (typeZ l).1), .int .i64 (typeZ l).2]) ∧ Ext w w' := by
  rw [typeZ_of]
  cases p1 : (typZ l).2.2
  · rw [if_neg (by simp)]
    exact Type_w1 l hl w p1
  · by_cases p2 : (typZ l).2.1 = []
    · rw [if_pos ⟨rfl, p2⟩]
      exact Type_w2 l hl w p1 p2
    · rw [if_neg (fun h => p2 h.2)]
      exact Type_w3 l hl w p1 p2
end Go.Proofs.YtokmeomjdpfknaaGreatDoor
namespace Go.Proofs.YtokmeomjdpfknaaGreatDoor
open Go.RowKit
set_option linter.unusedVariables false

def ProtoAns (l : List UInt8) (w : World) (e : Ending) (w' : World) : Prop := ∃ v, e = .returned (.tuple #[.agg ((protoZ l).1.vals v), .int .i64 (protoZ l).2]) ∧ OwnT w.heap.size w' 41 v (protoZ l).1.args ∧ Ext w w'
theorem OwnT.base {B B' : Nat} {w : World} {T : TypeId} {v : Value} {l : List TyD} (h : OwnT B w T v l) (hB : B' ≤ B) : OwnT B' w T v l := by
  obtain ⟨⟨h1, h2⟩, hf⟩ := h
  refine ⟨⟨h1, ?_⟩, hf⟩
  rcases h2 with h2 | ⟨g, cap, cur, hv, hb, hr⟩
  · exact .inl h2
  · exact .inr ⟨g, cap, cur, hv, by omega, hr⟩
theorem OwnT.set_ {B : Nat} {w : World} {T : TypeId} {v : Value} {l : List TyD} (h : OwnT B w T v l) {R : Nat} (hR : R < B) (j : Nat) (u : Value) : OwnT B (w.setCell ⟨R, j, none⟩ u) T v l :=
  h.kept (only_set (World.grownBy.refl w (some R)) j u) (fun k hk e => by injection e with e; have := h.low k hk; omega)
set_option maxHeartbeats 4000000 in
theorem Proto_any (l : List UInt8) (hl : l.length ≤ 140737488351232) (w : World) :
    Calls Tryz.prog 185 #[.string (bs l)] w (ProtoAns l w) := by
  obtain ⟨w1, hw1⟩ : ∃ w1, w1 = (w.alloc (.cells #[.int .i64 0, .string ⟨#[]⟩, .slice none 0 0] 44)).alloc (.cells #[.string (bs l), .bool false] 248) := ⟨_, rfl⟩
  have h1 := made w l (.cells #[.int .i64 0, .string ⟨#[]⟩, .slice none 0 0] 44)
  have hb1 := (BlkP.new w).ext ((Ext.refl _).alloc (.cells #[.string (bs l), .bool false] 248))
  have x1 : Ext w w1 := by rw [hw1]; exact ((Ext.refl w).alloc _).alloc _
  have hs1 : w1.heap.size = w.heap.size + 2 := by rw [hw1]; simp
  rw [← hw1] at h1 hb1
  have HA := Lib.hid (args_any w1 (w.heap.size + 1) l hl h1)
  have HB1 := Lib.hid hb1
  have X1 := Lib.hid x1
  clear h1 hb1 x1
  go_enter Tryz.func185, Tryz.ntmps185
  go_wp2_with fail
  rw [← hw1]
  clear hw1
  refine HA.out.mono ?_
  rintro e w2 ⟨v, l1, b1, ts, rfl, h2, g2, hle, ho, hcase⟩
  have hb2 := HB1.out.kept g2 (fun k hk => by injection hk with hk; omega)
  have x2 : Ext w w2 := X1.out.grown g2 (fun k hk => by injection hk with hk; omega)
  have hC := Lib.hid hcase
  have H2 := Lib.hid h2
  have X2 := Lib.hid x2
  have HB2 := Lib.hid hb2
  have HO := Lib.hid ho
  obtain ⟨A, c, hv, hcn, hcm, -⟩ := ho.row
  subst hv
  obtain ⟨n, hn⟩ : ∃ n, n = ts.length := ⟨_, rfl⟩
  rw [← hn] at hcn HO ⊢
  have Hn := Lib.hid hn
  have hs2 := g2.size
  clear hn ho h2 x2 hb2 hcase g2
  have HR := Lib.hid (ret_any w2 (w.heap.size + 1) l1 b1 (by omega) H2.out)
  obtain ⟨X, hX⟩ : ∃ X, X = retZ l1 := ⟨_, rfl⟩
  have HX := Lib.hid hX
  have hr := HR.out
  rw [← hX] at hr
  unfold TyD.vals at hr
  have HR := Lib.hid hr
  clear hX hr
  obtain ⟨W, hW⟩ : ∃ W, W = (b1 || !X.2.2) := ⟨_, rfl⟩
  rw [← hW] at HR
  have HW := Lib.hid hW
  clear hW
  go_wp2_with fail
  refine HR.out.mono ?_
  rintro e w3 ⟨rfl, h3, g3⟩
  have hb3 := HB2.out.kept g3 (fun k hk => by injection hk with hk; omega)
  have x3 : Ext w w3 := X2.out.grown g3 (fun k hk => by injection hk with hk; omega)
  have ho3 := HO.out.kept g3 (fun k hk e => by injection e with e; have := HO.out.low k hk; omega)
  obtain ⟨a0, a1, -, -⟩ := h3.cells
  obtain ⟨d0, d1, d2, f0, f1, f2⟩ := hb3.cells
  have hltg : w.heap.size + 1 < w3.heap.size := h3.lt
  have hltR : w.heap.size < w3.heap.size := by omega
  have hneR : ¬ w.heap.size = w3.heap.size := by omega
  have hneg : ¬ w.heap.size + 1 = w3.heap.size := by omega
  have H3 := Lib.hid h3
  have X3 := Lib.hid x3
  have HO3 := Lib.hid ho3
  clear h3 g3 hb3 x3 ho3
  cases W
  · -- nothing was wrong
    have hw := HW.out
    have hb : b1 = false ∧ X.2.2 = true := by
      cases b1 <;> cases hq : X.2.2 <;> rw [hq] at hw <;> simp at hw ⊢
    obtain ⟨q1, q2⟩ := hb
    have hz : argsZ l = some (ts, l1) := by
      rcases hC.out with ⟨h, _⟩ | ⟨_, h⟩
      · rw [q1] at h; cases h
      · exact h
    have HE := Lib.hid (empty_any _ _ _ _ (H3.out.ext ((Ext.refl _).alloc (.cells #[.int .i64 X.1.k, .string (bs X.1.s)] 41))))
    by_cases p2 : X.2.1 = []
    · rw [show decide (X.2.1 = []) = true from decide_eq_true p2] at HE
      have HZ := Lib.hid (show protoZ l = (⟨X.1, ts⟩, 0) by rw [protoZ_some hz, ← HX.out, if_pos ⟨q2, p2⟩])
      clear p2 q1 q2 hz hw
      go_wp2_with fail
      refine HE.out.mono ?_
      rintro e w4 ⟨rfl, rfl⟩
      go_wp2
      refine bodyPost_ret (v := .tuple #[.agg #[.int .i64 X.1.k, .string (bs X.1.s), .slice A n c], .int .i64 0]) (by simp [results, Tryz.results185, go_sem, d0, d1, d2, hltR]; try first | exact ⟨rfl, rfl⟩ | rfl) rfl ?_
      unfold ProtoAns
      rw [HZ.out]
      refine ⟨_, rfl, ?_, ?_⟩
      · have h1 := ((HO3.out.set_ (R := w.heap.size) (by omega) 0 (.int .i64 X.1.k)).set_ (R := w.heap.size) (by omega) 1 (.string (bs X.1.s))).set_ (R := w.heap.size) (by omega) 2 (.slice A n c)
        exact (h1.ext ((Ext.refl _).alloc _)).base (by omega)
      · exact Ext.alloc (Ext.set_ (Ext.set_ (Ext.set_ X3.out (Nat.le_refl _) _) (Nat.le_refl _) _) (Nat.le_refl _) _) _
    · rw [show decide (X.2.1 = []) = false from decide_eq_false p2] at HE
      have HZ := Lib.hid (show protoZ l = (⟨t0D, []⟩, 50) by rw [protoZ_some hz, ← HX.out, if_neg (fun h => p2 h.2)])
      clear p2 q1 q2 hz hw
      go_wp2_with fail
      refine HE.out.mono ?_
      rintro e w4 ⟨rfl, rfl⟩
      go_wp2
      refine bodyPost_ret (v := .tuple #[.agg #[.int .i64 0, .string ⟨#[]⟩, .slice none 0 0], .int .i64 50]) (by simp [results, Tryz.results185, go_sem, d0, d1, d2, hltR]; try first | exact ⟨rfl, rfl⟩ | rfl) rfl ?_
      unfold ProtoAns
      rw [HZ.out]
      exact ⟨_, rfl, OwnT.nil _ _ _, Ext.alloc (Ext.set_ (Ext.set_ (Ext.set_ X3.out (Nat.le_refl _) _) (Nat.le_refl _) _) (Nat.le_refl _) _) _⟩
  · have HZ := Lib.hid (show protoZ l = (⟨t0D, []⟩, 50) by
      rcases hC.out with ⟨_, h⟩ | ⟨q1, h⟩
      · exact protoZ_none h
      · have hw := HW.out
        rw [q1] at hw
        have q2 : X.2.2 = false := by cases hq : X.2.2 <;> rw [hq] at hw <;> simp at hw ⊢
        rw [protoZ_some h, ← HX.out, if_neg (by rw [q2]; simp)])
    go_wp2
    refine bodyPost_ret (v := .tuple #[.agg #[.int .i64 0, .string ⟨#[]⟩, .slice none 0 0], .int .i64 50]) (by simp [results, Tryz.results185, go_sem, d0, d1, d2, hltR]; try first | exact ⟨rfl, rfl⟩ | rfl) rfl ?_
    unfold ProtoAns
    rw [HZ.out]
    exact ⟨_, rfl, OwnT.nil _ _ _, Ext.alloc (Ext.set_ (Ext.set_ (Ext.set_ X3.out (Nat.le_refl _) _) (Nat.le_refl _) _) (Nat.le_refl _) _) _⟩
end Go.Proofs.YtokmeomjdpfknaaGreatDoor
