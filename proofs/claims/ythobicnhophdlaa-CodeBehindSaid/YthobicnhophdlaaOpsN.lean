/- The project's reader of numbers, walked: take, plain, signed, place. -/
import Derived.Test.YthobicnhophdlaaOpsM
import Derived.Test.YthobicnhophdlaaOpsD
import Derived.Test.YthobicnhophdlaaSl
import Derived.Test.YthobicnhophdlaaLebO
import Derived.Laws.EntriesVeiled
import Derived.BigQuiet
import Derived.Deep.QuietTactic
namespace Go.Proofs.Ythobicnhophdlaa
open Go.RowKit
set_option linter.unusedVariables false

/-- The project's reader in block g: what is left, where the instruction begins, whether the bytes have ended. -/
def PR (w : World) (g : Nat) (v : Value) (a : Int) (en : Bool) : Prop := w.heap[g]? = some (.cells #[v, .int .i64 a, .bool en] 64 (0, 0))
section
variable {w w' : World} {g : Nat} {v : Value} {a : Int} {en : Bool}
theorem PR.lt (h : PR w g v a en) : g < w.heap.size := lt_of_get h
theorem PR.cells (h : PR w g v a en) : w.cell? ⟨g, 0, none⟩ = some v ∧ w.cell? ⟨g, 1, none⟩ = some (.int .i64 a) ∧ w.cell? ⟨g, 2, none⟩ = some (.bool en) ∧ w.frozen? ⟨g, 0, none⟩ = false ∧ w.frozen? ⟨g, 1, none⟩ = false ∧ w.frozen? ⟨g, 2, none⟩ = false :=
  ⟨by rw [cell_of_row w g 0 _ _ (0, 0) h]; rfl, by rw [cell_of_row w g 1 _ _ (0, 0) h]; rfl, by rw [cell_of_row w g 2 _ _ (0, 0) h]; rfl, by simp [World.frozen?, show w.heap[g]? = _ from h], by simp [World.frozen?, show w.heap[g]? = _ from h], by simp [World.frozen?, show w.heap[g]? = _ from h]⟩
theorem PR.drew (h : PR w g v a en) (n : Nat) : PR (w.drewN n) g v a en := h
theorem PR.setRow (h : PR w g v a en) (u : Value) : PR (w.setCell ⟨g, 0, none⟩ u) g u a en := by
  have h1 := heap_setCell_same w g 0 _ 64 u h
  unfold PR
  rw [h1]
  rfl
theorem PR.setEnded (h : PR w g v a en) (c : Bool) : PR (w.setCell ⟨g, 2, none⟩ (.bool c)) g v a c := by
  have h1 := heap_setCell_same w g 2 _ 64 (.bool c) h
  unfold PR
  rw [h1]
  rfl
theorem PR.ext (h : PR w g v a en) (he : Ext w w') : PR w' g v a en := (he.block g (lt_of_get h)).trans h
end
theorem Ext.grow {w w' : World} (h : Ext w w') (r : Option Nat) : w.grownBy w' r := ⟨h.os, h.tape, h.output, h.size, fun i hi _ => h.block i hi⟩
theorem grown_trans {a b c : World} {g : Nat} (h : a.grownBy b (some g)) (k : b.grownBy c (some g)) : a.grownBy c (some g) :=
  ⟨k.os.trans h.os, k.tape.trans h.tape, k.output.trans h.output, Nat.le_trans h.size k.size, fun i hi hne => (k.block i (Nat.lt_of_lt_of_le hi h.size) hne).trans (h.block i hi hne)⟩
theorem bytes_of {w : World} {v : Value} {l : List Int} (h : Row w .u8 v l) : ∀ c ∈ l, B8 c := fun c hc => h.fit.u8 hc
theorem pk_bound {s : Nat} {sg : Bool} {l : List Int} (hs : Siz s sg) (hb : ∀ c ∈ l, B8 c) : -2147483648 ≤ pk s sg l ∧ pk s sg l ≤ 2147483647 := by
  rcases hs with ⟨rfl, rfl⟩ | ⟨rfl, rfl⟩ | ⟨rfl, rfl⟩ | ⟨rfl, rfl⟩ | ⟨rfl, rfl⟩
  · match l with
    | [] => simp [pk]
    | p :: l => have := hb p (by simp); unfold B8 at this; simp [pk]; omega
  · match l with
    | [] => simp [pk]
    | p :: l => have := s1_in (hb p (by simp)); simp [pk]; omega
  · match l with
    | [] => simp [pk]
    | [_] => simp [pk]
    | p :: q :: l => have := u2_in (hb p (by simp)) (hb q (by simp)); simp [pk]; omega
  · match l with
    | [] => simp [pk]
    | [_] => simp [pk]
    | p :: q :: l => have := s2_in (hb p (by simp)) (hb q (by simp)); simp [pk]; omega
  · match l with
    | [] => simp [pk]
    | [_] => simp [pk]
    | [_, _] => simp [pk]
    | [_, _, _] => simp [pk]
    | b :: c :: d :: e :: l => have := s4_in (hb b (by simp)) (hb c (by simp)) (hb d (by simp)) (hb e (by simp)); simp [pk]; omega
theorem pk_take {s : Nat} {sg : Bool} {l : List Int} (hs : Siz s sg) : pk s sg (l.take 4) = pk s sg l := by
  rcases hs with ⟨rfl, rfl⟩ | ⟨rfl, rfl⟩ | ⟨rfl, rfl⟩ | ⟨rfl, rfl⟩ | ⟨rfl, rfl⟩
  · match l with
    | [] => rfl
    | p :: l => rfl
  · match l with
    | [] => rfl
    | p :: l => rfl
  · match l with
    | [] => rfl
    | [_] => rfl
    | p :: q :: l => rfl
  · match l with
    | [] => rfl
    | [_] => rfl
    | p :: q :: l => rfl
  · match l with
    | [] => rfl
    | [_] => rfl
    | [_, _] => rfl
    | [_, _, _] => rfl
    | b :: c :: d :: e :: l => rfl
/-- What a call of the reader's leaves. -/
def PRet (w0 w : World) (g : Nat) (a : Int) (r : Int × List Int × Bool) (e : Ending) (w' : World) : Prop :=
  e = .returned (.int .i64 r.1) ∧ (∃ v', PR w' g v' a r.2.2 ∧ Row w0 .u8 v' r.2.1) ∧ w.grownBy w' (some g)
theorem way_plain (v : Value) (l : List Int) (c : Nat) (s : Nat) (w : World) (h : Row w .u8 v l) (hl : l.length ≤ 4) (hc : w.cell? ⟨c, 0, none⟩ = some (.int .i64 s)) (hs : s ≤ 4) :
    Calls Try.prog 53 #[v, .pointer (some ⟨c, 0, none⟩)] w (Ret w (RowTake w (tBs false l s))) := by
  go_enter Try.func53, Try.ntmps53
  go_wp2_with (first
    | (go_at_call 54; refine (TakeBig_any _ l s _ h (by omega) (by omega) (by omega)).mono ?_; rintro e w1 ⟨v1, rfl, ⟨b1, rfl, ho1⟩, he1⟩))
  go_ret3
  exact Ret.mk ⟨_, rfl, ho1⟩ he1
set_option maxHeartbeats 1000000 in
theorem take_plain (w0 w : World) (g c : Nat) (l : List Int) (v : Value) (a : Int) (en : Bool) (s : Nat) (hg : PR w g v a en) (hr : Row w0 .u8 v l) (hx : Ext w0 w) (hg0 : w0.heap.size ≤ g)
    (hc : w.cell? ⟨c, 0, none⟩ = some (.int .i64 s)) (hs : Siz s false) :
    Calls Try.prog 52 #[.pointer (some ⟨g, 0, none⟩), .func (.func 53) #[] #[.pointer (some ⟨c, 0, none⟩)]] w (PRet w0 w g a (rdN true s false (l, en))) := by
  have hb := bytes_of hr
  have hs4 := hs.le
  have hclt : c < w.heap.size := World.block_lt_of_cell? w ⟨c, 0, none⟩ hc
  have hv := hr
  obtain ⟨A, k, rfl, hk1, hk2, hk3, hk4, hk5⟩ := hr
  obtain ⟨d0, d1, d2, f0, f1, f2⟩ := hg.cells
  clear hk3 hk4
  unfold maxLen at hk2
  have HG := Lib.hid hg
  clear hg
  by_cases hsh : l.length < s
  · clear hk5
    have HR := Lib.hid (rdN_short (st := true) (sg := false) en hsh)
    have ht : tBs false l s = (0, [], 3) := tBs_short hs4.1 hs4.2 hsh
    have hw : ∀ W, Ext w W → Calls Try.prog 53 #[(.slice A l.length k), .pointer (some ⟨c, 0, none⟩)] W (Ret W (RowTake W (0, [], 3))) := fun W e => by
      have h := way_plain (.slice A l.length k) (l) c s W (hv.ext (hx.trans e)) (by omega) ((e.cell (p := ⟨c, 0, none⟩) hclt).trans hc) (by omega)
      rw [ht] at h
      exact h
    have HW := Lib.hid hw
    clear hw ht
    go_enter Try.func52, Try.ntmps52
    go_wp2
    go_region
    all_goals go_wp2_with (go_at_call 53; refine (HW.out _ ((Ext.refl _).drewN _)).mono ?_; rintro e w1 ⟨v1, rfl, ⟨b1, rfl, ho1⟩, he1⟩; obtain ⟨A2, k2, rfl, -⟩ := ho1.row; have x1 := ((Ext.refl w).drewN _).trans he1; have h1 := Lib.hid (HG.out.ext x1); obtain ⟨y0, y1, y2, z0, z1, z2⟩ := h1.out.cells)
    all_goals
      go_ret
      rw [HR.out]
      exact ⟨rfl, ⟨_, h1.out.setEnded true, hv⟩, only_set (x1.grow _) 2 _⟩
  · have hne : s ≤ l.length := by omega
    obtain ⟨b, o, rfl, -⟩ := hk5 (by omega)
    obtain ⟨u, hu1, hu2, hu3⟩ := tail_slice hv s hne
    obtain ⟨Au, ku, rfl, -⟩ := id hu3
    obtain ⟨n, hn⟩ : ∃ n, (l.drop s).length = n := ⟨_, rfl⟩
    rw [hn] at hu1 hu2 hu3
    have hln : l.length = n + s := by rw [List.length_drop] at hn; omega
    clear hk5
    have HN := Lib.hid hn
    clear hn
    by_cases h4 : l.length < 4
    · have hd : (l.length : Int) - (n : Int) = s := by omega
      have ht : tBs false l s = (pk s false l, l.drop s, 0) := tBs_ok hs hb hne
      have hw : ∀ W, Ext w W → Calls Try.prog 53 #[(.slice (some ⟨b, o, none⟩) l.length k), .pointer (some ⟨c, 0, none⟩)] W (Ret W (RowTake W (pk s false l, l.drop s, 0))) := fun W e => by
        have h := way_plain (.slice (some ⟨b, o, none⟩) l.length k) (l) c s W (hv.ext (hx.trans e)) (by omega) ((e.cell (p := ⟨c, 0, none⟩) hclt).trans hc) (by omega)
        rw [ht] at h
        exact h
      have HW := Lib.hid hw
      clear hw ht
      have HLN := Lib.hid hln
      clear hln
      cases en
      · have HR := Lib.hid (rdN_ok (st := true) (sg := false) hne)
        go_enter Try.func52, Try.ntmps52
        go_wp2
        go_region
        all_goals go_wp2_with (go_at_call 53; refine (HW.out _ ((Ext.refl _).drewN _)).mono ?_; rintro e w1 ⟨v1, rfl, ⟨b1, rfl, ho1⟩, he1⟩; obtain ⟨A2, k2, hq, -⟩ := ho1.row; rw [HN.out] at hq; subst hq; have x1 := ((Ext.refl w).drewN _).trans he1; have h1 := Lib.hid (HG.out.ext x1); obtain ⟨y0, y1, y2, z0, z1, z2⟩ := h1.out.cells)
        all_goals
          go_ret
          rw [HR.out]
          exact ⟨rfl, ⟨_, h1.out.setRow _, hu3⟩, only_set (x1.grow _) 0 _⟩
      · have HR : Hid (rdN true s false (l, true) = (0, l, true)) := Lib.hid (by unfold rdN; rw [if_pos (.inl ⟨rfl, rfl⟩)])
        go_enter Try.func52, Try.ntmps52
        go_wp2
        go_region
        all_goals go_wp2_with (go_at_call 53; refine (HW.out _ ((Ext.refl _).drewN _)).mono ?_; rintro e w1 ⟨v1, rfl, ⟨b1, rfl, ho1⟩, he1⟩; obtain ⟨A2, k2, hq, -⟩ := ho1.row; rw [HN.out] at hq; subst hq; have x1 := ((Ext.refl w).drewN _).trans he1; have h1 := Lib.hid (HG.out.ext x1); obtain ⟨y0, y1, y2, z0, z1, z2⟩ := h1.out.cells)
        all_goals
          go_ret
          rw [HR.out]
          exact ⟨rfl, ⟨_, h1.out, hv⟩, x1.grow _⟩
    · obtain ⟨m, hm⟩ : ∃ m, ((l.take 4).drop s).length = m := ⟨_, rfl⟩
      have hd : (4 : Int) - (m : Int) = s := by
        rw [List.length_drop, List.length_take] at hm
        omega
      have hv4 := Row.head hv 4 (by omega)
      have hpk := pk_take (l := l) hs
      have ht : tBs false (l.take 4) s = (pk s false l, (l.take 4).drop s, 0) := by
        rw [← hpk]
        exact tBs_ok hs (fun c hc => hb c (List.mem_of_mem_take hc)) (by rw [List.length_take]; omega)
      have h40 : ¬ (l.length : Int) < 4 := by omega
      have h41 : 4 ≤ l.length := by omega
      clear hpk
      have hw : ∀ W, Ext w W → Calls Try.prog 53 #[(.slice (some ⟨b, o, none⟩) 4 k), .pointer (some ⟨c, 0, none⟩)] W (Ret W (RowTake W (pk s false l, (l.take 4).drop s, 0))) := fun W e => by
        have h := way_plain (.slice (some ⟨b, o, none⟩) 4 k) ((l.take 4)) c s W (hv4.ext (hx.trans e)) (by rw [List.length_take]; omega) ((e.cell (p := ⟨c, 0, none⟩) hclt).trans hc) (by omega)
        rw [ht] at h
        exact h
      have HW := Lib.hid hw
      clear hw ht
      have HM := Lib.hid hm
      have HLN := Lib.hid hln
      clear hm hln
      cases en
      · have HR := Lib.hid (rdN_ok (st := true) (sg := false) hne)
        go_enter Try.func52, Try.ntmps52
        go_wp2
        go_region
        all_goals go_wp2_with (go_at_call 53; refine (HW.out _ ((Ext.refl _).drewN _)).mono ?_; rintro e w1 ⟨v1, rfl, ⟨b1, rfl, ho1⟩, he1⟩; obtain ⟨A2, k2, hq, -⟩ := ho1.row; rw [HM.out] at hq; subst hq; have x1 := ((Ext.refl w).drewN _).trans he1; have h1 := Lib.hid (HG.out.ext x1); obtain ⟨y0, y1, y2, z0, z1, z2⟩ := h1.out.cells)
        all_goals
          go_ret
          rw [HR.out]
          exact ⟨rfl, ⟨_, h1.out.setRow _, hu3⟩, only_set (x1.grow _) 0 _⟩
      · have HR : Hid (rdN true s false (l, true) = (0, l, true)) := Lib.hid (by unfold rdN; rw [if_pos (.inl ⟨rfl, rfl⟩)])
        go_enter Try.func52, Try.ntmps52
        go_wp2
        go_region
        all_goals go_wp2_with (go_at_call 53; refine (HW.out _ ((Ext.refl _).drewN _)).mono ?_; rintro e w1 ⟨v1, rfl, ⟨b1, rfl, ho1⟩, he1⟩; obtain ⟨A2, k2, hq, -⟩ := ho1.row; rw [HM.out] at hq; subst hq; have x1 := ((Ext.refl w).drewN _).trans he1; have h1 := Lib.hid (HG.out.ext x1); obtain ⟨y0, y1, y2, z0, z1, z2⟩ := h1.out.cells)
        all_goals
          go_ret
          rw [HR.out]
          exact ⟨rfl, ⟨_, h1.out, hv⟩, x1.grow _⟩
theorem way_signed (v : Value) (l : List Int) (c : Nat) (s : Nat) (w : World) (h : Row w .u8 v l) (hl : l.length ≤ 4) (hc : w.cell? ⟨c, 0, none⟩ = some (.int .i64 s)) (hs : s ≤ 4) :
    Calls Try.prog 55 #[v, .pointer (some ⟨c, 0, none⟩)] w (Ret w (RowTake w (tBs true l s))) := by
  go_enter Try.func55, Try.ntmps55
  go_wp2_with (first
    | (go_at_call 56; refine (TakeBigS_any _ l s _ h (by omega) (by omega) (by omega)).mono ?_; rintro e w1 ⟨v1, rfl, ⟨b1, rfl, ho1⟩, he1⟩))
  go_ret3
  exact Ret.mk ⟨_, rfl, ho1⟩ he1
set_option maxHeartbeats 1000000 in
theorem take_signed (w0 w : World) (g c : Nat) (l : List Int) (v : Value) (a : Int) (en : Bool) (s : Nat) (hg : PR w g v a en) (hr : Row w0 .u8 v l) (hx : Ext w0 w) (hg0 : w0.heap.size ≤ g)
    (hc : w.cell? ⟨c, 0, none⟩ = some (.int .i64 s)) (hs : Siz s true) :
    Calls Try.prog 52 #[.pointer (some ⟨g, 0, none⟩), .func (.func 55) #[] #[.pointer (some ⟨c, 0, none⟩)]] w (PRet w0 w g a (rdN true s true (l, en))) := by
  have hb := bytes_of hr
  have hs4 := hs.le
  have hclt : c < w.heap.size := World.block_lt_of_cell? w ⟨c, 0, none⟩ hc
  have hv := hr
  obtain ⟨A, k, rfl, hk1, hk2, hk3, hk4, hk5⟩ := hr
  obtain ⟨d0, d1, d2, f0, f1, f2⟩ := hg.cells
  clear hk3 hk4
  unfold maxLen at hk2
  have HG := Lib.hid hg
  clear hg
  by_cases hsh : l.length < s
  · clear hk5
    have HR := Lib.hid (rdN_short (st := true) (sg := true) en hsh)
    have ht : tBs true l s = (0, [], 3) := tBs_short hs4.1 hs4.2 hsh
    have hw : ∀ W, Ext w W → Calls Try.prog 55 #[(.slice A l.length k), .pointer (some ⟨c, 0, none⟩)] W (Ret W (RowTake W (0, [], 3))) := fun W e => by
      have h := way_signed (.slice A l.length k) (l) c s W (hv.ext (hx.trans e)) (by omega) ((e.cell (p := ⟨c, 0, none⟩) hclt).trans hc) (by omega)
      rw [ht] at h
      exact h
    have HW := Lib.hid hw
    clear hw ht
    go_enter Try.func52, Try.ntmps52
    go_wp2
    go_region
    all_goals go_wp2_with (go_at_call 55; refine (HW.out _ ((Ext.refl _).drewN _)).mono ?_; rintro e w1 ⟨v1, rfl, ⟨b1, rfl, ho1⟩, he1⟩; obtain ⟨A2, k2, rfl, -⟩ := ho1.row; have x1 := ((Ext.refl w).drewN _).trans he1; have h1 := Lib.hid (HG.out.ext x1); obtain ⟨y0, y1, y2, z0, z1, z2⟩ := h1.out.cells)
    all_goals
      go_ret
      rw [HR.out]
      exact ⟨rfl, ⟨_, h1.out.setEnded true, hv⟩, only_set (x1.grow _) 2 _⟩
  · have hne : s ≤ l.length := by omega
    obtain ⟨b, o, rfl, -⟩ := hk5 (by omega)
    obtain ⟨u, hu1, hu2, hu3⟩ := tail_slice hv s hne
    obtain ⟨Au, ku, rfl, -⟩ := id hu3
    obtain ⟨n, hn⟩ : ∃ n, (l.drop s).length = n := ⟨_, rfl⟩
    rw [hn] at hu1 hu2 hu3
    have hln : l.length = n + s := by rw [List.length_drop] at hn; omega
    clear hk5
    have HN := Lib.hid hn
    clear hn
    by_cases h4 : l.length < 4
    · have hd : (l.length : Int) - (n : Int) = s := by omega
      have ht : tBs true l s = (pk s true l, l.drop s, 0) := tBs_ok hs hb hne
      have hw : ∀ W, Ext w W → Calls Try.prog 55 #[(.slice (some ⟨b, o, none⟩) l.length k), .pointer (some ⟨c, 0, none⟩)] W (Ret W (RowTake W (pk s true l, l.drop s, 0))) := fun W e => by
        have h := way_signed (.slice (some ⟨b, o, none⟩) l.length k) (l) c s W (hv.ext (hx.trans e)) (by omega) ((e.cell (p := ⟨c, 0, none⟩) hclt).trans hc) (by omega)
        rw [ht] at h
        exact h
      have HW := Lib.hid hw
      clear hw ht
      have HLN := Lib.hid hln
      clear hln
      cases en
      · have HR := Lib.hid (rdN_ok (st := true) (sg := true) hne)
        go_enter Try.func52, Try.ntmps52
        go_wp2
        go_region
        all_goals go_wp2_with (go_at_call 55; refine (HW.out _ ((Ext.refl _).drewN _)).mono ?_; rintro e w1 ⟨v1, rfl, ⟨b1, rfl, ho1⟩, he1⟩; obtain ⟨A2, k2, hq, -⟩ := ho1.row; rw [HN.out] at hq; subst hq; have x1 := ((Ext.refl w).drewN _).trans he1; have h1 := Lib.hid (HG.out.ext x1); obtain ⟨y0, y1, y2, z0, z1, z2⟩ := h1.out.cells)
        all_goals
          go_ret
          rw [HR.out]
          exact ⟨rfl, ⟨_, h1.out.setRow _, hu3⟩, only_set (x1.grow _) 0 _⟩
      · have HR : Hid (rdN true s true (l, true) = (0, l, true)) := Lib.hid (by unfold rdN; rw [if_pos (.inl ⟨rfl, rfl⟩)])
        go_enter Try.func52, Try.ntmps52
        go_wp2
        go_region
        all_goals go_wp2_with (go_at_call 55; refine (HW.out _ ((Ext.refl _).drewN _)).mono ?_; rintro e w1 ⟨v1, rfl, ⟨b1, rfl, ho1⟩, he1⟩; obtain ⟨A2, k2, hq, -⟩ := ho1.row; rw [HN.out] at hq; subst hq; have x1 := ((Ext.refl w).drewN _).trans he1; have h1 := Lib.hid (HG.out.ext x1); obtain ⟨y0, y1, y2, z0, z1, z2⟩ := h1.out.cells)
        all_goals
          go_ret
          rw [HR.out]
          exact ⟨rfl, ⟨_, h1.out, hv⟩, x1.grow _⟩
    · obtain ⟨m, hm⟩ : ∃ m, ((l.take 4).drop s).length = m := ⟨_, rfl⟩
      have hd : (4 : Int) - (m : Int) = s := by
        rw [List.length_drop, List.length_take] at hm
        omega
      have hv4 := Row.head hv 4 (by omega)
      have hpk := pk_take (l := l) hs
      have ht : tBs true (l.take 4) s = (pk s true l, (l.take 4).drop s, 0) := by
        rw [← hpk]
        exact tBs_ok hs (fun c hc => hb c (List.mem_of_mem_take hc)) (by rw [List.length_take]; omega)
      have h40 : ¬ (l.length : Int) < 4 := by omega
      have h41 : 4 ≤ l.length := by omega
      clear hpk
      have hw : ∀ W, Ext w W → Calls Try.prog 55 #[(.slice (some ⟨b, o, none⟩) 4 k), .pointer (some ⟨c, 0, none⟩)] W (Ret W (RowTake W (pk s true l, (l.take 4).drop s, 0))) := fun W e => by
        have h := way_signed (.slice (some ⟨b, o, none⟩) 4 k) ((l.take 4)) c s W (hv4.ext (hx.trans e)) (by rw [List.length_take]; omega) ((e.cell (p := ⟨c, 0, none⟩) hclt).trans hc) (by omega)
        rw [ht] at h
        exact h
      have HW := Lib.hid hw
      clear hw ht
      have HM := Lib.hid hm
      have HLN := Lib.hid hln
      clear hm hln
      cases en
      · have HR := Lib.hid (rdN_ok (st := true) (sg := true) hne)
        go_enter Try.func52, Try.ntmps52
        go_wp2
        go_region
        all_goals go_wp2_with (go_at_call 55; refine (HW.out _ ((Ext.refl _).drewN _)).mono ?_; rintro e w1 ⟨v1, rfl, ⟨b1, rfl, ho1⟩, he1⟩; obtain ⟨A2, k2, hq, -⟩ := ho1.row; rw [HM.out] at hq; subst hq; have x1 := ((Ext.refl w).drewN _).trans he1; have h1 := Lib.hid (HG.out.ext x1); obtain ⟨y0, y1, y2, z0, z1, z2⟩ := h1.out.cells)
        all_goals
          go_ret
          rw [HR.out]
          exact ⟨rfl, ⟨_, h1.out.setRow _, hu3⟩, only_set (x1.grow _) 0 _⟩
      · have HR : Hid (rdN true s true (l, true) = (0, l, true)) := Lib.hid (by unfold rdN; rw [if_pos (.inl ⟨rfl, rfl⟩)])
        go_enter Try.func52, Try.ntmps52
        go_wp2
        go_region
        all_goals go_wp2_with (go_at_call 55; refine (HW.out _ ((Ext.refl _).drewN _)).mono ?_; rintro e w1 ⟨v1, rfl, ⟨b1, rfl, ho1⟩, he1⟩; obtain ⟨A2, k2, hq, -⟩ := ho1.row; rw [HM.out] at hq; subst hq; have x1 := ((Ext.refl w).drewN _).trans he1; have h1 := Lib.hid (HG.out.ext x1); obtain ⟨y0, y1, y2, z0, z1, z2⟩ := h1.out.cells)
        all_goals
          go_ret
          rw [HR.out]
          exact ⟨rfl, ⟨_, h1.out, hv⟩, x1.grow _⟩
end Go.Proofs.Ythobicnhophdlaa
