/- Several texts of this proof, one behind the other. -/
import Derived.Test.YtkkfkjjmmdpafaaDoorYdK
import Derived.Test.YtkkfkjjmmdpafaaDoorYdL
import Derived.Test.YtkkfkjjmmdpafaaDoorYdH
import Derived.Test.YtkkfkjjmmdpafaaDoorYdE
namespace Go.Proofs.YtkkfkjjmmdpafaaDoor
open Go.RowKit Go.Maps
set_option linter.unusedVariables false

structure Agb (B : Nat) (w w' : World) : Prop where
  size : w.heap.size ≤ w'.heap.size
  same : ∀ g, B ≤ g → g < w.heap.size → w'.heap[g]? = w.heap[g]?
theorem Agb.refl (B : Nat) (w : World) : Agb B w w := ⟨Nat.le_refl _, fun _ _ _ => rfl⟩
theorem Agb.trans {B : Nat} {a b c : World} (h : Agb B a b) (k : Agb B b c) : Agb B a c := ⟨Nat.le_trans h.size k.size, fun g h1 h2 => (k.same g h1 (Nat.lt_of_lt_of_le h2 h.size)).trans (h.same g h1 h2)⟩
theorem Agb.of {B : Nat} {w w' : World} (h : Ext w w') : Agb B w w' := ⟨h.size, fun g _ h2 => h.block g h2⟩
theorem Agb.set {B : Nat} (w : World) {b o : Nat} (u : Value) (hb : b < B) : Agb B w (w.setCell ⟨b, o, none⟩ u) := by
  have gs := set_grownK w b o u
  refine ⟨gs.size, fun g h1 h2 => gs.block g h2 (fun e => ?_)⟩
  injection e with e
  omega
section
variable {B : Nat} {w w' : World}
theorem Own.agb {e : TypeId} {k : IntKind} {v : Value} {l : List Int} (h : Own B w e k v l) (a : Agb B w w') : Own B w' e k v l := by
  obtain ⟨⟨h1, h2⟩, hf⟩ := h
  refine ⟨⟨h1, ?_⟩, hf⟩
  rcases h2 with h2 | ⟨g, cap, cur, hv, hb, hg, hr⟩
  · exact .inl h2
  · exact .inr ⟨g, cap, cur, hv, hb, (a.same g hb (lt_of_get hg)).trans hg, hr⟩
theorem Shp.Own.agb {α : Type} {S : Shp α} {v : Value} {l : List α} (h : S.Own B w v l) (a : Agb B w w') (hn : ∀ x ∈ l, S.nestO B w' x) : S.Own B w' v l := by
  obtain ⟨⟨h1, h2⟩, hf⟩ := h
  refine ⟨⟨h1, ?_⟩, hn⟩
  rcases h2 with h2 | ⟨g, cap, cur, hv, hb, hg, hr⟩
  · exact .inl h2
  · exact .inr ⟨g, cap, cur, hv, hb, (a.same g hb (lt_of_get hg)).trans hg, hr⟩
theorem NdOk.agb {x : Nd} (h : NdOk B w x) (a : Agb B w w') : NdOk B w' x := ⟨h.vi.agb a (fun _ _ => trivial), h.vs.agb a, h.va.agb a⟩
theorem SetAt.agb {s m : Nat} {v : Sl} {D : DataW Unit} {ns : List Nd} (h : SetAt B s m v D w ns) (a : Agb B w w') : SetAt B s m v D w' ns := by
  have hs := lt_of_get h.blk
  refine ⟨h.bs, h.bm, (a.same s h.bs hs).trans h.blk, h.own.agb a (fun _ _ => trivial), ?_, h.num, fun x hx => (h.ok x hx).agb a⟩
  obtain ⟨es, clock, hb, hr⟩ := h.map
  exact ⟨es, clock, (a.same m h.bm (lt_of_get hb)).trans hb, hr⟩
theorem SetIs.agb {s : Nat} {N : List Kl} (h : SetIs B s N w) (a : Agb B w w') : SetIs B s N w' := by
  obtain ⟨m, g, n, c, D, ns, h1⟩ := h.at_
  exact ⟨h.n8, h.n72, h.ok, h.flt, h.bl, h.nms, ⟨m, g, n, c, D, ns, ⟨h1.set.agb a, h1.kl, h1.told, h1.above⟩⟩⟩
end
theorem RfG.gsl {s g n c : Nat} {r : List Kl} {L : List KlV} {w : World} (h : RfG s g n c r L w) : g < w.heap.size := by
  have hl : 0 < L.length := by rw [h.len, ← h.lenN, List.length_append, show builtZ.length = 8 from rfl]; omega
  obtain ⟨A, c', h1, h2, h3, h4, h6, h7⟩ := h.row
  obtain ⟨b, o, ha, hb, -⟩ := h6 hl
  injection h1 with e1 e2 e3
  rw [← e1] at ha
  injection ha with ha
  injection ha with hb' _
  omega
theorem RfG.agb {s g n c : Nat} {r : List Kl} {L : List KlV} {w w' : World} (h : RfG s g n c r L w) (hs : w'.heap[s]? = w.heap[s]?) (hg : w'.heap[g]? = w.heap[g]?) (hz : w.heap.size ≤ w'.heap.size) (hn : ∀ x ∈ L, NestK w' x) : RfG s g n c r L w' := by
  have hc0 : w'.cell? ⟨s, 0, none⟩ = w.cell? ⟨s, 0, none⟩ := World.cell?_of_block (w := w) hs
  refine ⟨hc0.trans h.c0, Nat.lt_of_lt_of_le h.sl hz, ?_, h.kl, h.n72, h.szs⟩
  obtain ⟨A, c', h1, h2, h3, h4, h6, h7⟩ := h.row
  refine ⟨A, c', h1, h2, h3, h4, fun hl => ?_, hn⟩
  obtain ⟨b, o, ha, hb, hc⟩ := h6 hl
  injection h1 with e1 e2 e3
  rw [← e1] at ha
  injection ha with ha
  injection ha with hb' ho'
  subst hb' ho'
  exact ⟨g, 0, by rw [← e1], Nat.lt_of_lt_of_le hb hz, fun j hj i hi => (World.cell?_of_block (w := w) hg).trans (hc j hj i hi)⟩
end Go.Proofs.YtkkfkjjmmdpafaaDoor
namespace Go.Proofs.YtkkfkjjmmdpafaaDoor
open Go.RowKit
set_option linter.unusedVariables false

structure Spo (lo hi : Nat) (wr : World) (A : Option Addr) (L : List KlV) : Prop where
  cls : 0 < L.length → ∃ g cur, A = some ⟨g, 0, none⟩ ∧ lo ≤ g ∧ g < hi ∧ wr.heap[g]? = some (.cells cur ShK.T (0, 0)) ∧
    ∀ j x, L[j]? = some x → cur[j * 7 + 1]? = some (.string x.k.nm) ∧ cur[j * 7 + 2]? = some (.string x.k.sup) ∧ (∃ b, cur[j * 7 + 3]? = some (.bool b)) ∧ cur[j * 7 + 4]? = some (.slice x.vi.A x.vi.n x.vi.c)
  ifs : ∀ x ∈ L, x.vi.n ≤ x.vi.c ∧ x.vi.c ≤ maxLen ∧ (0 < x.vi.n → ∃ g cur, x.vi.A = some ⟨g, 0, none⟩ ∧ lo ≤ g ∧ g < hi ∧ wr.heap[g]? = some (.cells cur ShS.T (0, 0)) ∧ x.vi.n ≤ cur.size)
theorem own_cells {α : Type} (S : Shp α) {cur : Array Value} {l : List α} (h : cur.toList.take (l.length * S.n) = l.flatMap fun x => (S.vals x).toList) (j i : Nat) (hj : j < l.length) (hi : i < S.n) : cur[j * S.n + i]? = (S.vals (S.el l j))[i]? := by
  have hlt : j * S.n + i < l.length * S.n := by
    have := Nat.mul_le_mul_right S.n (show j + 1 ≤ l.length from hj)
    rw [Nat.add_mul] at this
    omega
  have e1 := S.flat_at l j i hj hi
  rw [← h, List.getElem?_take_of_lt hlt] at e1
  rw [← e1]
  simp
theorem Spo.of {lo : Nat} {w : World} {A : Option Addr} {n c : Nat} {L : List KlV} (h : ShK.Own lo w (.slice A n c) L) : Spo lo w.heap.size w A L := by
  refine ⟨fun hl => ?_, fun x hx => ?_⟩
  · rcases h.1.2 with ⟨h1, h2⟩ | ⟨g, cap, cur, h1, hb, hg, hn, hm, hs, ht⟩
    · omega
    · injection h1 with h1 _ _
      refine ⟨g, cur, h1, hb, lt_of_get hg, hg, fun j x hx => ?_⟩
      obtain ⟨hj, rfl⟩ := List.getElem?_eq_some_iff.1 hx
      have hc := fun i (hi : i < 7) => own_cells ShK ht j i hj hi
      rw [ShK.el_get hj] at hc
      exact ⟨hc 1 (by omega), hc 2 (by omega), ⟨_, hc 3 (by omega)⟩, hc 4 (by omega)⟩
  · have h1 : ShS.Own lo w x.vi.v x.k.ifs := h.2 x hx
    obtain ⟨A', c', e, h2, h3⟩ := h1.slice
    injection e with e1 e2 e3
    refine ⟨by omega, by omega, fun h0 => ?_⟩
    rcases h1.1.2 with ⟨h4, h5⟩ | ⟨g, cap, cur, h4, hb, hg, hn, hm, hs, ht⟩
    · omega
    · injection h4 with h4 h5 h6
      refine ⟨g, cur, h4, hb, lt_of_get hg, hg, ?_⟩
      rw [hs, show ShS.n = 1 from rfl]
      omega
section
variable {lo hi : Nat} {wr w' : World} {A : Option Addr} {L : List KlV}
theorem Spo.ext (h : Spo lo hi wr A L) (e : Ext wr w') : Spo lo hi w' A L := by
  refine ⟨fun hl => ?_, fun x hx => ?_⟩
  · obtain ⟨g, cur, h1, h2, h3, h4, h5⟩ := h.cls hl
    exact ⟨g, cur, h1, h2, h3, (e.block g (lt_of_get h4)).trans h4, h5⟩
  · obtain ⟨h1, h2, h3⟩ := h.ifs x hx
    refine ⟨h1, h2, fun h0 => ?_⟩
    obtain ⟨g, cur, h4, h5, h6, h7, h8⟩ := h3 h0
    exact ⟨g, cur, h4, h5, h6, (e.block g (lt_of_get h7)).trans h7, h8⟩
theorem ShKS_ne : ShK.T ≠ ShS.T := by decide
theorem set_other {w : World} {b o : Nat} {u : Value} {q : Nat} {ob : Obj} (h : w.heap[q]? = some ob) (hq : q ≠ b) : (w.setCell ⟨b, o, none⟩ u).heap[q]? = some ob :=
  ((set_grownK w b o u).block q (lt_of_get h) (fun e => by injection e with e; exact hq e)).trans h
theorem Spo.flip {g : Nat} (h : Spo lo hi wr A L) (hA : A = some ⟨g, 0, none⟩) {j : Nat} {x : KlV} (hx : L[j]? = some x) (b : Bool) : Spo lo hi (wr.setCell ⟨g, j * 7 + 3, none⟩ (.bool b)) A L := by
  obtain ⟨hj, -⟩ := List.getElem?_eq_some_iff.1 hx
  obtain ⟨g', cur, h1, h2, h3, h4, h5⟩ := h.cls (by omega)
  rw [hA] at h1
  injection h1 with h1
  injection h1 with h1 _
  subst h1
  refine ⟨fun _ => ⟨g, _, hA, h2, h3, heap_setCell_same wr g _ _ _ _ h4, fun k y hy => ?_⟩, fun y hy => ?_⟩
  · obtain ⟨c1, c2, ⟨b3, c3⟩, c4⟩ := h5 k y hy
    refine ⟨?_, ?_, ?_, ?_⟩
    · rw [Array.getElem?_setIfInBounds_ne (by omega)]; exact c1
    · rw [Array.getElem?_setIfInBounds_ne (by omega)]; exact c2
    · by_cases e : j = k
      · subst e
        exact ⟨b, Array.getElem?_setIfInBounds_self_of_lt (Array.getElem?_eq_some_iff.1 c3).1⟩
      · exact ⟨b3, by rw [Array.getElem?_setIfInBounds_ne (by omega)]; exact c3⟩
    · rw [Array.getElem?_setIfInBounds_ne (by omega)]; exact c4
  · obtain ⟨k1, k2, k3⟩ := h.ifs y hy
    refine ⟨k1, k2, fun h0 => ?_⟩
    obtain ⟨q, cu, k4, k5, k6, k7, k8⟩ := k3 h0
    refine ⟨q, cu, k4, k5, k6, set_other k7 (fun e => ?_), k8⟩
    subst e
    rw [h4] at k7
    injection k7 with k7
    injection k7 with _ k7 _
    exact ShKS_ne k7
theorem Spo.spoil {g : Nat} (h : Spo lo hi wr A L) {x : KlV} (hx : x ∈ L) (hn : 0 < x.vi.n) (hA : x.vi.A = some ⟨g, 0, none⟩) (k : Nat) (s : ByteArray) : Spo lo hi (wr.setCell ⟨g, k, none⟩ (.string s)) A L := by
  obtain ⟨-, -, hx3⟩ := h.ifs x hx
  obtain ⟨g', cur, h1, h2, h3, h4, h5⟩ := hx3 hn
  rw [hA] at h1
  injection h1 with h1
  injection h1 with h1 _
  subst h1
  refine ⟨fun hl => ?_, fun y hy => ?_⟩
  · obtain ⟨q, cu, k1, k2, k3, k4, k5⟩ := h.cls hl
    refine ⟨q, cu, k1, k2, k3, set_other k4 (fun e => ?_), k5⟩
    subst e
    rw [h4] at k4
    injection k4 with k4
    injection k4 with _ k4 _
    exact ShKS_ne k4.symm
  · obtain ⟨k1, k2, k3⟩ := h.ifs y hy
    refine ⟨k1, k2, fun h0 => ?_⟩
    obtain ⟨q, cu, k4, k5, k6, k7, k8⟩ := k3 h0
    by_cases e : q = g
    · subst e
      rw [h4] at k7
      injection k7 with k7
      injection k7 with k7 _ _
      subst k7
      exact ⟨q, _, k4, k5, k6, heap_setCell_same wr q _ _ _ _ h4, by simpa using k8⟩
    · exact ⟨q, cu, k4, k5, k6, set_other k7 e, k8⟩
end
end Go.Proofs.YtkkfkjjmmdpafaaDoor
namespace Go.Proofs.YtkkfkjjmmdpafaaDoor
open Go.RowKit
set_option linter.unusedVariables false

section
variable {s g n c : Nat} {r : List Kl} {L : List KlV} {w w' : World}
set_option maxHeartbeats 400000 in
theorem rHas (h : RfG s g n c r L w) (i : Int) : Calls Tryd.prog 50 #[.pointer (some ⟨s, 0, none⟩), .int .i64 i] w fun e w' => e = .returned (.bool (inN (builtZ ++ r) i)) ∧ w' = w := by
  have d0 := h.c0
  have hmc := h.cap
  have hn72 := h.n72
  rcases in_cases (builtZ ++ r) i with ⟨k, rfl, hk⟩ | hi
  · rw [inN_nat hk]
    rw [h.lenN] at hk
    have hk0 : (0 : Int) ≤ (k : Int) := by omega
    have hk1 : ¬ (k : Int) < 0 := by omega
    have hk2 : (k : Int) < (n : Int) := by omega
    clear h
    go_enter Tryd.func50, Tryd.ntmps50
    go_wp2
    go_ret
    exact ⟨rfl, rfl⟩
  · rw [inN_no hi]
    rw [h.lenN] at hi
    clear h
    rcases hi with hi | hi
    · have hi0 : ¬ 0 ≤ i := by omega
      go_enter Tryd.func50, Tryd.ntmps50
      go_wp2
      go_ret
      exact ⟨rfl, rfl⟩
    · have hi0 : 0 ≤ i := by omega
      have hi1 : ¬ i < 0 := by omega
      have hi2 : ¬ i < (n : Int) := by omega
      go_enter Tryd.func50, Tryd.ntmps50
      go_wp2
      go_ret
      exact ⟨rfl, rfl⟩
set_option maxHeartbeats 400000 in
theorem rSuper (h : RfG s g n c r L w) (i : Int) : Calls Tryd.prog 23 #[.pointer (some ⟨s, 0, none⟩), .int .i64 i] w (Quiet w (.int .i64 (superZ (builtZ ++ r) i))) := by
  have hmc := h.cap
  have hn72 := h.n72
  have HH := rHas h i
  unfold superZ
  rcases in_cases (builtZ ++ r) i with ⟨k, rfl, hk⟩ | hi
  · rw [inN_nat hk] at HH ⊢
    rw [if_pos rfl, Int.toNat_natCast]
    rw [h.lenN] at hk
    obtain ⟨x, -, hxk, hat⟩ := h.at k hk
    have HFQ : Hid (0 < k → ∀ W, Ext w W → Calls Tryd.prog 45 #[.slice (some ⟨g, 0, none⟩) n c, .string x.k.sup] W fun e w' => e = .returned (.int .i64 (supI (builtZ ++ r) k)) ∧ ∃ n, w' = W.drewN n) := Lib.hid fun h0 W e => ((h.ext e).find x.k.sup).mono fun e' w' ⟨h1, h2⟩ => ⟨by rw [h1, hxk, supR r k h0], 0, by rw [h2]; rfl⟩
    have e1 := (hat w (Ext.refl w)).1.2.2.1
    have HD : Hid (∀ q, Ext w (w.drewN q)) := Lib.hid fun q => (Ext.refl w).drewN q
    have e0 := h.c0
    clear h hxk hat
    obtain ⟨su, hsu⟩ : ∃ su, x.k.sup = su := ⟨_, rfl⟩
    rw [hsu] at HFQ e1
    clear hsu
    rcases k with _ | k
    · have hs0 : supI (builtZ ++ r) 0 = -1 := rfl
      rw [hs0]
      have hk0 : ((0 : Nat) : Int) < 1 := by omega
      clear HH HFQ
      go_enter Tryd.func23, Tryd.ntmps23
      go_wp2
      go_ret
      exact ⟨rfl, 0, rfl⟩
    · have HF := Lib.hid (HFQ.out (by omega))
      obtain ⟨z, hz⟩ : ∃ z, k + 1 = z := ⟨_, rfl⟩
      rw [hz] at hk HF HH e1 ⊢
      have hz0 : ¬ (z : Int) < 1 := by omega
      have hz1 : ¬ (z : Int) < 0 := by omega
      have hz2 : (z : Int) < (n : Int) := by omega
      clear hz HFQ
      obtain ⟨u, hu⟩ : ∃ u, supI (builtZ ++ r) z = u := ⟨_, rfl⟩
      rw [hu] at HF ⊢
      clear hu
      have HHH := Lib.hid HH
      clear HH
      go_enter Tryd.func23, Tryd.ntmps23
      go_wp2_with fail
      refine HHH.out.mono ?_
      rintro e y ⟨rfl, rfl⟩
      go_wp2_with fail
      go_quiet (first
        | (go_at_call 45; refine Calls.quiet_of (HF.out _ ?_); exact HD.out _))
      go_wp2
      go_ret
      exact ⟨rfl, _, rfl⟩
  · rw [inN_no hi] at HH ⊢
    rw [if_neg (by simp)]
    rw [h.lenN] at hi
    clear h
    have HHH := Lib.hid HH
    clear HH
    rcases (show i < 1 ∨ ¬ i < 1 by omega) with h1 | h1
    · go_enter Tryd.func23, Tryd.ntmps23
      go_wp2
      go_ret
      exact ⟨rfl, 0, rfl⟩
    · go_enter Tryd.func23, Tryd.ntmps23
      go_wp2_with fail
      refine HHH.out.mono ?_
      rintro e y ⟨rfl, rfl⟩
      go_wp2
      go_ret
      exact ⟨rfl, 0, rfl⟩
end
end Go.Proofs.YtkkfkjjmmdpafaaDoor
namespace Go.Proofs.YtkkfkjjmmdpafaaDoor
open Go.RowKit Go.Maps Go.WideMaps
set_option linter.unusedVariables false

def clsZ (N : List Kl) (i : Int) : Bool := decide (8 ≤ i) && inN N i
def cnmZ (N : List Kl) (i : Int) : ByteArray := if clsZ N i then (gk N i.toNat).nm else ⟨#[]⟩
def cspZ (N : List Kl) (i : Int) : ByteArray := if clsZ N i then (gk N i.toNat).sup else ⟨#[]⟩
def ClsAns (N : List Kl) (i : Int) (e : Ending) : Prop := ∃ (A0 : Option Addr) (n0 c0 : Nat) (b3 : Bool) (A4 : Option Addr) (n4 c4 : Nat) (A5 : Option Addr) (n5 c5 : Nat) (A6 : Option Addr) (n6 c6 : Nat), e = .returned (.tuple #[.agg #[.slice A0 n0 c0, .string (cnmZ N i), .string (cspZ N i), .bool b3, .slice A4 n4 c4, .slice A5 n5 c5, .slice A6 n6 c6], .bool (clsZ N i)])
theorem clsZ_in {N : List Kl} {k : Nat} (h8 : 8 ≤ k) (h : k < N.length) : clsZ N k = true := by
  unfold clsZ
  rw [inN_nat h]
  simp; omega
theorem clsZ_low {N : List Kl} {i : Int} (h : i < 8) : clsZ N i = false := by
  unfold clsZ
  rw [decide_eq_false (by omega)]
  rfl
theorem clsZ_out {N : List Kl} {i : Int} (h : i < 0 ∨ (N.length : Int) ≤ i) : clsZ N i = false := by
  unfold clsZ
  rw [inN_no h, Bool.and_false]
theorem cnm_no {N : List Kl} {i : Int} (h : clsZ N i = false) : cnmZ N i = ⟨#[]⟩ := by unfold cnmZ; rw [if_neg (by rw [h]; simp)]
theorem csp_no {N : List Kl} {i : Int} (h : clsZ N i = false) : cspZ N i = ⟨#[]⟩ := by unfold cspZ; rw [if_neg (by rw [h]; simp)]
theorem cnm_in {N : List Kl} {k : Nat} (h : clsZ N k = true) : cnmZ N k = (gk N k).nm := by unfold cnmZ; rw [if_pos h, Int.toNat_natCast]
theorem csp_in {N : List Kl} {k : Nat} (h : clsZ N k = true) : cspZ N k = (gk N k).sup := by unfold cspZ; rw [if_pos h, Int.toNat_natCast]
theorem cls_cases (N : List Kl) (i : Int) : (∃ k : Nat, i = k ∧ 8 ≤ k ∧ k < N.length) ∨ i < 8 ∨ (8 ≤ i ∧ (N.length : Int) ≤ i) := by
  by_cases h : 8 ≤ i ∧ i < N.length
  · exact .inl ⟨i.toNat, by omega, by omega, by omega⟩
  · exact .inr (by omega)
theorem SetAt.cls7 {B s m g n c : Nat} {D : DataW Unit} {w : World} {ns : List Nd} (h : SetAt B s m ⟨some ⟨g, 0, none⟩, n, c⟩ D w ns) (i : Nat) (x : Nd) (hx : ns[i]? = some x) :
    w.cell? ⟨g, i * 11, none⟩ = some (.slice none 0 0) ∧ w.cell? ⟨g, i * 11 + 1, none⟩ = some (.string x.k.nm) ∧ w.cell? ⟨g, i * 11 + 2, none⟩ = some (.string x.k.sup) ∧ w.cell? ⟨g, i * 11 + 3, none⟩ = some (.bool x.k.inf) ∧ w.cell? ⟨g, i * 11 + 4, none⟩ = some (.slice x.vi.A x.vi.n x.vi.c) ∧ w.cell? ⟨g, i * 11 + 5, none⟩ = some (.slice none 0 0) ∧ w.cell? ⟨g, i * 11 + 6, none⟩ = some (.slice none 0 0) := by
  obtain ⟨hi, rfl⟩ := List.getElem?_eq_some_iff.1 hx
  obtain ⟨b, o, hA, hat⟩ := Shp.Row.at (show ShN.Row w (.slice (some ⟨g, 0, none⟩) n c) ns from h.own.row) (by omega)
  injection hA with hA
  injection hA with h1 h2
  subst h1 h2
  have h3 := (hat w (Ext.refl w) i hi).1
  rw [ShN.el_get hi, show ShN.n = 11 from rfl, Nat.zero_add] at h3
  exact ⟨h3 0 (by decide), h3 1 (by decide), h3 2 (by decide), h3 3 (by decide), h3 4 (by decide), h3 5 (by decide), h3 6 (by decide)⟩
set_option maxRecDepth 100000 in
set_option maxHeartbeats 2000000 in
theorem sClass {B s : Nat} {N : List Kl} {w : World} (h : SetIs B s N w) (i : Int) : Calls Tryd.prog 18 #[.pointer (some ⟨s, 0, none⟩), .int .i64 i] w fun e w' => ClsAns N i e ∧ Ext w w' := by
  have HLE := Lib.hid (sLen (h.ext ((Ext.refl w).alloc (.cells #[.slice none 0 0, .string ⟨#[]⟩, .string ⟨#[]⟩, .bool false, .slice none 0 0, .slice none 0 0, .slice none 0 0] 36))))
  have h72 := h.n72
  rcases cls_cases N i with ⟨k, rfl, h8, hk⟩ | hi | ⟨h8, hi⟩
  · obtain ⟨m, g, c, D, ns, h1⟩ := h.get
    obtain ⟨x, hx, hxk, -⟩ := h1.tells k hk
    have hx0 : Ext w (w.alloc (.cells #[.slice none 0 0, .string ⟨#[]⟩, .string ⟨#[]⟩, .bool false, .slice none 0 0, .slice none 0 0, .slice none 0 0] 36)) := (Ext.refl w).alloc _
    obtain ⟨d0, d1, d2, d3, d4, d5, d6⟩ := (h1.set.ext hx0).cls7 k x hx
    have c0 := (h1.set.ext hx0).c0
    have hcap := h1.set.get.cap
    have hok := (h1.set.ok x (List.mem_of_getElem? hx)).vi.row
    obtain ⟨z1, z2, z3, z4⟩ := h.nms k
    have HOW := Lib.hid (fun W (e : Ext w W) => own_any x.k x.vi.A x.vi.n x.vi.c (Shp.Row.ext (show ShS.Row w (.slice x.vi.A x.vi.n x.vi.c) x.k.ifs from hok) e) (by rw [hxk]; exact z1) (by rw [hxk]; exact z2) (by rw [hxk]; exact z3) (by rw [hxk]; exact z4))
    have hcz := clsZ_in h8 hk
    unfold ClsAns
    rw [cnm_in hcz, csp_in hcz, hcz, ← hxk]
    obtain ⟨n, hn⟩ : ∃ n, N.length = n := ⟨_, rfl⟩
    rw [hn] at HLE h72 hk c0 hcap
    have hk0 : ¬ (k : Int) < 8 := by omega
    have hk1 : ¬ (n : Int) ≤ (k : Int) := by omega
    have hk2 : ¬ (k : Int) < 0 := by omega
    have hk3 : (k : Int) < (n : Int) := by omega
    clear h h1 hx hxk hok z1 z2 z3 z4 hcz hn
    dsimp only at c0
    go_enter Tryd.func18, Tryd.ntmps18
    go_wp2_with fail
    refine HLE.out.mono ?_
    rintro e y ⟨rfl, hy⟩
    subst hy
    go_wp2_with fail
    refine (HOW.out _ hx0).mono ?_
    rintro e wq ⟨A', n', c', rfl, -, x2⟩
    have hb : wq.heap[w.heap.size]? = some (.cells #[.slice none 0 0, .string ⟨#[]⟩, .string ⟨#[]⟩, .bool false, .slice none 0 0, .slice none 0 0, .slice none 0 0] 36 (0, 0)) := (x2.block _ (by simp)).trans (heap_alloc_new w _)
    have y0 : wq.cell? ⟨w.heap.size, 0, none⟩ = some (.slice none 0 0) := by rw [cell_of_row wq w.heap.size 0 _ _ (0, 0) hb]; rfl
    have y1 : wq.cell? ⟨w.heap.size, 1, none⟩ = some (.string ⟨#[]⟩) := by rw [cell_of_row wq w.heap.size 1 _ _ (0, 0) hb]; rfl
    have y2 : wq.cell? ⟨w.heap.size, 2, none⟩ = some (.string ⟨#[]⟩) := by rw [cell_of_row wq w.heap.size 2 _ _ (0, 0) hb]; rfl
    have y3 : wq.cell? ⟨w.heap.size, 3, none⟩ = some (.bool false) := by rw [cell_of_row wq w.heap.size 3 _ _ (0, 0) hb]; rfl
    have y4 : wq.cell? ⟨w.heap.size, 4, none⟩ = some (.slice none 0 0) := by rw [cell_of_row wq w.heap.size 4 _ _ (0, 0) hb]; rfl
    have y5 : wq.cell? ⟨w.heap.size, 5, none⟩ = some (.slice none 0 0) := by rw [cell_of_row wq w.heap.size 5 _ _ (0, 0) hb]; rfl
    have y6 : wq.cell? ⟨w.heap.size, 6, none⟩ = some (.slice none 0 0) := by rw [cell_of_row wq w.heap.size 6 _ _ (0, 0) hb]; rfl
    have hfz : ∀ j, wq.frozen? ⟨w.heap.size, j, none⟩ = false := fun j => by simp [World.frozen?, hb]
    have HH2 := Lib.hid (sets7_heap hb (.slice none 0 0) (.string x.k.nm) (.string x.k.sup) (.bool x.k.inf) (.slice A' n' c') (.slice none 0 0) (.slice none 0 0))
    have HE := Lib.hid ((hx0.trans x2).grown (sets7_grown (World.grownBy.refl wq (some w.heap.size)) (.slice none 0 0) (.string x.k.nm) (.string x.k.sup) (.bool x.k.inf) (.slice A' n' c') (.slice none 0 0) (.slice none 0 0)) (fun g e => by injection e with e; rw [← e]; exact Nat.le_refl _))
    unfold sets7 at HH2 HE
    clear hb hx0 x2 HOW
    go_wp2
    obtain ⟨Wz, hWz⟩ : ∃ Wz, sets7 wq w.heap.size (.slice none 0 0) (.string x.k.nm) (.string x.k.sup) (.bool x.k.inf) (.slice A' n' c') (.slice none 0 0) (.slice none 0 0) = Wz := ⟨_, rfl⟩
    unfold sets7 at hWz
    clear y0 y1 y2 y3 y4 y5 y6 hfz
    try rw [hWz]
    rw [hWz] at HH2 HE
    have hh := HH2.out
    have y0 : Wz.cell? ⟨w.heap.size, 0, none⟩ = some (.slice none 0 0) := by rw [cell_of_row Wz w.heap.size 0 _ _ (0, 0) hh]; rfl
    have y1 : Wz.cell? ⟨w.heap.size, 1, none⟩ = some (.string x.k.nm) := by rw [cell_of_row Wz w.heap.size 1 _ _ (0, 0) hh]; rfl
    have y2 : Wz.cell? ⟨w.heap.size, 2, none⟩ = some (.string x.k.sup) := by rw [cell_of_row Wz w.heap.size 2 _ _ (0, 0) hh]; rfl
    have y3 : Wz.cell? ⟨w.heap.size, 3, none⟩ = some (.bool x.k.inf) := by rw [cell_of_row Wz w.heap.size 3 _ _ (0, 0) hh]; rfl
    have y4 : Wz.cell? ⟨w.heap.size, 4, none⟩ = some (.slice A' n' c') := by rw [cell_of_row Wz w.heap.size 4 _ _ (0, 0) hh]; rfl
    have y5 : Wz.cell? ⟨w.heap.size, 5, none⟩ = some (.slice none 0 0) := by rw [cell_of_row Wz w.heap.size 5 _ _ (0, 0) hh]; rfl
    have y6 : Wz.cell? ⟨w.heap.size, 6, none⟩ = some (.slice none 0 0) := by rw [cell_of_row Wz w.heap.size 6 _ _ (0, 0) hh]; rfl
    refine bodyPost_ret (v := .tuple #[.agg #[.slice none 0 0, .string x.k.nm, .string x.k.sup, .bool x.k.inf, .slice A' n' c', .slice none 0 0, .slice none 0 0], .bool true]) (by simp [results, Tryd.results18, go_sem, y0, y1, y2, y3, y4, y5, y6]; try rfl) rfl ?_
    exact ⟨⟨_, _, _, _, _, _, _, _, _, _, _, _, _, rfl⟩, HE.out⟩
  · have hcz := clsZ_low (N := N) hi
    unfold ClsAns
    rw [cnm_no hcz, csp_no hcz, hcz]
    clear h HLE hcz
    go_enter Tryd.func18, Tryd.ntmps18
    go_wp2
    have hh := heap_alloc_new w (.cells #[.slice none 0 0, .string ⟨#[]⟩, .string ⟨#[]⟩, .bool false, .slice none 0 0, .slice none 0 0, .slice none 0 0] 36)
    have y0 : (w.alloc (.cells #[.slice none 0 0, .string ⟨#[]⟩, .string ⟨#[]⟩, .bool false, .slice none 0 0, .slice none 0 0, .slice none 0 0] 36)).cell? ⟨w.heap.size, 0, none⟩ = some (.slice none 0 0) := by rw [cell_of_row (w.alloc (.cells #[.slice none 0 0, .string ⟨#[]⟩, .string ⟨#[]⟩, .bool false, .slice none 0 0, .slice none 0 0, .slice none 0 0] 36)) w.heap.size 0 _ _ (0, 0) hh]; rfl
    have y1 : (w.alloc (.cells #[.slice none 0 0, .string ⟨#[]⟩, .string ⟨#[]⟩, .bool false, .slice none 0 0, .slice none 0 0, .slice none 0 0] 36)).cell? ⟨w.heap.size, 1, none⟩ = some (.string ⟨#[]⟩) := by rw [cell_of_row (w.alloc (.cells #[.slice none 0 0, .string ⟨#[]⟩, .string ⟨#[]⟩, .bool false, .slice none 0 0, .slice none 0 0, .slice none 0 0] 36)) w.heap.size 1 _ _ (0, 0) hh]; rfl
    have y2 : (w.alloc (.cells #[.slice none 0 0, .string ⟨#[]⟩, .string ⟨#[]⟩, .bool false, .slice none 0 0, .slice none 0 0, .slice none 0 0] 36)).cell? ⟨w.heap.size, 2, none⟩ = some (.string ⟨#[]⟩) := by rw [cell_of_row (w.alloc (.cells #[.slice none 0 0, .string ⟨#[]⟩, .string ⟨#[]⟩, .bool false, .slice none 0 0, .slice none 0 0, .slice none 0 0] 36)) w.heap.size 2 _ _ (0, 0) hh]; rfl
    have y3 : (w.alloc (.cells #[.slice none 0 0, .string ⟨#[]⟩, .string ⟨#[]⟩, .bool false, .slice none 0 0, .slice none 0 0, .slice none 0 0] 36)).cell? ⟨w.heap.size, 3, none⟩ = some (.bool false) := by rw [cell_of_row (w.alloc (.cells #[.slice none 0 0, .string ⟨#[]⟩, .string ⟨#[]⟩, .bool false, .slice none 0 0, .slice none 0 0, .slice none 0 0] 36)) w.heap.size 3 _ _ (0, 0) hh]; rfl
    have y4 : (w.alloc (.cells #[.slice none 0 0, .string ⟨#[]⟩, .string ⟨#[]⟩, .bool false, .slice none 0 0, .slice none 0 0, .slice none 0 0] 36)).cell? ⟨w.heap.size, 4, none⟩ = some (.slice none 0 0) := by rw [cell_of_row (w.alloc (.cells #[.slice none 0 0, .string ⟨#[]⟩, .string ⟨#[]⟩, .bool false, .slice none 0 0, .slice none 0 0, .slice none 0 0] 36)) w.heap.size 4 _ _ (0, 0) hh]; rfl
    have y5 : (w.alloc (.cells #[.slice none 0 0, .string ⟨#[]⟩, .string ⟨#[]⟩, .bool false, .slice none 0 0, .slice none 0 0, .slice none 0 0] 36)).cell? ⟨w.heap.size, 5, none⟩ = some (.slice none 0 0) := by rw [cell_of_row (w.alloc (.cells #[.slice none 0 0, .string ⟨#[]⟩, .string ⟨#[]⟩, .bool false, .slice none 0 0, .slice none 0 0, .slice none 0 0] 36)) w.heap.size 5 _ _ (0, 0) hh]; rfl
    have y6 : (w.alloc (.cells #[.slice none 0 0, .string ⟨#[]⟩, .string ⟨#[]⟩, .bool false, .slice none 0 0, .slice none 0 0, .slice none 0 0] 36)).cell? ⟨w.heap.size, 6, none⟩ = some (.slice none 0 0) := by rw [cell_of_row (w.alloc (.cells #[.slice none 0 0, .string ⟨#[]⟩, .string ⟨#[]⟩, .bool false, .slice none 0 0, .slice none 0 0, .slice none 0 0] 36)) w.heap.size 6 _ _ (0, 0) hh]; rfl
    refine bodyPost_ret (v := .tuple #[.agg #[.slice none 0 0, .string ⟨#[]⟩, .string ⟨#[]⟩, .bool false, .slice none 0 0, .slice none 0 0, .slice none 0 0], .bool false]) (by simp [results, Tryd.results18, go_sem, y0, y1, y2, y3, y4, y5, y6]; try rfl) rfl ?_
    exact ⟨⟨_, _, _, _, _, _, _, _, _, _, _, _, _, rfl⟩, (Ext.refl w).alloc _⟩
  · have hcz := clsZ_out (N := N) (.inr hi)
    unfold ClsAns
    rw [cnm_no hcz, csp_no hcz, hcz]
    obtain ⟨n, hn⟩ : ∃ n, N.length = n := ⟨_, rfl⟩
    rw [hn] at HLE hi
    have hi0 : ¬ i < 8 := by omega
    clear h hcz hn
    go_enter Tryd.func18, Tryd.ntmps18
    go_wp2_with fail
    refine HLE.out.mono ?_
    rintro e y ⟨rfl, hy⟩
    subst hy
    go_wp2
    have hh := heap_alloc_new w (.cells #[.slice none 0 0, .string ⟨#[]⟩, .string ⟨#[]⟩, .bool false, .slice none 0 0, .slice none 0 0, .slice none 0 0] 36)
    have y0 : (w.alloc (.cells #[.slice none 0 0, .string ⟨#[]⟩, .string ⟨#[]⟩, .bool false, .slice none 0 0, .slice none 0 0, .slice none 0 0] 36)).cell? ⟨w.heap.size, 0, none⟩ = some (.slice none 0 0) := by rw [cell_of_row (w.alloc (.cells #[.slice none 0 0, .string ⟨#[]⟩, .string ⟨#[]⟩, .bool false, .slice none 0 0, .slice none 0 0, .slice none 0 0] 36)) w.heap.size 0 _ _ (0, 0) hh]; rfl
    have y1 : (w.alloc (.cells #[.slice none 0 0, .string ⟨#[]⟩, .string ⟨#[]⟩, .bool false, .slice none 0 0, .slice none 0 0, .slice none 0 0] 36)).cell? ⟨w.heap.size, 1, none⟩ = some (.string ⟨#[]⟩) := by rw [cell_of_row (w.alloc (.cells #[.slice none 0 0, .string ⟨#[]⟩, .string ⟨#[]⟩, .bool false, .slice none 0 0, .slice none 0 0, .slice none 0 0] 36)) w.heap.size 1 _ _ (0, 0) hh]; rfl
    have y2 : (w.alloc (.cells #[.slice none 0 0, .string ⟨#[]⟩, .string ⟨#[]⟩, .bool false, .slice none 0 0, .slice none 0 0, .slice none 0 0] 36)).cell? ⟨w.heap.size, 2, none⟩ = some (.string ⟨#[]⟩) := by rw [cell_of_row (w.alloc (.cells #[.slice none 0 0, .string ⟨#[]⟩, .string ⟨#[]⟩, .bool false, .slice none 0 0, .slice none 0 0, .slice none 0 0] 36)) w.heap.size 2 _ _ (0, 0) hh]; rfl
    have y3 : (w.alloc (.cells #[.slice none 0 0, .string ⟨#[]⟩, .string ⟨#[]⟩, .bool false, .slice none 0 0, .slice none 0 0, .slice none 0 0] 36)).cell? ⟨w.heap.size, 3, none⟩ = some (.bool false) := by rw [cell_of_row (w.alloc (.cells #[.slice none 0 0, .string ⟨#[]⟩, .string ⟨#[]⟩, .bool false, .slice none 0 0, .slice none 0 0, .slice none 0 0] 36)) w.heap.size 3 _ _ (0, 0) hh]; rfl
    have y4 : (w.alloc (.cells #[.slice none 0 0, .string ⟨#[]⟩, .string ⟨#[]⟩, .bool false, .slice none 0 0, .slice none 0 0, .slice none 0 0] 36)).cell? ⟨w.heap.size, 4, none⟩ = some (.slice none 0 0) := by rw [cell_of_row (w.alloc (.cells #[.slice none 0 0, .string ⟨#[]⟩, .string ⟨#[]⟩, .bool false, .slice none 0 0, .slice none 0 0, .slice none 0 0] 36)) w.heap.size 4 _ _ (0, 0) hh]; rfl
    have y5 : (w.alloc (.cells #[.slice none 0 0, .string ⟨#[]⟩, .string ⟨#[]⟩, .bool false, .slice none 0 0, .slice none 0 0, .slice none 0 0] 36)).cell? ⟨w.heap.size, 5, none⟩ = some (.slice none 0 0) := by rw [cell_of_row (w.alloc (.cells #[.slice none 0 0, .string ⟨#[]⟩, .string ⟨#[]⟩, .bool false, .slice none 0 0, .slice none 0 0, .slice none 0 0] 36)) w.heap.size 5 _ _ (0, 0) hh]; rfl
    have y6 : (w.alloc (.cells #[.slice none 0 0, .string ⟨#[]⟩, .string ⟨#[]⟩, .bool false, .slice none 0 0, .slice none 0 0, .slice none 0 0] 36)).cell? ⟨w.heap.size, 6, none⟩ = some (.slice none 0 0) := by rw [cell_of_row (w.alloc (.cells #[.slice none 0 0, .string ⟨#[]⟩, .string ⟨#[]⟩, .bool false, .slice none 0 0, .slice none 0 0, .slice none 0 0] 36)) w.heap.size 6 _ _ (0, 0) hh]; rfl
    refine bodyPost_ret (v := .tuple #[.agg #[.slice none 0 0, .string ⟨#[]⟩, .string ⟨#[]⟩, .bool false, .slice none 0 0, .slice none 0 0, .slice none 0 0], .bool false]) (by simp [results, Tryd.results18, go_sem, y0, y1, y2, y3, y4, y5, y6]; try rfl) rfl ?_
    exact ⟨⟨_, _, _, _, _, _, _, _, _, _, _, _, _, rfl⟩, (Ext.refl w).alloc _⟩
section
variable {s g n c : Nat} {r : List Kl} {L : List KlV} {w w' : World}
set_option maxHeartbeats 2000000 in
theorem rName (h : RfG s g n c r L w) (i : Int) : Calls Tryd.prog 21 #[.pointer (some ⟨s, 0, none⟩), .int .i64 i] w fun e w' => e = .returned (.string (nameZ (builtZ ++ r) i)) ∧ w' = w := by
  have hmc := h.cap
  have hn72 := h.n72
  have HH := Lib.hid (rHas h i)
  unfold nameZ
  rcases in_cases (builtZ ++ r) i with ⟨k, rfl, hk⟩ | hi
  · rw [inN_nat hk] at HH ⊢
    rw [if_pos rfl, Int.toNat_natCast]
    rw [h.lenN] at hk
    obtain ⟨x, -, hxk, hat⟩ := h.at k hk
    have e1 := (hat w (Ext.refl w)).1.2.1
    have e0 := h.c0
    rw [hxk, nmR] at e1
    obtain ⟨nm, hq⟩ : ∃ nm, (gk (builtZ ++ r) k).nm = nm := ⟨_, rfl⟩
    rw [hq] at e1 ⊢
    have hk1 : ¬ (k : Int) < 0 := by omega
    have hk2 : (k : Int) < (n : Int) := by omega
    clear h hxk hat hq
    go_enter Tryd.func21, Tryd.ntmps21
    go_wp2_with fail
    refine HH.out.mono ?_
    rintro e y ⟨rfl, hy⟩
    have hy := hy.symm
    subst hy
    go_wp2
    go_ret
    exact ⟨rfl, rfl⟩
  · rw [inN_no hi] at HH ⊢
    rw [if_neg (by simp)]
    clear h hi
    go_enter Tryd.func21, Tryd.ntmps21
    go_wp2_with fail
    refine HH.out.mono ?_
    rintro e y ⟨rfl, hy⟩
    have hy := hy.symm
    subst hy
    go_wp2
    go_ret
    exact ⟨rfl, rfl⟩
set_option maxHeartbeats 2000000 in
theorem rIsI (h : RfG s g n c r L w) (i : Int) : Calls Tryd.prog 28 #[.pointer (some ⟨s, 0, none⟩), .int .i64 i] w fun e w' => e = .returned (.bool (infZ (builtZ ++ r) i)) ∧ w' = w := by
  have hmc := h.cap
  have hn72 := h.n72
  have HH := Lib.hid (rHas h i)
  unfold infZ
  rcases in_cases (builtZ ++ r) i with ⟨k, rfl, hk⟩ | hi
  · rw [inN_nat hk] at HH ⊢
    rw [Bool.true_and, Int.toNat_natCast]
    rw [h.lenN] at hk
    obtain ⟨x, -, hxk, hat⟩ := h.at k hk
    have e1 := (hat w (Ext.refl w)).1.2.2.2.1
    have e0 := h.c0
    rw [hxk, infR] at e1
    obtain ⟨b, hq⟩ : ∃ b, (gk (builtZ ++ r) k).inf = b := ⟨_, rfl⟩
    rw [hq] at e1 ⊢
    have hk1 : ¬ (k : Int) < 0 := by omega
    have hk2 : (k : Int) < (n : Int) := by omega
    clear h hxk hat hq
    go_enter Tryd.func28, Tryd.ntmps28
    go_wp2_with fail
    refine HH.out.mono ?_
    rintro e y ⟨rfl, hy⟩
    have hy := hy.symm
    subst hy
    go_wp2
    go_ret
    exact ⟨rfl, rfl⟩
  · rw [inN_no hi] at HH ⊢
    rw [Bool.false_and]
    clear h hi
    go_enter Tryd.func28, Tryd.ntmps28
    go_wp2_with fail
    refine HH.out.mono ?_
    rintro e y ⟨rfl, hy⟩
    have hy := hy.symm
    subst hy
    go_wp2
    go_ret
    exact ⟨rfl, rfl⟩
set_option maxHeartbeats 2000000 in
theorem rNumber (h : RfG s g n c r L w) (nm : ByteArray) : Calls Tryd.prog 17 #[.pointer (some ⟨s, 0, none⟩), .string nm] w fun e w' => e = .returned (.tuple #[.int .i64 (if findZ (builtZ ++ r) nm < 0 then 0 else findZ (builtZ ++ r) nm), .bool (decide (0 ≤ findZ (builtZ ++ r) nm))]) ∧ w' = w := by
  have HF := Lib.hid (h.find nm)
  have e0 := h.c0
  obtain ⟨f, hf⟩ : ∃ f, findZ (builtZ ++ r) nm = f := ⟨_, rfl⟩
  rw [hf] at HF ⊢
  clear h hf
  by_cases hf : f < 0
  · rw [if_pos hf, decide_eq_false (by omega)]
    go_enter Tryd.func17, Tryd.ntmps17
    go_wp2_with fail
    refine HF.out.mono ?_
    rintro e y ⟨rfl, hy⟩
    have hy := hy.symm
    subst hy
    go_wp2
    go_ret2
    exact ⟨rfl, rfl⟩
  · rw [if_neg hf, decide_eq_true (by omega)]
    go_enter Tryd.func17, Tryd.ntmps17
    go_wp2_with fail
    refine HF.out.mono ?_
    rintro e y ⟨rfl, hy⟩
    have hy := hy.symm
    subst hy
    go_wp2
    go_ret2
    exact ⟨rfl, rfl⟩
set_option maxRecDepth 100000 in
set_option maxHeartbeats 2000000 in
theorem rClass (h : RfG s g n c r L w) (i : Int) : Calls Tryd.prog 19 #[.pointer (some ⟨s, 0, none⟩), .int .i64 i] w fun e w' => ClsAns (builtZ ++ r) i e ∧ Ext w w' := by
  have hmc := h.cap
  have hn72 := h.n72
  have HH := Lib.hid (rHas (h.ext ((Ext.refl w).alloc (.cells #[.slice none 0 0, .string ⟨#[]⟩, .string ⟨#[]⟩, .bool false, .slice none 0 0, .slice none 0 0, .slice none 0 0] 36))) i)
  rcases cls_cases (builtZ ++ r) i with ⟨k, rfl, h8, hk⟩ | hi | ⟨h8, hi⟩
  · have hcz := clsZ_in h8 hk
    unfold ClsAns
    rw [cnm_in hcz, csp_in hcz, hcz]
    rw [inN_nat hk] at HH
    rw [h.lenN] at hk
    obtain ⟨x, -, hxk, hat⟩ := h.at k hk
    have hx0 : Ext w (w.alloc (.cells #[.slice none 0 0, .string ⟨#[]⟩, .string ⟨#[]⟩, .bool false, .slice none 0 0, .slice none 0 0, .slice none 0 0] 36)) := (Ext.refl w).alloc _
    obtain ⟨d0, d1, d2, d3, d4, d5, d6⟩ := (hat _ hx0).1
    have e0 := (h.ext hx0).c0
    rw [gkR r k h8] at hxk
    rw [← hxk]
    have hk0 : ¬ (k : Int) < 8 := by omega
    have hk1 : ¬ (k : Int) < 0 := by omega
    have hk2 : (k : Int) < (n : Int) := by omega
    clear h hxk hat hcz
    go_enter Tryd.func19, Tryd.ntmps19
    go_wp2_with fail
    refine HH.out.mono ?_
    rintro e y ⟨rfl, hy⟩
    subst hy
    go_wp2
    have hh := heap_alloc_new w (.cells #[.slice x.vp.A x.vp.n x.vp.c, .string x.k.nm, .string x.k.sup, .bool x.k.inf, .slice x.vi.A x.vi.n x.vi.c, .slice x.vf.A x.vf.n x.vf.c, .slice x.vm.A x.vm.n x.vm.c] 36)
    have y0 : (w.alloc (.cells #[.slice x.vp.A x.vp.n x.vp.c, .string x.k.nm, .string x.k.sup, .bool x.k.inf, .slice x.vi.A x.vi.n x.vi.c, .slice x.vf.A x.vf.n x.vf.c, .slice x.vm.A x.vm.n x.vm.c] 36)).cell? ⟨w.heap.size, 0, none⟩ = some (.slice x.vp.A x.vp.n x.vp.c) := by rw [cell_of_row (w.alloc (.cells #[.slice x.vp.A x.vp.n x.vp.c, .string x.k.nm, .string x.k.sup, .bool x.k.inf, .slice x.vi.A x.vi.n x.vi.c, .slice x.vf.A x.vf.n x.vf.c, .slice x.vm.A x.vm.n x.vm.c] 36)) w.heap.size 0 _ _ (0, 0) hh]; rfl
    have y1 : (w.alloc (.cells #[.slice x.vp.A x.vp.n x.vp.c, .string x.k.nm, .string x.k.sup, .bool x.k.inf, .slice x.vi.A x.vi.n x.vi.c, .slice x.vf.A x.vf.n x.vf.c, .slice x.vm.A x.vm.n x.vm.c] 36)).cell? ⟨w.heap.size, 1, none⟩ = some (.string x.k.nm) := by rw [cell_of_row (w.alloc (.cells #[.slice x.vp.A x.vp.n x.vp.c, .string x.k.nm, .string x.k.sup, .bool x.k.inf, .slice x.vi.A x.vi.n x.vi.c, .slice x.vf.A x.vf.n x.vf.c, .slice x.vm.A x.vm.n x.vm.c] 36)) w.heap.size 1 _ _ (0, 0) hh]; rfl
    have y2 : (w.alloc (.cells #[.slice x.vp.A x.vp.n x.vp.c, .string x.k.nm, .string x.k.sup, .bool x.k.inf, .slice x.vi.A x.vi.n x.vi.c, .slice x.vf.A x.vf.n x.vf.c, .slice x.vm.A x.vm.n x.vm.c] 36)).cell? ⟨w.heap.size, 2, none⟩ = some (.string x.k.sup) := by rw [cell_of_row (w.alloc (.cells #[.slice x.vp.A x.vp.n x.vp.c, .string x.k.nm, .string x.k.sup, .bool x.k.inf, .slice x.vi.A x.vi.n x.vi.c, .slice x.vf.A x.vf.n x.vf.c, .slice x.vm.A x.vm.n x.vm.c] 36)) w.heap.size 2 _ _ (0, 0) hh]; rfl
    have y3 : (w.alloc (.cells #[.slice x.vp.A x.vp.n x.vp.c, .string x.k.nm, .string x.k.sup, .bool x.k.inf, .slice x.vi.A x.vi.n x.vi.c, .slice x.vf.A x.vf.n x.vf.c, .slice x.vm.A x.vm.n x.vm.c] 36)).cell? ⟨w.heap.size, 3, none⟩ = some (.bool x.k.inf) := by rw [cell_of_row (w.alloc (.cells #[.slice x.vp.A x.vp.n x.vp.c, .string x.k.nm, .string x.k.sup, .bool x.k.inf, .slice x.vi.A x.vi.n x.vi.c, .slice x.vf.A x.vf.n x.vf.c, .slice x.vm.A x.vm.n x.vm.c] 36)) w.heap.size 3 _ _ (0, 0) hh]; rfl
    have y4 : (w.alloc (.cells #[.slice x.vp.A x.vp.n x.vp.c, .string x.k.nm, .string x.k.sup, .bool x.k.inf, .slice x.vi.A x.vi.n x.vi.c, .slice x.vf.A x.vf.n x.vf.c, .slice x.vm.A x.vm.n x.vm.c] 36)).cell? ⟨w.heap.size, 4, none⟩ = some (.slice x.vi.A x.vi.n x.vi.c) := by rw [cell_of_row (w.alloc (.cells #[.slice x.vp.A x.vp.n x.vp.c, .string x.k.nm, .string x.k.sup, .bool x.k.inf, .slice x.vi.A x.vi.n x.vi.c, .slice x.vf.A x.vf.n x.vf.c, .slice x.vm.A x.vm.n x.vm.c] 36)) w.heap.size 4 _ _ (0, 0) hh]; rfl
    have y5 : (w.alloc (.cells #[.slice x.vp.A x.vp.n x.vp.c, .string x.k.nm, .string x.k.sup, .bool x.k.inf, .slice x.vi.A x.vi.n x.vi.c, .slice x.vf.A x.vf.n x.vf.c, .slice x.vm.A x.vm.n x.vm.c] 36)).cell? ⟨w.heap.size, 5, none⟩ = some (.slice x.vf.A x.vf.n x.vf.c) := by rw [cell_of_row (w.alloc (.cells #[.slice x.vp.A x.vp.n x.vp.c, .string x.k.nm, .string x.k.sup, .bool x.k.inf, .slice x.vi.A x.vi.n x.vi.c, .slice x.vf.A x.vf.n x.vf.c, .slice x.vm.A x.vm.n x.vm.c] 36)) w.heap.size 5 _ _ (0, 0) hh]; rfl
    have y6 : (w.alloc (.cells #[.slice x.vp.A x.vp.n x.vp.c, .string x.k.nm, .string x.k.sup, .bool x.k.inf, .slice x.vi.A x.vi.n x.vi.c, .slice x.vf.A x.vf.n x.vf.c, .slice x.vm.A x.vm.n x.vm.c] 36)).cell? ⟨w.heap.size, 6, none⟩ = some (.slice x.vm.A x.vm.n x.vm.c) := by rw [cell_of_row (w.alloc (.cells #[.slice x.vp.A x.vp.n x.vp.c, .string x.k.nm, .string x.k.sup, .bool x.k.inf, .slice x.vi.A x.vi.n x.vi.c, .slice x.vf.A x.vf.n x.vf.c, .slice x.vm.A x.vm.n x.vm.c] 36)) w.heap.size 6 _ _ (0, 0) hh]; rfl
    refine bodyPost_ret (v := .tuple #[.agg #[.slice x.vp.A x.vp.n x.vp.c, .string x.k.nm, .string x.k.sup, .bool x.k.inf, .slice x.vi.A x.vi.n x.vi.c, .slice x.vf.A x.vf.n x.vf.c, .slice x.vm.A x.vm.n x.vm.c], .bool true]) (by simp [results, Tryd.results19, go_sem, y0, y1, y2, y3, y4, y5, y6]; try rfl) rfl ?_
    exact ⟨⟨_, _, _, _, _, _, _, _, _, _, _, _, _, rfl⟩, (Ext.refl w).alloc _⟩
  · have hcz := clsZ_low (N := builtZ ++ r) hi
    unfold ClsAns
    rw [cnm_no hcz, csp_no hcz, hcz]
    clear h HH hcz
    go_enter Tryd.func19, Tryd.ntmps19
    go_wp2
    have hh := heap_alloc_new w (.cells #[.slice none 0 0, .string ⟨#[]⟩, .string ⟨#[]⟩, .bool false, .slice none 0 0, .slice none 0 0, .slice none 0 0] 36)
    have y0 : (w.alloc (.cells #[.slice none 0 0, .string ⟨#[]⟩, .string ⟨#[]⟩, .bool false, .slice none 0 0, .slice none 0 0, .slice none 0 0] 36)).cell? ⟨w.heap.size, 0, none⟩ = some (.slice none 0 0) := by rw [cell_of_row (w.alloc (.cells #[.slice none 0 0, .string ⟨#[]⟩, .string ⟨#[]⟩, .bool false, .slice none 0 0, .slice none 0 0, .slice none 0 0] 36)) w.heap.size 0 _ _ (0, 0) hh]; rfl
    have y1 : (w.alloc (.cells #[.slice none 0 0, .string ⟨#[]⟩, .string ⟨#[]⟩, .bool false, .slice none 0 0, .slice none 0 0, .slice none 0 0] 36)).cell? ⟨w.heap.size, 1, none⟩ = some (.string ⟨#[]⟩) := by rw [cell_of_row (w.alloc (.cells #[.slice none 0 0, .string ⟨#[]⟩, .string ⟨#[]⟩, .bool false, .slice none 0 0, .slice none 0 0, .slice none 0 0] 36)) w.heap.size 1 _ _ (0, 0) hh]; rfl
    have y2 : (w.alloc (.cells #[.slice none 0 0, .string ⟨#[]⟩, .string ⟨#[]⟩, .bool false, .slice none 0 0, .slice none 0 0, .slice none 0 0] 36)).cell? ⟨w.heap.size, 2, none⟩ = some (.string ⟨#[]⟩) := by rw [cell_of_row (w.alloc (.cells #[.slice none 0 0, .string ⟨#[]⟩, .string ⟨#[]⟩, .bool false, .slice none 0 0, .slice none 0 0, .slice none 0 0] 36)) w.heap.size 2 _ _ (0, 0) hh]; rfl
    have y3 : (w.alloc (.cells #[.slice none 0 0, .string ⟨#[]⟩, .string ⟨#[]⟩, .bool false, .slice none 0 0, .slice none 0 0, .slice none 0 0] 36)).cell? ⟨w.heap.size, 3, none⟩ = some (.bool false) := by rw [cell_of_row (w.alloc (.cells #[.slice none 0 0, .string ⟨#[]⟩, .string ⟨#[]⟩, .bool false, .slice none 0 0, .slice none 0 0, .slice none 0 0] 36)) w.heap.size 3 _ _ (0, 0) hh]; rfl
    have y4 : (w.alloc (.cells #[.slice none 0 0, .string ⟨#[]⟩, .string ⟨#[]⟩, .bool false, .slice none 0 0, .slice none 0 0, .slice none 0 0] 36)).cell? ⟨w.heap.size, 4, none⟩ = some (.slice none 0 0) := by rw [cell_of_row (w.alloc (.cells #[.slice none 0 0, .string ⟨#[]⟩, .string ⟨#[]⟩, .bool false, .slice none 0 0, .slice none 0 0, .slice none 0 0] 36)) w.heap.size 4 _ _ (0, 0) hh]; rfl
    have y5 : (w.alloc (.cells #[.slice none 0 0, .string ⟨#[]⟩, .string ⟨#[]⟩, .bool false, .slice none 0 0, .slice none 0 0, .slice none 0 0] 36)).cell? ⟨w.heap.size, 5, none⟩ = some (.slice none 0 0) := by rw [cell_of_row (w.alloc (.cells #[.slice none 0 0, .string ⟨#[]⟩, .string ⟨#[]⟩, .bool false, .slice none 0 0, .slice none 0 0, .slice none 0 0] 36)) w.heap.size 5 _ _ (0, 0) hh]; rfl
    have y6 : (w.alloc (.cells #[.slice none 0 0, .string ⟨#[]⟩, .string ⟨#[]⟩, .bool false, .slice none 0 0, .slice none 0 0, .slice none 0 0] 36)).cell? ⟨w.heap.size, 6, none⟩ = some (.slice none 0 0) := by rw [cell_of_row (w.alloc (.cells #[.slice none 0 0, .string ⟨#[]⟩, .string ⟨#[]⟩, .bool false, .slice none 0 0, .slice none 0 0, .slice none 0 0] 36)) w.heap.size 6 _ _ (0, 0) hh]; rfl
    refine bodyPost_ret (v := .tuple #[.agg #[.slice none 0 0, .string ⟨#[]⟩, .string ⟨#[]⟩, .bool false, .slice none 0 0, .slice none 0 0, .slice none 0 0], .bool false]) (by simp [results, Tryd.results19, go_sem, y0, y1, y2, y3, y4, y5, y6]; try rfl) rfl ?_
    exact ⟨⟨_, _, _, _, _, _, _, _, _, _, _, _, _, rfl⟩, (Ext.refl w).alloc _⟩
  · have hcz := clsZ_out (N := builtZ ++ r) (.inr hi)
    rw [inN_no (.inr hi)] at HH
    unfold ClsAns
    rw [cnm_no hcz, csp_no hcz, hcz]
    have hi0 : ¬ i < 8 := by omega
    clear h hcz hi
    go_enter Tryd.func19, Tryd.ntmps19
    go_wp2_with fail
    refine HH.out.mono ?_
    rintro e y ⟨rfl, hy⟩
    subst hy
    go_wp2
    have hh := heap_alloc_new w (.cells #[.slice none 0 0, .string ⟨#[]⟩, .string ⟨#[]⟩, .bool false, .slice none 0 0, .slice none 0 0, .slice none 0 0] 36)
    have y0 : (w.alloc (.cells #[.slice none 0 0, .string ⟨#[]⟩, .string ⟨#[]⟩, .bool false, .slice none 0 0, .slice none 0 0, .slice none 0 0] 36)).cell? ⟨w.heap.size, 0, none⟩ = some (.slice none 0 0) := by rw [cell_of_row (w.alloc (.cells #[.slice none 0 0, .string ⟨#[]⟩, .string ⟨#[]⟩, .bool false, .slice none 0 0, .slice none 0 0, .slice none 0 0] 36)) w.heap.size 0 _ _ (0, 0) hh]; rfl
    have y1 : (w.alloc (.cells #[.slice none 0 0, .string ⟨#[]⟩, .string ⟨#[]⟩, .bool false, .slice none 0 0, .slice none 0 0, .slice none 0 0] 36)).cell? ⟨w.heap.size, 1, none⟩ = some (.string ⟨#[]⟩) := by rw [cell_of_row (w.alloc (.cells #[.slice none 0 0, .string ⟨#[]⟩, .string ⟨#[]⟩, .bool false, .slice none 0 0, .slice none 0 0, .slice none 0 0] 36)) w.heap.size 1 _ _ (0, 0) hh]; rfl
    have y2 : (w.alloc (.cells #[.slice none 0 0, .string ⟨#[]⟩, .string ⟨#[]⟩, .bool false, .slice none 0 0, .slice none 0 0, .slice none 0 0] 36)).cell? ⟨w.heap.size, 2, none⟩ = some (.string ⟨#[]⟩) := by rw [cell_of_row (w.alloc (.cells #[.slice none 0 0, .string ⟨#[]⟩, .string ⟨#[]⟩, .bool false, .slice none 0 0, .slice none 0 0, .slice none 0 0] 36)) w.heap.size 2 _ _ (0, 0) hh]; rfl
    have y3 : (w.alloc (.cells #[.slice none 0 0, .string ⟨#[]⟩, .string ⟨#[]⟩, .bool false, .slice none 0 0, .slice none 0 0, .slice none 0 0] 36)).cell? ⟨w.heap.size, 3, none⟩ = some (.bool false) := by rw [cell_of_row (w.alloc (.cells #[.slice none 0 0, .string ⟨#[]⟩, .string ⟨#[]⟩, .bool false, .slice none 0 0, .slice none 0 0, .slice none 0 0] 36)) w.heap.size 3 _ _ (0, 0) hh]; rfl
    have y4 : (w.alloc (.cells #[.slice none 0 0, .string ⟨#[]⟩, .string ⟨#[]⟩, .bool false, .slice none 0 0, .slice none 0 0, .slice none 0 0] 36)).cell? ⟨w.heap.size, 4, none⟩ = some (.slice none 0 0) := by rw [cell_of_row (w.alloc (.cells #[.slice none 0 0, .string ⟨#[]⟩, .string ⟨#[]⟩, .bool false, .slice none 0 0, .slice none 0 0, .slice none 0 0] 36)) w.heap.size 4 _ _ (0, 0) hh]; rfl
    have y5 : (w.alloc (.cells #[.slice none 0 0, .string ⟨#[]⟩, .string ⟨#[]⟩, .bool false, .slice none 0 0, .slice none 0 0, .slice none 0 0] 36)).cell? ⟨w.heap.size, 5, none⟩ = some (.slice none 0 0) := by rw [cell_of_row (w.alloc (.cells #[.slice none 0 0, .string ⟨#[]⟩, .string ⟨#[]⟩, .bool false, .slice none 0 0, .slice none 0 0, .slice none 0 0] 36)) w.heap.size 5 _ _ (0, 0) hh]; rfl
    have y6 : (w.alloc (.cells #[.slice none 0 0, .string ⟨#[]⟩, .string ⟨#[]⟩, .bool false, .slice none 0 0, .slice none 0 0, .slice none 0 0] 36)).cell? ⟨w.heap.size, 6, none⟩ = some (.slice none 0 0) := by rw [cell_of_row (w.alloc (.cells #[.slice none 0 0, .string ⟨#[]⟩, .string ⟨#[]⟩, .bool false, .slice none 0 0, .slice none 0 0, .slice none 0 0] 36)) w.heap.size 6 _ _ (0, 0) hh]; rfl
    refine bodyPost_ret (v := .tuple #[.agg #[.slice none 0 0, .string ⟨#[]⟩, .string ⟨#[]⟩, .bool false, .slice none 0 0, .slice none 0 0, .slice none 0 0], .bool false]) (by simp [results, Tryd.results19, go_sem, y0, y1, y2, y3, y4, y5, y6]; try rfl) rfl ?_
    exact ⟨⟨_, _, _, _, _, _, _, _, _, _, _, _, _, rfl⟩, (Ext.refl w).alloc _⟩
end
end Go.Proofs.YtkkfkjjmmdpafaaDoor
namespace Go.Proofs.YtkkfkjjmmdpafaaDoor
open Go.RowKit Go.Maps Go.WideMaps
set_option linter.unusedVariables false
section
variable {B s : Nat} {N : List Kl} {w : World}
theorem SetIs.gr (h : SetIs B s N w) (k : Nat) (hk : k < N.length) : supI N k = supV (grK N) k ∧ ifsI N k = ints ((grK N).ifs k) := by
  obtain ⟨m, g, c, D, ns, h1⟩ := h.get
  obtain ⟨r, hr⟩ := h.bl
  obtain ⟨x, hx, -, h3, h4⟩ := h1.tells k hk
  have h5 := told_gr (r := r) h1.told (h1.kl.trans hr) (by rw [h1.kl]; exact h.flt) k x hx
  rw [h1.kl] at h5
  exact ⟨h3.symm.trans h5.1, h4.symm.trans h5.2⟩
theorem SetIs.short (h : SetIs B s N w) (k : Nat) (hk : k < N.length) : (ifsI N k).length ≤ 1000000 := by
  obtain ⟨m, g, c, D, ns, h1⟩ := h.get
  obtain ⟨r, hr⟩ := h.bl
  obtain ⟨x, hx, -, h3, h4⟩ := h1.tells k hk
  have hf := fltZ_none.1 h.flt
  have := is_short (r := r) h1.told (h1.kl.trans hr) (by rw [h1.kl]; exact h.n72) (fun i h8 hi => by rw [h1.kl] at hi ⊢; exact (hf i h8 hi).2.1) (fun i h8 hi => by rw [h1.kl] at hi ⊢; exact (hf i h8 hi).2.2.2.1) x (List.mem_of_getElem? hx)
  rw [← h4]
  exact this
set_option maxRecDepth 100000 in
theorem ifs_in {m g n c : Nat} {D : DataW Unit} {ns : List Nd} (h : SetNew B s m g n c D N w ns) (h72 : n ≤ 72) (k : Nat) (hk : k < n) (hl : (ifsI N k).length ≤ 1000000) : Calls Tryd.prog 25 #[.pointer (some ⟨s, 0, none⟩), .int .i64 k] w fun e w' => ∃ v', e = .returned v' ∧ Own w.heap.size w' 3 .i64 v' (ifsI N k) ∧ Ext w w' := by
  obtain ⟨x, hx, -, -, h4⟩ := h.tells k hk
  obtain ⟨-, -, -, -, -, -, x8, -, -⟩ := h.set.get.node k x hx
  have hr : Row w .i64 (.slice x.vs.A x.vs.n x.vs.c) (ifsI N k) := by rw [← h4]; exact (h.set.ok x (List.mem_of_getElem? hx)).vs.row
  have HN := Lib.hid (node_in h.set.get k hk h72)
  have HC := Lib.hid (cloneI_any hr (by omega))
  clear h hx h4 hr
  go_enter Tryd.func25, Tryd.ntmps25
  go_wp2_with fail
  refine HN.out.mono ?_
  rintro e w' ⟨rfl, rfl⟩
  go_wp2_with fail
  refine HC.out.mono ?_
  rintro e w5 ⟨v', rfl, ho, x5⟩
  go_wp2
  go_ret
  exact ⟨_, rfl, ho, x5⟩
set_option maxRecDepth 100000 in
theorem ifs_out {m g n c : Nat} {ns : List Nd} (h : SetG s m g n c w ns) (h72 : n ≤ 72) (i : Int) (hi : i < 0 ∨ (n : Int) ≤ i) : Calls Tryd.prog 25 #[.pointer (some ⟨s, 0, none⟩), .int .i64 i] w fun e w' => ∃ v', e = .returned v' ∧ Own w.heap.size w' 3 .i64 v' [] ∧ Ext w w' := by
  have HN := Lib.hid (node_out h h72 i hi)
  have HC := Lib.hid (fun W => cloneI_any (l := []) (Own.nil 0 W 3 .i64).row (by simp))
  clear h hi
  go_enter Tryd.func25, Tryd.ntmps25
  go_wp2_with fail
  refine HN.out.mono ?_
  rintro e w1 ⟨b, rfl, hb, x1⟩
  obtain ⟨c1, c3, c7, c8, c9, c10⟩ := none_cells hb
  have HX := Lib.hid x1
  clear hb x1
  go_wp2_with fail
  refine (HC.out _).mono ?_
  rintro e w5 ⟨v', rfl, ho, x5⟩
  go_wp2
  go_ret
  exact ⟨_, rfl, ho.base HX.out.size, HX.out.trans x5⟩
theorem sIfs (h : SetIs B s N w) (i : Int) : Calls Tryd.prog 25 #[.pointer (some ⟨s, 0, none⟩), .int .i64 i] w fun e w' => ∃ v', e = .returned v' ∧ Own w.heap.size w' 3 .i64 v' (ifsZ N i) ∧ Ext w w' := by
  obtain ⟨m, g, c, D, ns, h1⟩ := h.get
  rcases in_cases N i with ⟨k, rfl, hk⟩ | hi
  · unfold ifsZ
    rw [inN_nat hk]
    exact ifs_in h1 h.n72 k hk (h.short k hk)
  · unfold ifsZ
    rw [inN_no hi]
    exact ifs_out h1.set.get h.n72 i hi
def upsI (N : List Kl) (k : Nat) : List Int := ifsI N k ++ (if 0 ≤ supI N k then [supI N k] else [])
theorem SetIs.ups_mem (h : SetIs B s N w) (k : Nat) (hk : k < N.length) (u : Int) : u ∈ upsI N k ↔ ∃ j : Nat, u = j ∧ j ∈ (grK N).ups k := by
  obtain ⟨h1, h2⟩ := h.gr k hk
  unfold upsI Gr.ups
  rw [h1, h2, List.mem_append]
  unfold supV ints
  constructor
  · rintro (hu | hu)
    · obtain ⟨j, hj, rfl⟩ := List.mem_map.1 hu
      exact ⟨j, rfl, List.mem_append.2 (.inr hj)⟩
    · cases hs : (grK N).sup k with
      | none => rw [hs] at hu; simp at hu
      | some j =>
        rw [hs] at hu
        simp at hu
        exact ⟨j, hu, List.mem_append.2 (.inl (by simp))⟩
  · rintro ⟨j, rfl, hj⟩
    rcases List.mem_append.1 hj with hj | hj
    · right
      have hs : (grK N).sup k = some j := by simpa using hj
      rw [hs]
      simp
    · exact .inl (List.mem_map.2 ⟨j, hj, rfl⟩)
theorem SetIs.step (h : SetIs B s N w) (k : Nat) (hk : k < N.length) (y : Nat) : belowZ N k y = (decide (k = y) || decide (y = 0) || (upsI N k).any (fun u => belowZ N u y)) := by
  rw [Bool.eq_iff_iff, below_iff hk y, h.ok.ab_step hk]
  simp only [Bool.or_eq_true, decide_eq_true_eq, List.any_eq_true]
  constructor
  · rintro (e | e | ⟨u, hu, h1⟩)
    · exact .inl (.inl e)
    · exact .inl (.inr e)
    · exact .inr ⟨u, (h.ups_mem k hk u).2 ⟨u, rfl, hu⟩, (below_iff (h.ok.in_ _ _ hu) y).2 h1⟩
  · rintro ((e | e) | ⟨u, hu, h1⟩)
    · exact .inl e
    · exact .inr (.inl e)
    · obtain ⟨j, rfl, hj⟩ := (h.ups_mem k hk u).1 hu
      exact .inr (.inr ⟨j, hj, (below_iff (h.ok.in_ _ _ hj) y).1 h1⟩)
end
end Go.Proofs.YtkkfkjjmmdpafaaDoor
namespace Go.Proofs.YtkkfkjjmmdpafaaDoor
open Go.RowKit
set_option linter.unusedVariables false

section
variable {s g n c : Nat} {r : List Kl} {L : List KlV} {w w' : World}
set_option maxRecDepth 100000 in
set_option maxHeartbeats 4000000 in
theorem rifs_in (h : RfG s g n c r L w) (i : Nat) (hi : i < n) : Calls Tryd.prog 26 #[.pointer (some ⟨s, 0, none⟩), .int .i64 i] w fun e w' => ∃ v', e = .returned v' ∧ Own w.heap.size w' 3 .i64 v' (ifsI (builtZ ++ r) i) ∧ Ext w w' := by
  have hh := rHas h i
  rw [inN_nat (by rw [h.lenN]; exact hi)] at hh
  have HHH := Lib.hid hh
  clear hh
  obtain ⟨x, hx, hxk, hat⟩ := h.at i hi
  have hn72 := h.n72
  have hin : (i : Int) < (n : Int) := by omega
  have hi0 : ¬ (i : Int) < 0 := by omega
  have hNl : (builtZ ++ r).length ≤ 72 := by rw [h.lenN]; exact hn72
  have hk := h.szs x (List.mem_of_getElem? hx)
  have hifs : ifsI (builtZ ++ r) i = x.k.ifs.map (findZ (builtZ ++ r)) := by unfold ifsI; rw [hxk, ifsR]
  obtain ⟨q, hq⟩ : ∃ q, x.k.ifs.length = q := ⟨_, rfl⟩
  have hvn : x.vi.n = q := by
    obtain ⟨A9, c9, e9, -⟩ := (hat w (Ext.refl w)).2.cut
    injection e9 with _ e9 _
    rw [← hq]; exact e9
  have hqb : q * 16 ≤ 140737488351232 := by rw [← hq]; exact hk.len
  have HAT : Hid (∀ W, Ext w W → W.cell? ⟨s, 0, none⟩ = some (.slice (some ⟨g, 0, none⟩) n c) ∧ W.cell? ⟨g, i * 7 + 2, none⟩ = some (.string x.k.sup) ∧ W.cell? ⟨g, i * 7 + 4, none⟩ = some (.slice x.vi.A q x.vi.c)) := Lib.hid fun W e => by
    obtain ⟨h0, -, h2, -, h4, -⟩ := (hat W e).1
    exact ⟨(h.ext e).c0, h2, by rw [h4, hvn]⟩
  have HNE : Hid (∀ W, Ext w W → ShS.Row W (.slice x.vi.A q x.vi.c) x.k.ifs) := Lib.hid fun W e => by
    have := (hat W e).2
    unfold NestK Sl.v at this
    rw [hvn] at this
    exact this
  have HFD := Lib.hid (fun nm W (e : Ext w W) => (h.ext e).find nm)
  have HWF := Lib.hid (fun nm => wf_find hNl nm)
  have HQ := Lib.hid hq
  have HIF := Lib.hid hifs
  obtain ⟨iA, hiA⟩ : ∃ iA, x.vi.A = iA := ⟨_, rfl⟩
  obtain ⟨ic, hic⟩ : ∃ ic, x.vi.c = ic := ⟨_, rfl⟩
  rw [hiA, hic] at HAT HNE
  clear h hx hxk hat hk hifs hq hvn hiA hic hNl
  go_enter Tryd.func26, Tryd.ntmps26
  go_wp2_with fail
  refine HHH.out.mono ?_
  rintro e y ⟨rfl, hy⟩
  have hy := hy.symm
  subst hy
  go_wp2_with fail
  go_loopw [5, 6] (fun ov iv wr => ∃ (k : Nat) (A' : Option Addr) (c' : Nat), iv = .int .i64 k ∧ k ≤ q ∧ ov = .slice A' k c' ∧ Hid (Own w.heap.size wr 3 .i64 (.slice A' k c') ((x.k.ifs.map (findZ (builtZ ++ r))).take k)) ∧ Hid (Ext w wr)) (fun _ iv _ => q - (intOf iv).toNat)
  case atStart => exact ⟨0, none, 0, rfl, by omega, by first | rfl | (simp), Lib.hid (by simpa using Own.nil _ _ _ _), Lib.hid (Ext.refl w)⟩
  case round =>
    obtain ⟨k, A', c', rfl, hkq, rfl, HO, HX⟩ := hrel
    rename World => wr
    by_cases hlt : k < q
    · have hltz : (k : Int) < (q : Int) := by omega
      have hkl : k < x.k.ifs.length := by have := HQ.out; omega
      obtain ⟨bs, os, hA, hat⟩ := rowS_at (HNE.out w (Ext.refl w)) (by have := HQ.out; omega)
      subst hA
      obtain ⟨y, hy⟩ : ∃ y, x.k.ifs[k]? = some y := ⟨x.k.ifs[k], List.getElem?_eq_getElem hkl⟩
      have hgs : gs x.k.ifs k = y := by unfold gs; rw [ShS.el_get hkl]; exact (List.getElem?_eq_some_iff.1 hy).2
      have HTK : Hid ((x.k.ifs.map (findZ (builtZ ++ r))).take (k + 1) = ((x.k.ifs.map (findZ (builtZ ++ r))).take k) ++ [findZ (builtZ ++ r) y]) := Lib.hid (by
        have : (x.k.ifs.map (findZ (builtZ ++ r)))[k]? = some (findZ (builtZ ++ r) y) := by rw [List.getElem?_map, hy]; rfl
        rw [List.take_add_one, this]; simp)
      have hwf := HWF.out y
      have hfd := HFD.out y
      obtain ⟨f, hf⟩ : ∃ f, findZ (builtZ ++ r) y = f := ⟨_, rfl⟩
      rw [hf] at HTK hwf hfd
      have HF2 := Lib.hid hfd
      have e1 := (Ext.refl wr).drew
      have e2 := (Ext.refl wr).alloc (.cells #[.int .i64 f] 3)
      have HE1 := HX.out.trans e1
      obtain ⟨r0, -, r4⟩ := HAT.out wr HX.out
      obtain ⟨a0, -, a4⟩ := HAT.out wr.drew (HX.out.trans e1)
      obtain ⟨d0, -, d4⟩ := HAT.out _ (HX.out.trans e2)
      have a5 := hat wr.drew (HX.out.trans e1) k hkl
      have d5 := hat _ (HX.out.trans e2) k hkl
      rw [hgs] at a5 d5
      have HLEN : Hid (((x.k.ifs.map (findZ (builtZ ++ r))).take k).length = k) := Lib.hid (by simp only [List.length_take, List.length_map, HQ.out]; omega)
      have HRF : Hid (Row (wr.alloc (.cells #[.int .i64 f] 3)).drew .i64 (.slice (some ⟨wr.heap.size, 0, none⟩) 1 1) [f]) := Lib.hid ((own_built1 (B := 0) wr 3 .i64 f hwf (Nat.zero_le _)).ext (Ext.refl _).drew).row
      have HO2 := Lib.hid (HO.out.ext e2.drew)
      have HWS : Hid (w.heap.size ≤ (wr.alloc (.cells #[.int .i64 f] 3)).drew.heap.size) := Lib.hid (HX.out.trans e2.drew).size
      have HBD : Hid ((((x.k.ifs.map (findZ (builtZ ++ r))).take k).length + [f].length) * 8 ≤ 140737488355328) := Lib.hid (by rw [HLEN.out, List.length_singleton]; omega)
      clear hkl hat hy hgs hwf hfd hf
      go_wp2_with fail
      go_region_law (first
        | ((refine step_callL rfl 45 _ _ rfl #[.slice (some ⟨g, 0, none⟩) n c, .string y] (by simp [go_sem]) (by simp [go_sem]) ?_); ((with_reducible refine (HF2.out _ HE1).mono ?_); rintro e y1 ⟨rfl, rfl⟩); refine ⟨_, rfl, ?_⟩)
        | ((refine step_appI rfl _ _ w.heap.size 48 3 _ 8 .i64 rfl Tryd.underlying48 infoI rfl (by omega) (.slice A' k c') ((x.k.ifs.map (findZ (builtZ ++ r))).take k) rfl HO2.out (.slice (some ⟨wr.heap.size, 0, none⟩) 1 1) [f] rfl HRF.out HBD.out HWS.out ?_); intro v5 w5 o5 g5 b5; obtain ⟨A5, c5, e5, hc5, hm5, -⟩ := id o5.row; rw [List.length_append, HLEN.out, List.length_singleton] at e5; rw [← HTK.out] at o5; subst e5; have O5 := Lib.hid o5; have X5 := Lib.hid ((HX.out.trans e2.drew).grown g5 HO2.out.low); clear o5 g5 b5)
        | fail)
      all_goals
        go_wp2_with fail
        go_roundw
        case rel => exact ⟨k + 1, A5, c5, by go_num, by omega, rfl, O5, X5⟩
        case measure => first | (simp [intOf]; omega) | simp [intOf]
    · have hltz : ¬ (k : Int) < (q : Int) := by omega
      have hkk : k = q := by omega
      subst hkk
      obtain ⟨r0, -, r4⟩ := HAT.out wr HX.out
      have HFN : Hid (Own w.heap.size wr 3 .i64 (.slice A' k c') (ifsI (builtZ ++ r) i)) := Lib.hid (by
        have h := HO.out
        rw [List.take_of_length_le (by rw [List.length_map, HQ.out]; exact Nat.le_refl _)] at h
        rw [HIF.out]; exact h)
      go_wp2
      go_ret
      exact ⟨_, rfl, HFN.out, HX.out⟩
set_option maxHeartbeats 400000 in
theorem rIfs (h : RfG s g n c r L w) (i : Int) : Calls Tryd.prog 26 #[.pointer (some ⟨s, 0, none⟩), .int .i64 i] w fun e w' => ∃ v', e = .returned v' ∧ Own w.heap.size w' 3 .i64 v' (ifsZ (builtZ ++ r) i) ∧ Ext w w' := by
  unfold ifsZ
  have hh := rHas h i
  rcases in_cases (builtZ ++ r) i with ⟨k, rfl, hk⟩ | hi
  · rw [inN_nat hk, if_pos rfl, Int.toNat_natCast]
    exact rifs_in h k (by rw [← h.lenN]; exact hk)
  · rw [inN_no hi] at hh ⊢
    rw [if_neg (by simp)]
    have HHH := Lib.hid hh
    clear h hh hi
    go_enter Tryd.func26, Tryd.ntmps26
    go_wp2_with fail
    refine HHH.out.mono ?_
    rintro e y ⟨rfl, rfl⟩
    go_wp2
    go_ret
    exact ⟨_, rfl, Own.nil _ _ _ _, Ext.refl _⟩
end
end Go.Proofs.YtkkfkjjmmdpafaaDoor
