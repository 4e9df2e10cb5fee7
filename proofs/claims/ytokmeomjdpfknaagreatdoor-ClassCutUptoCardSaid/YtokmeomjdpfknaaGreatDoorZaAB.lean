/- Several texts of this proof, one behind the other. -/
import Derived.Test.YtokmeomjdpfknaaGreatDoorZaAA
import Derived.LoopN
import Derived.Test.YtokmeomjdpfknaaGreatDoorZaH
import Derived.Test.YtokmeomjdpfknaaGreatDoorZaN
import Derived.BigQuiet
import Derived.Deep.QuietTactic
import Derived.Deep.RegionHeld3
import Derived.Deep.RegionLaw
import Derived.Deep.CutRange
import Derived.Deep.CutBlock
import Derived.Test.YtokmeomjdpfknaaGreatDoorZaG
import Derived.Test.YtokmeomjdpfknaaGreatDoorZaJ
import Derived.Test.YtokmeomjdpfknaaGreatDoorZaF
/- The project's astray: the function literals that look through instructions, and where they go. -/
namespace Go.Proofs.YtokmeomjdpfknaaGreatDoor
open Go.RowKit
set_option linter.unusedVariables false

def idxP {α : Type} (p : α → Bool) : List α → Nat → Int
  | [], _ => -1
  | x :: l, i => if p x = true then (i : Int) else idxP p l (i + 1)
theorem idxP_next {α : Type} {p : α → Bool} {l : List α} {k : Nat} {x : α} (h : l[k]? = some x) (hp : p x = false) : idxP p (l.drop k) k = idxP p (l.drop (k + 1)) (k + 1) := by
  obtain ⟨hk, rfl⟩ := List.getElem?_eq_some_iff.1 h
  rw [List.drop_eq_getElem_cons hk, idxP, if_neg (by simp [hp])]
theorem idxP_here {α : Type} {p : α → Bool} {l : List α} {k : Nat} {x : α} (h : l[k]? = some x) (hp : p x = true) : idxP p (l.drop k) k = k := by
  obtain ⟨hk, rfl⟩ := List.getElem?_eq_some_iff.1 h
  rw [List.drop_eq_getElem_cons hk, idxP, if_pos hp]
theorem idxP_any {α : Type} {p : α → Bool} : ∀ {l : List α} {k : Nat}, decide (0 ≤ idxP p l k) = l.any p := by
  intro l
  induction l with
  | nil => intro k; rfl
  | cons x l ih =>
    intro k
    unfold idxP
    rw [List.any_cons]
    split
    · rename_i h
      rw [h]
      simp
    · rename_i h
      rw [ih]
      simp [h]
theorem gi_get {l : List Int} {k : Nat} (h : k < l.length) : l[k]? = some (gi l k) := by simp [gi, h]
def FB (w : World) (f g : Nat) : Prop := w.heap[f]? = some (.cells #[.func (.func 239) #[] #[.pointer (some ⟨g, 0, none⟩)]] 210 (0, 0))
theorem FB.ext {w w' : World} {f g : Nat} (h : FB w f g) (e : Ext w w') : FB w' f g := (e.block f (lt_of_get h)).trans h
theorem FB.cell {w : World} {f g : Nat} (h : FB w f g) : w.cell? ⟨f, 0, none⟩ = some (.func (.func 239) #[] #[.pointer (some ⟨g, 0, none⟩)]) := by
  rw [cell_of_row w f 0 _ _ (0, 0) h]
  rfl
set_option maxRecDepth 100000 in
theorem bad_any (t : Int) (f g : Nat) (l : List In) (w : World) (hf : FB w f g) (h : BG w g l) (ha : Within l) :
    Calls Tryz.prog 237 #[.int .i64 t, .pointer (some ⟨f, 0, none⟩)] w fun e w' => e = .returned (.bool (!hasAt l t)) ∧ w = w' := by
  have c0 := hf.cell
  have HB := Lib.hid (begins_any t g l w h ha)
  clear hf h ha
  go_enter Tryz.func237, Tryz.ntmps237
  go_wp2_with fail
  refine HB.out.mono ?_
  rintro e w1 ⟨rfl, rfl⟩
  go_wp2
  go_ret
  exact ⟨rfl, rfl⟩
set_option maxRecDepth 100000 in
set_option maxHeartbeats 4000000 in
theorem indexInts_any (v : Value) (s : List Int) (f g : Nat) (l : List In) (w : World) (h : Row w .i64 v s) (hf : FB w f g) (hg : BG w g l) (ha : Within l) :
    Calls Tryz.prog 259 #[v, .func (.func 237) #[] #[.pointer (some ⟨f, 0, none⟩)]] w fun e w' => e = .returned (.int .i64 (idxP (fun t => !hasAt l t) s 0)) ∧ w = w' := by
  have H := Lib.hid h
  obtain ⟨A, c, rfl, hc, hm, -, -, hcell⟩ := h
  unfold maxLen at hm
  obtain ⟨n, hn⟩ : ∃ n, n = s.length := ⟨_, rfl⟩
  rw [← hn] at hc H hcell ⊢
  have Hn := Lib.hid hn
  have HB := Lib.hid (fun t => bad_any t f g l w hf hg ha)
  obtain ⟨R, hR⟩ : ∃ R, idxP (fun t => !hasAt l t) s 0 = R := ⟨_, rfl⟩
  have HR := Lib.hid hR
  rw [hR]
  clear hn hf hg ha hR
  go_enter Tryz.func259, Tryz.ntmps259
  go_wp2
  go_loopw [8] (fun i wr => ∃ (k : Nat), i = .int .i64 k ∧ k ≤ n ∧ Hid (R = idxP (fun t => !hasAt l t) (s.drop k) k) ∧ w = wr) (fun i _ => n - (intOf i).toNat)
  case atStart => exact ⟨0, rfl, by omega, Lib.hid HR.out.symm, rfl⟩
  case round =>
    obtain ⟨k, rfl, hk, HP, rfl⟩ := hrel
    by_cases hlt : k < n
    · obtain ⟨b, o, rfl, hb, hx⟩ := hcell (by omega)
      have y0 := hx k hlt
      have hget := gi_get (l := s) (k := k) (by have := Hn.out; omega)
      obtain ⟨t, ht⟩ : ∃ t, gi s k = t := ⟨_, rfl⟩
      rw [ht] at y0 hget
      have hbt := HB.out t
      by_cases he : hasAt l t = true
      · rw [he, Bool.not_true] at hbt
        have HT := Lib.hid hbt
        have HE := Lib.hid (HP.out.trans (idxP_next hget (by simp [he])))
        clear hx hcell ht hget he hbt
        go_wp2_with fail
        refine HT.out.mono ?_
        rintro e w1 ⟨rfl, rfl⟩
        go_wp2_with fail
        go_roundw
        case rel => exact ⟨k + 1, by go_num, by omega, HE, trivial⟩
        case measure => simp [intOf]; omega
      · have he : hasAt l t = false := by simpa using he
        rw [he, Bool.not_false] at hbt
        have HT := Lib.hid hbt
        have HE := Lib.hid (HP.out.trans (idxP_here hget (by simp [he])))
        clear hx hcell ht hget he hbt
        go_wp2_with fail
        refine HT.out.mono ?_
        rintro e w1 ⟨rfl, rfl⟩
        go_wp2
        go_ret
        exact ⟨by rw [HE.out]; rfl, rfl⟩
    · have HE := Lib.hid (show R = -1 by rw [HP.out, List.drop_of_length_le (by have := Hn.out; omega)]; rfl)
      go_wp2
      go_ret
      exact ⟨by rw [HE.out]; rfl, rfl⟩
set_option maxRecDepth 100000 in
theorem containsInts_any (v : Value) (s : List Int) (f g : Nat) (l : List In) (w : World) (h : Row w .i64 v s) (hf : FB w f g) (hg : BG w g l) (ha : Within l) :
    Calls Tryz.prog 236 #[v, .func (.func 237) #[] #[.pointer (some ⟨f, 0, none⟩)]] w fun e w' => e = .returned (.bool (s.any fun t => !hasAt l t)) ∧ w = w' := by
  have HI := Lib.hid (indexInts_any v s f g l w h hf hg ha)
  rw [← idxP_any (p := fun t => !hasAt l t) (l := s) (k := 0)]
  obtain ⟨A, c, rfl, -⟩ := h
  obtain ⟨R, hR⟩ : ∃ R, idxP (fun t => !hasAt l t) s 0 = R := ⟨_, rfl⟩
  rw [hR] at HI ⊢
  clear hf hg ha hR
  go_enter Tryz.func236, Tryz.ntmps236
  go_wp2_with fail
  refine HI.out.mono ?_
  rintro e w1 ⟨rfl, rfl⟩
  go_wp2
  go_ret
  exact ⟨rfl, rfl⟩
theorem any_not {s : List Int} {p : Int → Bool} : (!s.any fun t => !p t) = s.all p := by
  induction s with
  | nil => rfl
  | cons x s ih => rw [List.any_cons, List.all_cons, ← ih]; cases p x <;> simp
set_option maxRecDepth 100000 in
set_option maxHeartbeats 4000000 in
theorem astray1_any (x : In) (v1 v2 : Value) (f g : Nat) (l : List In) (w : World) (h1 : Row w .i64 v1 x.to) (h2 : Row w .i64 v2 x.ks) (hf : FB w f g) (hg : BG w g l) (ha : Within l) :
    Calls Tryz.prog 235 #[.agg (x.vals v1 v2), .pointer (some ⟨f, 0, none⟩)] w fun e w' => e = .returned (.bool (good l x)) ∧ Ext w w' := by
  obtain ⟨A1, k1, rfl, -⟩ := id h1
  obtain ⟨A2, k2, rfl, -⟩ := id h2
  have HI := Lib.hid (fun W (e : Ext w W) => containsInts_any _ x.to f g l W (h1.ext e) (hf.ext e) (hg.ext e) ha)
  obtain ⟨d0, d1, d2, d3, d4, d5⟩ := boxed (w := w) (x := x) (v1 := .slice A1 x.to.length k1) (v2 := .slice A2 x.ks.length k2) (Ext.refl _)
  unfold In.vals at d0 d1 d2 d3 d4 d5 ⊢
  unfold good
  rw [← any_not]
  obtain ⟨r, hr⟩ : ∃ r, (x.to.any fun t => !hasAt l t) = r := ⟨_, rfl⟩
  rw [hr] at HI ⊢
  clear hr h1 h2 hf hg ha
  go_enter Tryz.func235, Tryz.ntmps235
  go_wp2_with fail
  refine (HI.out _ ((Ext.refl w).alloc _)).mono ?_
  rintro e w1 ⟨rfl, rfl⟩
  go_wp2
  go_ret
  exact ⟨rfl, (Ext.refl w).alloc _⟩
set_option maxRecDepth 100000 in
set_option maxHeartbeats 4000000 in
theorem firstBut_any (fid : FuncId) (caps : Array Value) (p : In → Bool) (v : Value) (l : List In) (w : World) (h : RowI w v l)
    (hc : ∀ args W, (callFunc fid args).run Tryz.prog W = .ok (.enter fid args) W)
    (hp : ∀ W, Ext w W → ∀ x ∈ l, ∀ v1 v2, Row W .i64 v1 x.to → Row W .i64 v2 x.ks → Calls Tryz.prog fid (#[.agg (x.vals v1 v2)] ++ caps) W fun e w' => e = .returned (.bool (p x)) ∧ Ext W w') :
    Calls Tryz.prog 202 #[v, .func (.func fid) #[] caps] w fun e w' => e = .returned (.tuple #[.int .i64 (firstNot p l).1, .bool (firstNot p l).2]) ∧ Ext w w' := by
  have H := Lib.hid h
  obtain ⟨A, c, rfl, hc0, hm, -⟩ := h.cut
  unfold maxLen at hm
  obtain ⟨n, hn⟩ : ∃ n, n = l.length := ⟨_, rfl⟩
  rw [← hn] at hc0 H ⊢
  have Hn := Lib.hid hn
  have HP := Lib.hid hp
  obtain ⟨F, hF⟩ : ∃ F, firstNot p l = F := ⟨_, rfl⟩
  have HF := Lib.hid hF
  rw [hF]
  clear hn h hp hF
  go_enter Tryz.func202, Tryz.ntmps202
  go_wp2
  go_loopw [10] (fun i wr => ∃ (k : Nat), i = .int .i64 k ∧ k ≤ n ∧ Hid (F = firstNot p (l.drop k)) ∧ Hid (Ext w wr)) (fun i _ => n - (intOf i).toNat)
  case atStart => exact ⟨0, rfl, by omega, Lib.hid HF.out.symm, Lib.hid (Ext.refl w)⟩
  case round =>
    obtain ⟨k, rfl, hk, HQ, HX⟩ := hrel
    by_cases hlt : k < n
    · have hkl : k < l.length := by have := Hn.out; omega
      obtain ⟨b, o, rfl, hat⟩ := H.out.at (by omega)
      obtain ⟨v1, v2, hat⟩ := hat k hkl
      have hr1 := (hat _ HX.out).2.1
      have hr2 := (hat _ HX.out).2.2
      obtain ⟨A1, c1, rfl, -⟩ := id hr1
      obtain ⟨A2, c2, rfl, -⟩ := id hr2
      obtain ⟨y0, y1, y2, y3, y4, y5⟩ := (hat _ HX.out).1
      have HC := Lib.hid (fun W (e : Ext wr W) => HP.out W (HX.out.trans e) _ (gn_mem hkl) _ _ (hr1.ext e) (hr2.ext e))
      have hN : p (gn l k) = true → F = firstNot p (l.drop (k + 1)) := fun e => HQ.out.trans (firstNot_next hkl e)
      have hH : p (gn l k) = false → F = ((gn l k).a, true) := fun e => HQ.out.trans (firstNot_here hkl e)
      obtain ⟨x, hx⟩ : ∃ x, gn l k = x := ⟨_, rfl⟩
      rw [hx] at y0 y1 y2 y3 y4 y5 HC hN hH
      have HB := Lib.hid (fun W e => boxed (w := wr) (W := W) (x := x) (v1 := .slice A1 x.to.length c1) (v2 := .slice A2 x.ks.length c2) e)
      obtain ⟨d0, d1, d2, d3, d4, d5⟩ := HB.out _ (Ext.refl _)
      unfold In.vals at HC HB d0 d1 d2 d3 d4 d5
      obtain ⟨r, hr⟩ : ∃ r, p x = r := ⟨_, rfl⟩
      rw [hr] at HC hN hH
      have HN := Lib.hid hN
      have HH := Lib.hid hH
      clear hat hx hkl hr hr1 hr2 hN hH
      go_wp2_with fail
      refine (HC.out _ ((Ext.refl wr).alloc _)).mono ?_
      rintro e w1 ⟨rfl, x1⟩
      have X1 := Lib.hid x1
      clear d0 d1 d2 d3 d4 d5 x1
      obtain ⟨d0, d1, d2, d3, d4, d5⟩ := HB.out _ X1.out
      cases r
      · have HE := Lib.hid (HH.out rfl)
        go_wp2
        go_ret2
        exact ⟨ret_place HE.out.symm, (HX.out.alloc _).trans X1.out⟩
      · have HE := Lib.hid (HN.out rfl)
        go_wp2_with fail
        go_roundw
        case rel => exact ⟨k + 1, by go_num, by omega, HE, Lib.hid ((HX.out.alloc _).trans X1.out)⟩
        case measure => simp [intOf]; omega
    · have HE := Lib.hid (show F = (0, false) by rw [HQ.out, List.drop_of_length_le (by have := Hn.out; omega)]; rfl)
      go_wp2
      go_ret2
      exact ⟨ret_place HE.out.symm, HX.out⟩
end Go.Proofs.YtokmeomjdpfknaaGreatDoor
/- The document's reader at work on an instruction: numbers off its bytes; one state for all blocks. -/
namespace Go.Proofs.YtokmeomjdpfknaaGreatDoor
open Go.RowKit
set_option linter.unusedVariables false

def DR (w : World) (g : Nat) (v : Value) (b : List Int) (q : List Int × Bool) : Prop := ∃ a : Nat, NR w g v a q.2 ∧ a ≤ b.length ∧ b.drop a = q.1
theorem DR.lt {w : World} {g : Nat} {v : Value} {b : List Int} {q : List Int × Bool} (h : DR w g v b q) : g < w.heap.size := by obtain ⟨a, h, -⟩ := h; exact h.lt
theorem DR.ext {w w' : World} {g : Nat} {v : Value} {b : List Int} {q : List Int × Bool} (h : DR w g v b q) (e : Ext w w') : DR w' g v b q := by obtain ⟨a, h, r⟩ := h; exact ⟨a, h.ext e, r⟩
theorem DR.same {w w' : World} {g : Nat} {v : Value} {b : List Int} {q : List Int × Bool} (h : DR w g v b q) (e : w'.heap[g]? = w.heap[g]?) : DR w' g v b q := by obtain ⟨a, h, r⟩ := h; exact ⟨a, e.trans h, r⟩
theorem DR.blk {w : World} {g : Nat} {v : Value} {b : List Int} {q : List Int × Bool} (h : DR w g v b q) : ∃ c, w.heap[g]? = some (.cells c 239 (0, 0)) := by obtain ⟨a, h, -⟩ := h; exact ⟨_, h⟩
def DRet (w : World) (g : Nat) (v : Value) (b : List Int) (r : Int × List Int × Bool) (e : Ending) (w' : World) : Prop := e = .returned (.int .i64 r.1) ∧ DR w' g v b r.2 ∧ w.grownBy w' (some g)
structure DS (w0 w : World) (h g c0 : Nat) (x : In) (v1 v2 v : Value) (b : List Int) (q : List Int × Bool) : Prop where
  xb : XP w h x v1 v2
  o1 : Own w0.heap.size w 3 .i64 v1 x.to
  o2 : Own w0.heap.size w 3 .i64 v2 x.ks
  ne : ∀ b, v1.ownBlock = some b → v2.ownBlock ≠ some b
  dr : DR w g v b q
  ext : Ext w0 w
  hg : w0.heap.size ≤ g
  hh : w0.heap.size ≤ h
  rc : XP w c0 i0 (.slice none 0 0) (.slice none 0 0)
  hc : c0 ≠ h
  hcc : w0.heap.size ≤ c0
section
variable {w0 w w' : World} {h g c0 : Nat} {x : In} {v1 v2 v : Value} {b : List Int} {q : List Int × Bool}
theorem DS.hg_ne (H : DS w0 w h g c0 x v1 v2 v b q) : h ≠ g := by obtain ⟨c, hb⟩ := H.dr.blk; exact blocks_ne H.xb hb (by decide)
theorem DS.cg_ne (H : DS w0 w h g c0 x v1 v2 v b q) : c0 ≠ g := by obtain ⟨c, hb⟩ := H.dr.blk; exact blocks_ne H.rc hb (by decide)
theorem DS.g1 (H : DS w0 w h g c0 x v1 v2 v b q) : v1.ownBlock ≠ some g := by obtain ⟨c, hb⟩ := H.dr.blk; exact own_ne H.o1 hb (by decide)
theorem DS.g2 (H : DS w0 w h g c0 x v1 v2 v b q) : v2.ownBlock ≠ some g := by obtain ⟨c, hb⟩ := H.dr.blk; exact own_ne H.o2 hb (by decide)
theorem DS.le (H : DS w0 w h g c0 x v1 v2 v b q) : w0.heap.size ≤ w.heap.size := H.ext.size
theorem DS.later (H : DS w0 w h g c0 x v1 v2 v b q) (e : Ext w w') : DS w0 w' h g c0 x v1 v2 v b q :=
  ⟨(e.block h (lt_of_get H.xb)).trans H.xb, H.o1.ext e, H.o2.ext e, H.ne, H.dr.ext e, H.ext.trans e, H.hg, H.hh, (e.block c0 (lt_of_get H.rc)).trans H.rc, H.hc, H.hcc⟩
theorem DS.drew (H : DS w0 w h g c0 x v1 v2 v b q) : DS w0 w.drew h g c0 x v1 v2 v b q := H.later (Ext.refl w).drew
theorem DS.alloc (H : DS w0 w h g c0 x v1 v2 v b q) (o : Obj) : DS w0 (w.alloc o) h g c0 x v1 v2 v b q := H.later ((Ext.refl w).alloc o)
theorem DS.read (H : DS w0 w h g c0 x v1 v2 v b q) {rr : Int × List Int × Bool} {e : Ending} (hp : DRet w g v b rr e w') : e = .returned (.int .i64 rr.1) ∧ DS w0 w' h g c0 x v1 v2 v b rr.2 := by
  obtain ⟨rfl, hp, hgr⟩ := hp
  have hs : Ext w0 w' := H.ext.grown hgr (fun g' hg' => by injection hg' with e; subst e; exact H.hg)
  exact ⟨rfl, (hgr.block h (lt_of_get H.xb) (fun e => H.hg_ne (by injection e))).trans H.xb, H.o1.kept hgr (fun b hb e => H.g1 (hb.trans e.symm)), H.o2.kept hgr (fun b hb e => H.g2 (hb.trans e.symm)), H.ne, hp, hs, H.hg, H.hh, (hgr.block c0 (lt_of_get H.rc) (fun e => H.cg_ne (by injection e))).trans H.rc, H.hc, H.hcc⟩
theorem DS.app1 (H : DS w0 w h g c0 x v1 v2 v b q) {u : Value} {l : List Int} (ho : Own w0.heap.size w' 3 .i64 u l) (hgr : w.grownBy w' v1.ownBlock) (hb : u.ownBlock = v1.ownBlock ∨ u.ownBlock = some w.heap.size) :
    DS w0 (w'.setCell ⟨h, 4, none⟩ u) h g c0 ⟨x.a, x.o, x.n, x.m, l, x.ks⟩ u v2 v b q ∧ w'.cell? ⟨h, 4, none⟩ = some v1 ∧ w'.frozen? ⟨h, 4, none⟩ = false := by
  have n1 : v1.ownBlock ≠ some h := own_ne H.o1 H.xb (by decide)
  have n4 : v1.ownBlock ≠ some c0 := own_ne H.o1 H.rc (by decide)
  have rc' := (hgr.block c0 (lt_of_get H.rc) (fun e => n4 e.symm)).trans H.rc
  have xb' : XP w' h x v1 v2 := (hgr.block h (lt_of_get H.xb) (fun e => n1 e.symm)).trans H.xb
  have dr' := H.dr.same (hgr.block g H.dr.lt (fun e => H.g1 e.symm))
  have o2' : Own w0.heap.size w' 3 .i64 v2 x.ks := H.o2.kept hgr (fun b hb e => H.ne b e hb)
  have e' : Ext w0 w' := H.ext.grown hgr H.o1.low
  have hset : ∀ i, i ≠ h → (w'.setCell ⟨h, 4, none⟩ u).heap[i]? = w'.heap[i]? := fun i hi => Below.heap_setCell w' ⟨h, 4, none⟩ u i hi
  have hgrow : w'.grownBy (w'.setCell ⟨h, 4, none⟩ u) (some h) := only_set (World.grownBy.refl w' _) 4 u
  refine ⟨⟨xb'.set4 l u, ho.kept hgrow ?_, o2'.kept hgrow ?_, ?_, dr'.same (hset g (fun e => H.hg_ne e.symm)), e'.set_ H.hh u, H.hg, H.hh, (hset c0 H.hc).trans rc', H.hc, H.hcc⟩, xb'.cells.2.2.2.2.1, xb'.free 4⟩
  · intro b hb e
    injection e with e
    subst e
    exact own_ne ho xb' (by decide) hb
  · intro b hb e
    injection e with e
    subst e
    exact own_ne o2' xb' (by decide) hb
  · intro b hu hv
    rcases hb with hb | hb
    · exact H.ne b (hb ▸ hu) hv
    · rw [hb] at hu
      injection hu with hu
      subst hu
      have := H.o2.high _ hv
      omega
theorem DS.app2 (H : DS w0 w h g c0 x v1 v2 v b q) {u : Value} {l : List Int} (ho : Own w0.heap.size w' 3 .i64 u l) (hgr : w.grownBy w' v2.ownBlock) (hb : u.ownBlock = v2.ownBlock ∨ u.ownBlock = some w.heap.size) :
    DS w0 (w'.setCell ⟨h, 5, none⟩ u) h g c0 ⟨x.a, x.o, x.n, x.m, x.to, l⟩ v1 u v b q ∧ w'.cell? ⟨h, 5, none⟩ = some v2 ∧ w'.frozen? ⟨h, 5, none⟩ = false := by
  have n1 : v2.ownBlock ≠ some h := own_ne H.o2 H.xb (by decide)
  have n4 : v2.ownBlock ≠ some c0 := own_ne H.o2 H.rc (by decide)
  have rc' := (hgr.block c0 (lt_of_get H.rc) (fun e => n4 e.symm)).trans H.rc
  have xb' : XP w' h x v1 v2 := (hgr.block h (lt_of_get H.xb) (fun e => n1 e.symm)).trans H.xb
  have dr' := H.dr.same (hgr.block g H.dr.lt (fun e => H.g2 e.symm))
  have o1' : Own w0.heap.size w' 3 .i64 v1 x.to := H.o1.kept hgr (fun b hb e => H.ne b hb e)
  have e' : Ext w0 w' := H.ext.grown hgr H.o2.low
  have hset : ∀ i, i ≠ h → (w'.setCell ⟨h, 5, none⟩ u).heap[i]? = w'.heap[i]? := fun i hi => Below.heap_setCell w' ⟨h, 5, none⟩ u i hi
  have hgrow : w'.grownBy (w'.setCell ⟨h, 5, none⟩ u) (some h) := only_set (World.grownBy.refl w' _) 5 u
  refine ⟨⟨xb'.set5 l u, o1'.kept hgrow ?_, ho.kept hgrow ?_, ?_, dr'.same (hset g (fun e => H.hg_ne e.symm)), e'.set_ H.hh u, H.hg, H.hh, (hset c0 H.hc).trans rc', H.hc, H.hcc⟩, xb'.cells.2.2.2.2.2, xb'.free 5⟩
  · intro b hb e
    injection e with e
    subst e
    exact own_ne o1' xb' (by decide) hb
  · intro b hb e
    injection e with e
    subst e
    exact own_ne ho xb' (by decide) hb
  · intro b hu hv
    rcases hb with hb | hb
    · exact H.ne b hu (hb ▸ hv)
    · rw [hb] at hv
      injection hv with hv
      subst hv
      have := H.o1.high _ hu
      omega
theorem DS.field (H : DS w0 w h g c0 x v1 v2 v b q) {y : In} {j : Nat} {u : Value} (hx : XP (w.setCell ⟨h, j, none⟩ u) h y v1 v2) (ht : y.to = x.to) (hk : y.ks = x.ks) : DS w0 (w.setCell ⟨h, j, none⟩ u) h g c0 y v1 v2 v b q := by
  have hset : ∀ i, i ≠ h → (w.setCell ⟨h, j, none⟩ u).heap[i]? = w.heap[i]? := fun i hi => Below.heap_setCell w ⟨h, j, none⟩ u i hi
  have hgrow : w.grownBy (w.setCell ⟨h, j, none⟩ u) (some h) := only_set (World.grownBy.refl w _) j u
  have k1 := H.o1.kept hgrow (fun b hb e => by
    injection e with e
    subst e
    exact own_ne H.o1 H.xb (by decide) hb)
  have k2 := H.o2.kept hgrow (fun b hb e => by
    injection e with e
    subst e
    exact own_ne H.o2 H.xb (by decide) hb)
  rw [← ht] at k1
  rw [← hk] at k2
  exact ⟨hx, k1, k2, H.ne, H.dr.same (hset g (fun e => H.hg_ne e.symm)), H.ext.set_ H.hh u, H.hg, H.hh, (hset c0 H.hc).trans H.rc, H.hc, H.hcc⟩
theorem DS.set2 (H : DS w0 w h g c0 x v1 v2 v b q) (n : Int) : DS w0 (w.setCell ⟨h, 2, none⟩ (.int .i64 n)) h g c0 ⟨x.a, x.o, n, x.m, x.to, x.ks⟩ v1 v2 v b q := H.field (H.xb.set2 n) rfl rfl
theorem DS.set3 (H : DS w0 w h g c0 x v1 v2 v b q) (n : Int) : DS w0 (w.setCell ⟨h, 3, none⟩ (.int .i64 n)) h g c0 ⟨x.a, x.o, x.n, n, x.to, x.ks⟩ v1 v2 v b q := H.field (H.xb.set3 n) rfl rfl
end
end Go.Proofs.YtokmeomjdpfknaaGreatDoor
/- The document's Decode, walked. -/
namespace Go.Proofs.YtokmeomjdpfknaaGreatDoor
open Go.RowKit
set_option linter.unusedVariables false

theorem DR.bytes {w : World} {g : Nat} {v : Value} {b : List Int} {q : List Int × Bool} (h : DR w g v b q) (hb : ∀ c ∈ b, B8 c) : ∀ c ∈ q.1, B8 c := by
  obtain ⟨a, -, -, e⟩ := h
  rw [← e]
  exact fun c hc => hb c (List.mem_of_mem_drop hc)
def CT (a : Int) (Y : List Int × List Int × Bool) (m : Nat) (L : List Int) (p : List Int × Bool) : Prop := (L ++ (rdT false a m p).1, (rdT false a m p).2) = Y
theorem CT.next {a : Int} {Y : List Int × List Int × Bool} {m : Nat} {L : List Int} {p : List Int × Bool} (h : CT a Y (m + 1) L p) (hp : p.2 = false) : CT a Y m (L ++ [a + (rdN false 2 true p).1]) (rdN false 2 true p).2 := by
  unfold CT at *
  rw [rdT, if_neg (by simp [hp])] at h
  simpa using h
theorem CT.end_ {a : Int} {Y : List Int × List Int × Bool} {m : Nat} {L : List Int} {p : List Int × Bool} (h : CT a Y m L p) (he : m = 0 ∨ p.2 = true) : Y = (L, p) := by
  unfold CT at h
  rcases he with rfl | he
  · simpa [rdT] using h.symm
  · rw [rdT_ended he] at h; simpa using h.symm
def CK (a : Int) (Y : List Int × List Int × List Int × Bool) (m : Nat) (L M : List Int) (p : List Int × Bool) : Prop := (L ++ (rdK false a m p).1, M ++ (rdK false a m p).2.1, (rdK false a m p).2.2) = Y
theorem CK.next {a : Int} {Y : List Int × List Int × List Int × Bool} {m : Nat} {L M : List Int} {p : List Int × Bool} (h : CK a Y (m + 1) L M p) (hp : p.2 = false) : CK a Y m (L ++ [(rdN false 4 true p).1]) (M ++ [a + (rdN false 2 true (rdN false 4 true p).2).1]) (rdN false 2 true (rdN false 4 true p).2).2 := by
  unfold CK at *
  rw [rdK, if_neg (by simp [hp])] at h
  simpa using h
theorem CK.end_ {a : Int} {Y : List Int × List Int × List Int × Bool} {m : Nat} {L M : List Int} {p : List Int × Bool} (h : CK a Y m L M p) (he : m = 0 ∨ p.2 = true) : Y = (L, M, p) := by
  unfold CK at h
  rcases he with rfl | he
  · simpa [rdK] using h.symm
  · rw [rdK_ended he] at h; simpa using h.symm
def Fin (w : World) (l : List Int) (v : Value) (X : In × List Int × Bool) (wx : World) : Prop := ∃ u1 u2, DS w wx (w.heap.size + 1) (w.heap.size + 1 + 1) w.heap.size X.1 u1 u2 v l X.2
end Go.Proofs.YtokmeomjdpfknaaGreatDoor
/- The document's Cut, walked. -/
namespace Go.Proofs.YtokmeomjdpfknaaGreatDoor
open Go.RowKit
set_option linter.unusedVariables false

theorem last_of {l : List In} {q : Nat} (h : l.length = q + 1) : l.getD (l.length - 1) i0 = gn l q := by rw [h]; rfl
theorem cutZ_mid {b : List Int} (h1 : ¬ 8192 < b.length) (h2 : ¬ b.length = 0) : cutZ b = cutL (cutF b 0) := by unfold cutZ; rw [if_neg h1, if_neg h2]
theorem cutL_bad {b : List Int} {R : List In × Int × Int} {a e : Int} (h : R = ([], a, e)) (he : e ≠ 0) : cutL R = ([], a, e) := by
  unfold cutL
  rw [h]
  simp only
  rw [if_neg he]
theorem cutL_astray {R : List In × Int × Int} {l : List In} {F : Int} (h : R = (l, 0, 0)) (hf : firstNot (good l) l = (F, true)) : cutL R = ([], F, 70) := by
  unfold cutL
  rw [h]
  simp only
  rw [if_pos trivial, hf]
  simp
theorem cutL_end {R : List In × Int × Int} {l : List In} {F : Int} {q : Nat} (h : R = (l, 0, 0)) (hf : firstNot (good l) l = (F, false)) (hq : l.length = q + 1) : cutL R = if endsZ (gn l q).o = true then (l, 0, 0) else ([], (gn l q).a, 70) := by
  unfold cutL
  rw [h]
  simp only
  rw [if_pos trivial, hf, last_of hq]
  simp
end Go.Proofs.YtokmeomjdpfknaaGreatDoor
/- The project's astray and Cut, walked. -/
namespace Go.Proofs.YtokmeomjdpfknaaGreatDoor
open Go.RowKit
set_option linter.unusedVariables false

set_option maxRecDepth 100000 in
set_option maxHeartbeats 4000000 in
theorem astray_any (v : Value) (l : List In) (w : World) (h : RowI w v l) (ha : Within l) :
    Calls Tryz.prog 200 #[v] w fun e w' => e = .returned (.tuple #[.int .i64 (firstNot (good l) l).1, .bool (firstNot (good l) l).2]) ∧ Ext w w' := by
  have H := Lib.hid h
  obtain ⟨A, c, rfl, -⟩ := h.cut
  have HB := Lib.hid (beginnings_any _ l w h ha)
  have HF := Lib.hid (fun W (e : Ext w W) f g (hf : FB W f g) (hg : BG W g l) => firstBut_any 235 #[.pointer (some ⟨f, 0, none⟩)] (good l) _ l W (H.out.ext e) (fun args W => Tryz.call235 args W)
    (fun W' e' x hx v1 v2 h1 h2 => astray1_any x v1 v2 f g l W' h1 h2 (hf.ext e') (hg.ext e') ha))
  obtain ⟨F, hF⟩ : ∃ F, firstNot (good l) l = F := ⟨_, rfl⟩
  rw [hF] at HF ⊢
  clear h ha hF
  go_enter Tryz.func200, Tryz.ntmps200
  go_wp2_with fail
  refine HB.out.mono ?_
  rintro e w1 ⟨g, rfl, hg, hs, x1⟩
  have HG := Lib.hid hg
  have X1 := Lib.hid x1
  clear hg x1
  go_wp2_with fail
  refine (HF.out _ (X1.out.alloc _) w1.heap.size g (heap_alloc_new w1 _) (HG.out.ext ((Ext.refl w1).alloc _))).mono ?_
  rintro e w2 ⟨rfl, x2⟩
  go_wp2
  go_ret2
  exact ⟨rfl, (X1.out.alloc _).trans x2⟩
set_option maxRecDepth 100000 in
set_option maxHeartbeats 4000000 in
theorem Cut_any (v : Value) (b : List Int) (w : World) (h : Row w .u8 v b) :
    Calls Tryz.prog 170 #[v] w (Ret w (CutAns w.heap.size (cutZ b))) := by
  have H := Lib.hid h
  have HB := Lib.hid (bytes_row h)
  obtain ⟨A, c, rfl, hc, hm, -⟩ := h
  unfold maxLen at hm
  obtain ⟨n, hn⟩ : ∃ n, n = b.length := ⟨_, rfl⟩
  rw [← hn] at hc H ⊢
  have Hn := Lib.hid hn
  by_cases hbig : 8192 < b.length
  · have HZ := Lib.hid (show cutZ b = ([], 0, 5) by unfold cutZ; rw [if_pos hbig])
    have hbig : 8192 < n := by omega
    clear hn
    go_enter Tryz.func170, Tryz.ntmps170
    go_wp2
    go_ret3
    exact Ret.mk (CutAns.bad HZ.out) (Ext.refl w)
  by_cases hnone : b.length = 0
  · have HZ := Lib.hid (show cutZ b = ([], 0, 70) by unfold cutZ; rw [if_neg hbig, if_pos hnone])
    obtain rfl : n = 0 := by omega
    clear hn
    go_enter Tryz.func170, Tryz.ntmps170
    go_wp2
    go_ret3
    exact Ret.mk (CutAns.bad HZ.out) (Ext.refl w)
  have HZ := Lib.hid (cutZ_mid hbig hnone)
  have hn0 : 0 < n := by omega
  have hn1 : n ≤ 8192 := by omega
  have hb0 : 0 < b.length := by omega
  have hd := decodeAll_any (.slice A n c) b w H.out (by omega)
  obtain ⟨R, hR⟩ : ∃ R, cutF b 0 = R := ⟨_, rfl⟩
  have HL : Hid (R.2.2 = 0 → ∃ q, R.1.length = q + 1) := Lib.hid (fun hl => by
    have := cutF_one HB.out hb0 (by rw [hR, hl])
    rw [hR] at this
    exact ⟨R.1.length - 1, by omega⟩)
  have HW : Hid (R.2.2 = 0 → Within R.1) := Lib.hid (fun hl x hx => by
    have := cutF_all HB.out _ 0 rfl (by rw [hR, hl]) x (by rw [hR]; exact hx)
    have h1 := (may_parts this.1).1
    exact ⟨h1.1, h1.2.1⟩)
  have HR0 : Hid (R.2.2 = 0 → R.2.1 = 0) := Lib.hid (fun hl => by rw [← hR] at hl ⊢; exact cuts_zero hl)
  have HR1 : Hid (R.2.2 ≠ 0 → R.1 = []) := Lib.hid (fun hl => by rw [← hR] at hl ⊢; exact cuts_none hl)
  rw [hR] at HZ hd
  have HD := Lib.hid hd
  clear hR hn hbig hnone hb0 hd
  have hz0 : ((n : Int) == 0) = false := by simp; omega
  obtain ⟨acc, k, er⟩ := R
  simp only at HL HW HR0 HR1 HD
  go_enter Tryz.func170, Tryz.ntmps170
  go_wp2_with fail
  refine HD.out.mono ?_
  rintro e w1 ⟨v', rfl, ⟨u, rfl, ho⟩, x1⟩
  have HO := Lib.hid ho
  have X1 := Lib.hid x1
  clear ho x1
  by_cases he : er = 0
  · subst he
    obtain rfl : k = 0 := HR0.out rfl
    obtain ⟨q, hq⟩ := HL.out rfl
    obtain ⟨A1, c1, rfl, hc1, hm1⟩ := HO.out.slice
    unfold maxLen at hm1
    have HQ := Lib.hid hq
    have HO' : Hid (OwnI w.heap.size w1 (.slice A1 (q + 1) c1) acc) := by rw [hq] at HO; exact HO
    rw [hq] at hc1 ⊢
    clear hq
    have HG := Lib.hid (astray_any (.slice A1 (q + 1) c1) acc w1 HO'.out.row (HW.out rfl))
    obtain ⟨F, hF⟩ : ∃ F, firstNot (good acc) acc = F := ⟨_, rfl⟩
    obtain ⟨fa, fb⟩ := F
    rw [hF] at HG
    cases fb
    · have HT := Lib.hid (HZ.out.trans (cutL_end rfl hF HQ.out))
      clear hF
      obtain ⟨b1, o1, rfl, hat⟩ := HO'.out.row.at (by have := HQ.out; omega)
      obtain ⟨v1, v2, hat⟩ := hat q (by have := HQ.out; omega)
      obtain ⟨A3, c3, rfl, -⟩ := (hat _ (Ext.refl w1)).2.1
      obtain ⟨A4, c4, rfl, -⟩ := (hat _ (Ext.refl w1)).2.2
      have HA := Lib.hid hat
      obtain ⟨x, hx⟩ : ∃ x, gn acc q = x := ⟨_, rfl⟩
      rw [hx] at HA HT
      have hwq : IntKind.i64.wrap (((q + 1 : Nat) : Int) - 1) = q := by rw [IntKind.wrap_i64]; omega
      have HB' := Lib.hid (fun (W0 W : World) e => boxed (w := W0) (W := W) (x := x) (v1 := .slice A3 x.to.length c3) (v2 := .slice A4 x.ks.length c4) e)
      unfold In.vals at HB'
      clear hat hx
      go_wp2_with fail
      refine HG.out.mono ?_
      rintro e w2 ⟨rfl, x2⟩
      obtain ⟨y0, y1, y2, y3, y4, y5⟩ := (HA.out _ x2).1
      have X2 := Lib.hid x2
      clear x2
      have HN := Lib.hid (fun W => Ends_any x.o W)
      by_cases he : endsZ x.o = true
      · rw [he] at HN HT
        clear he
        go_wp2_with fail
        refine (HN.out _).mono ?_
        rintro e w3 ⟨rfl, x3⟩
        go_wp2
        go_ret3
        exact Ret.mk (CutAns.good (HT.out.trans (if_pos trivial)) (HO'.out.ext ((X2.out.alloc _).trans x3))) (((X1.out.trans X2.out).alloc _).trans x3)
      · have he' : endsZ x.o = false := by simpa using he
        rw [he'] at HN HT
        clear he he'
        go_wp2_with fail
        refine (HN.out _).mono ?_
        rintro e w3 ⟨rfl, x3⟩
        obtain ⟨d0, d1, d2, d3, d4, d5⟩ := HB'.out w2 w3 x3
        go_wp2
        go_quiet (fail)
        go_wp2
        go_ret3
        exact Ret.mk (CutAns.bad (HT.out.trans (if_neg (by simp)))) ((((X1.out.trans X2.out).alloc _).trans x3).drewN _)
    · have HT := Lib.hid (HZ.out.trans (cutL_astray rfl hF))
      clear hF
      go_wp2_with fail
      refine HG.out.mono ?_
      rintro e w2 ⟨rfl, x2⟩
      go_wp2
      go_ret3
      exact Ret.mk (CutAns.bad HT.out) (X1.out.trans x2)
  · obtain rfl : acc = [] := HR1.out he
    have hb : (er != 0) = true := by simpa using he
    have HT := Lib.hid (HZ.out.trans (cutL_bad (b := b) rfl he))
    clear he
    go_wp2
    go_ret3
    exact Ret.mk (CutAns.bad HT.out) X1.out
end Go.Proofs.YtokmeomjdpfknaaGreatDoor
/- Whether a constant is one of some kinds; whether an instruction fits: the project's words and the document's, walked. -/
namespace Go.Proofs.YtokmeomjdpfknaaGreatDoor
open Go.RowKit
set_option linter.unusedVariables false

set_option maxRecDepth 100000 in
set_option maxHeartbeats 4000000 in
theorem indexInt_any (v : Value) (s : List Int) (x : Int) (w : World) (h : Row w .i64 v s) :
    Calls Tryz.prog 261 #[v, .int .i64 x] w fun e w' => e = .returned (.int .i64 (idxP (fun t => decide (x = t)) s 0)) ∧ w = w' := by
  have H := Lib.hid h
  obtain ⟨A, c, rfl, hc, hm, -, -, hcell⟩ := h
  unfold maxLen at hm
  obtain ⟨n, hn⟩ : ∃ n, n = s.length := ⟨_, rfl⟩
  rw [← hn] at hc H hcell ⊢
  have Hn := Lib.hid hn
  obtain ⟨R, hR⟩ : ∃ R, idxP (fun t => decide (x = t)) s 0 = R := ⟨_, rfl⟩
  have HR := Lib.hid hR
  rw [hR]
  clear hn hR
  go_enter Tryz.func261, Tryz.ntmps261
  go_wp2
  go_loopw [8] (fun i wr => ∃ (k : Nat), i = .int .i64 k ∧ k ≤ n ∧ Hid (R = idxP (fun t => decide (x = t)) (s.drop k) k) ∧ w = wr) (fun i _ => n - (intOf i).toNat)
  case atStart => exact ⟨0, rfl, by omega, Lib.hid HR.out.symm, rfl⟩
  case round =>
    obtain ⟨k, rfl, hk, HP, rfl⟩ := hrel
    by_cases hlt : k < n
    · obtain ⟨b, o, rfl, hb, hx⟩ := hcell (by omega)
      have y0 := hx k hlt
      have hget := gi_get (l := s) (k := k) (by have := Hn.out; omega)
      obtain ⟨t, ht⟩ : ∃ t, gi s k = t := ⟨_, rfl⟩
      rw [ht] at y0 hget
      by_cases he : x = t
      · have hb : (x == t) = true := by simp [he]
        have HE := Lib.hid (HP.out.trans (idxP_here hget (decide_eq_true he)))
        clear hx hcell ht hget he
        go_wp2
        go_ret
        exact ⟨by rw [HE.out]; rfl, rfl⟩
      · have hb : (x == t) = false := by simp [he]
        have HE := Lib.hid (HP.out.trans (idxP_next hget (decide_eq_false he)))
        clear hx hcell ht hget he
        go_wp2_with fail
        go_roundw
        case rel => exact ⟨k + 1, by go_num, by omega, HE, trivial⟩
        case measure => simp [intOf]; omega
    · have HE := Lib.hid (show R = -1 by rw [HP.out, List.drop_of_length_le (by have := Hn.out; omega)]; rfl)
      go_wp2
      go_ret
      exact ⟨by rw [HE.out]; rfl, rfl⟩
set_option maxRecDepth 100000 in
theorem containsInt_any (v : Value) (s : List Int) (x : Int) (w : World) (h : Row w .i64 v s) :
    Calls Tryz.prog 240 #[v, .int .i64 x] w fun e w' => e = .returned (.bool (s.any fun t => decide (x = t))) ∧ w = w' := by
  have HI := Lib.hid (indexInt_any v s x w h)
  rw [← idxP_any (p := fun t => decide (x = t)) (l := s) (k := 0)]
  obtain ⟨A, c, rfl, -⟩ := h
  obtain ⟨R, hR⟩ : ∃ R, idxP (fun t => decide (x = t)) s 0 = R := ⟨_, rfl⟩
  rw [hR] at HI ⊢
  clear hR
  go_enter Tryz.func240, Tryz.ntmps240
  go_wp2_with fail
  refine HI.out.mono ?_
  rintro e w1 ⟨rfl, rfl⟩
  go_wp2
  go_ret
  exact ⟨rfl, rfl⟩
def isKs (pool : List Cst) (n : Int) (ks : List Int) : Bool := decide (0 < n) && (decide (n < pool.length) && ks.any fun t => decide ((gc pool n.toNat).k = t))
theorem isKs_two (pool : List Cst) (n a b : Int) : isKs pool n [a, b] = isKZ pool n a b := by simp [isKs, isKZ]
theorem isKs_one (pool : List Cst) (n a : Int) : isKs pool n [a] = isKZ pool n a a := by simp [isKs, isKZ]
set_option maxRecDepth 100000 in
set_option maxHeartbeats 4000000 in
theorem isConst_any (v : Value) (pool : List Cst) (n : Int) (vk : Value) (ks : List Int) (w : World) (h : ShC.Row w v pool) (hk : Row w .i64 vk ks) :
    Calls Tryz.prog 208 #[v, .int .i64 n, vk] w fun e w' => e = .returned (.bool (isKs pool n ks)) ∧ w = w' := by
  have H := Lib.hid h
  have HC := Lib.hid (fun x => containsInt_any vk ks x w hk)
  obtain ⟨A, c, rfl, hc, hm, -⟩ := h.cut
  obtain ⟨A2, c2, rfl, -⟩ := hk
  unfold maxLen at hm
  obtain ⟨q, hq⟩ : ∃ q, q = pool.length := ⟨_, rfl⟩
  rw [← hq] at hc H ⊢
  have Hq := Lib.hid hq
  by_cases h0 : 0 < n
  · by_cases h1 : n < q
    · obtain ⟨j, rfl⟩ : ∃ j : Nat, n = j := ⟨n.toNat, by omega⟩
      have hj : j < q := by omega
      obtain ⟨bb, o, rfl, hat⟩ := rowC_at H.out (by omega)
      obtain ⟨y0, -⟩ := hat w (Ext.refl w) j (by omega)
      obtain ⟨k, hk⟩ : ∃ k, (gc pool j).k = k := ⟨_, rfl⟩
      rw [hk] at y0
      have hz : isKs pool j ks = ks.any fun t => decide (k = t) := by
        unfold isKs
        rw [decide_eq_true h0, decide_eq_true (show (j : Int) < pool.length by omega), Int.toNat_natCast, hk]
        simp
      rw [hz]
      have hck := HC.out k
      obtain ⟨r, hr⟩ : ∃ r, (ks.any fun t => decide (k = t)) = r := ⟨_, rfl⟩
      rw [hr] at hck ⊢
      have HK := Lib.hid hck
      clear hz hk hat h hq hck hr
      go_enter Tryz.func208, Tryz.ntmps208
      go_wp2_with fail
      refine HK.out.mono ?_
      rintro e w1 ⟨rfl, rfl⟩
      go_wp2
      go_ret
      exact ⟨rfl, rfl⟩
    · rw [show isKs pool n ks = false by unfold isKs; rw [decide_eq_false (show ¬ n < pool.length by omega)]; simp]
      clear hq h
      go_enter Tryz.func208, Tryz.ntmps208
      go_wp2
      go_ret
      exact ⟨rfl, rfl⟩
  · rw [show isKs pool n ks = false by unfold isKs; rw [decide_eq_false h0]; simp]
    clear hq h
    go_enter Tryz.func208, Tryz.ntmps208
    go_wp2
    go_ret
    exact ⟨rfl, rfl⟩
end Go.Proofs.YtokmeomjdpfknaaGreatDoor
