/- Several texts of this proof, one behind the other. -/
import Derived.Test.YtokmeomjdpfknaaGreatDoorZbAA
import Derived.LoopN
import Derived.Test.YtokmeomjdpfknaaGreatDoorZbG
import Derived.Test.YtokmeomjdpfknaaGreatDoorZbN
import Derived.BigQuiet
import Derived.Deep.QuietTactic
import Derived.Deep.RegionHeld3
import Derived.Deep.RegionLaw
import Derived.Deep.CutRange
import Derived.Deep.CutBlock
import Derived.Test.YtokmeomjdpfknaaGreatDoorZbJ
import Derived.Test.YtokmeomjdpfknaaGreatDoorZbF
import Derived.Test.YtokmeomjdpfknaaGreatDoorZbM
namespace Go.Proofs.YtokmeomjdpfknaaGreatDoor
open Go.RowKit
set_option linter.unusedVariables false

def idxP {α : Type} (p : α → Bool) : List α → Nat → Int
  | [], _ => -1
  | x :: l, i => if p x = true then (i : Int) else idxP p l (i + 1)
theorem idxP_next {α : Type} {p : α → Bool} {l : List α} {k : Nat} {x : α} (h : l[k]? = some x) (hp : p x = false) : idxP p (l.drop k) k = idxP p (l.drop (k + 1)) (k + 1) := by
  obtain ⟨hk, rfl⟩ := List.getElem?_eq_some_iff.1 h
  rw [List.drop_eq_getElem_cons hk, idxP, if_neg (by simp [hp])]
theorem idxP_here {α : Type} {p : α → Bool} {l : List α} {k : Nat} {x : α} (h : l[k]? = some x) (hp : p x = true) : idxP p (l.drop k) k = k := by
  obtain ⟨hk, rfl⟩ := List.getElem?_eq_some_iff.1 h
  rw [List.drop_eq_getElem_cons hk, idxP, if_pos hp]
theorem idxP_any {α : Type} {p : α → Bool} : ∀ {l : List α} {k : Nat}, decide (0 ≤ idxP p l k) = l.any p := by
  intro l
  induction l with
  | nil => intro k; rfl
  | cons x l ih =>
    intro k
    unfold idxP
    rw [List.any_cons]
    split
    · rename_i h
      rw [h]
      simp
    · rename_i h
      rw [ih]
      simp [h]
theorem gi_get {l : List Int} {k : Nat} (h : k < l.length) : l[k]? = some (gi l k) := by simp [gi, h]
def FB (w : World) (f g : Nat) : Prop := w.heap[f]? = some (.cells #[.func (.func 239) #[] #[.pointer (some ⟨g, 0, none⟩)]] 210 (0, 0))
theorem FB.ext {w w' : World} {f g : Nat} (h : FB w f g) (e : Ext w w') : FB w' f g := (e.block f (lt_of_get h)).trans h
theorem FB.cell {w : World} {f g : Nat} (h : FB w f g) : w.cell? ⟨f, 0, none⟩ = some (.func (.func 239) #[] #[.pointer (some ⟨g, 0, none⟩)]) := by
  rw [cell_of_row w f 0 _ _ (0, 0) h]
  rfl
set_option maxRecDepth 100000 in
theorem bad_any (t : Int) (f g : Nat) (l : List In) (w : World) (hf : FB w f g) (h : BG w g l) (ha : Within l) :
    Calls Tryz.prog 237 #[.int .i64 t, .pointer (some ⟨f, 0, none⟩)] w fun e w' => e = .returned (.bool (!hasAt l t)) ∧ w = w' := by
  have c0 := hf.cell
  have HB := Lib.hid (begins_any t g l w h ha)
  clear hf h ha
  go_enter Tryz.func237, Tryz.ntmps237
  go_wp2_with fail
  refine HB.out.mono ?_
  rintro e w1 ⟨rfl, rfl⟩
  go_wp2
  go_ret
  exact ⟨rfl, rfl⟩
set_option maxRecDepth 100000 in
set_option maxHeartbeats 4000000 in
theorem indexInts_any (v : Value) (s : List Int) (f g : Nat) (l : List In) (w : World) (h : Row w .i64 v s) (hf : FB w f g) (hg : BG w g l) (ha : Within l) :
    Calls Tryz.prog 259 #[v, .func (.func 237) #[] #[.pointer (some ⟨f, 0, none⟩)]] w fun e w' => e = .returned (.int .i64 (idxP (fun t => !hasAt l t) s 0)) ∧ w = w' := by
  have H := Lib.hid h
  obtain ⟨A, c, rfl, hc, hm, -, -, hcell⟩ := h
  unfold maxLen at hm
  obtain ⟨n, hn⟩ : ∃ n, n = s.length := ⟨_, rfl⟩
  rw [← hn] at hc H hcell ⊢
  have Hn := Lib.hid hn
  have HB := Lib.hid (fun t => bad_any t f g l w hf hg ha)
  obtain ⟨R, hR⟩ : ∃ R, idxP (fun t => !hasAt l t) s 0 = R := ⟨_, rfl⟩
  have HR := Lib.hid hR
  rw [hR]
  clear hn hf hg ha hR
  go_enter Tryz.func259, Tryz.ntmps259
  go_wp2
  go_loopw [8] (fun i wr => ∃ (k : Nat), i = .int .i64 k ∧ k ≤ n ∧ Hid (R = idxP (fun t => !hasAt l t) (s.drop k) k) ∧ w = wr) (fun i _ => n - (intOf i).toNat)
  case atStart => exact ⟨0, rfl, by omega, Lib.hid HR.out.symm, rfl⟩
  case round =>
    obtain ⟨k, rfl, hk, HP, rfl⟩ := hrel
    by_cases hlt : k < n
    · obtain ⟨b, o, rfl, hb, hx⟩ := hcell (by omega)
      have y0 := hx k hlt
      have hget := gi_get (l := s) (k := k) (by have := Hn.out; omega)
      obtain ⟨t, ht⟩ : ∃ t, gi s k = t := ⟨_, rfl⟩
      rw [ht] at y0 hget
      have hbt := HB.out t
      by_cases he : hasAt l t = true
      · rw [he, Bool.not_true] at hbt
        have HT := Lib.hid hbt
        have HE := Lib.hid (HP.out.trans (idxP_next hget (by simp [he])))
        clear hx hcell ht hget he hbt
        go_wp2_with fail
        refine HT.out.mono ?_
        rintro e w1 ⟨rfl, rfl⟩
        go_wp2_with fail
        go_roundw
        case rel => exact ⟨k + 1, by go_num, by omega, HE, trivial⟩
        case measure => simp [intOf]; omega
      · have he : hasAt l t = false := by simpa using he
        rw [he, Bool.not_false] at hbt
        have HT := Lib.hid hbt
        have HE := Lib.hid (HP.out.trans (idxP_here hget (by simp [he])))
        clear hx hcell ht hget he hbt
        go_wp2_with fail
        refine HT.out.mono ?_
        rintro e w1 ⟨rfl, rfl⟩
        go_wp2
        go_ret
        exact ⟨by rw [HE.out]; rfl, rfl⟩
    · have HE := Lib.hid (show R = -1 by rw [HP.out, List.drop_of_length_le (by have := Hn.out; omega)]; rfl)
      go_wp2
      go_ret
      exact ⟨by rw [HE.out]; rfl, rfl⟩
set_option maxRecDepth 100000 in
theorem containsInts_any (v : Value) (s : List Int) (f g : Nat) (l : List In) (w : World) (h : Row w .i64 v s) (hf : FB w f g) (hg : BG w g l) (ha : Within l) :
    Calls Tryz.prog 236 #[v, .func (.func 237) #[] #[.pointer (some ⟨f, 0, none⟩)]] w fun e w' => e = .returned (.bool (s.any fun t => !hasAt l t)) ∧ w = w' := by
  have HI := Lib.hid (indexInts_any v s f g l w h hf hg ha)
  rw [← idxP_any (p := fun t => !hasAt l t) (l := s) (k := 0)]
  obtain ⟨A, c, rfl, -⟩ := h
  obtain ⟨R, hR⟩ : ∃ R, idxP (fun t => !hasAt l t) s 0 = R := ⟨_, rfl⟩
  rw [hR] at HI ⊢
  clear hf hg ha hR
  go_enter Tryz.func236, Tryz.ntmps236
  go_wp2_with fail
  refine HI.out.mono ?_
  rintro e w1 ⟨rfl, rfl⟩
  go_wp2
  go_ret
  exact ⟨rfl, rfl⟩
theorem any_not {s : List Int} {p : Int → Bool} : (!s.any fun t => !p t) = s.all p := by
  induction s with
  | nil => rfl
  | cons x s ih => rw [List.any_cons, List.all_cons, ← ih]; cases p x <;> simp
set_option maxRecDepth 100000 in
set_option maxHeartbeats 4000000 in
theorem astray1_any (x : In) (v1 v2 : Value) (f g : Nat) (l : List In) (w : World) (h1 : Row w .i64 v1 x.to) (h2 : Row w .i64 v2 x.ks) (hf : FB w f g) (hg : BG w g l) (ha : Within l) :
    Calls Tryz.prog 235 #[.agg (x.vals v1 v2), .pointer (some ⟨f, 0, none⟩)] w fun e w' => e = .returned (.bool (good l x)) ∧ Ext w w' := by
  obtain ⟨A1, k1, rfl, -⟩ := id h1
  obtain ⟨A2, k2, rfl, -⟩ := id h2
  have HI := Lib.hid (fun W (e : Ext w W) => containsInts_any _ x.to f g l W (h1.ext e) (hf.ext e) (hg.ext e) ha)
  obtain ⟨d0, d1, d2, d3, d4, d5⟩ := boxed (w := w) (x := x) (v1 := .slice A1 x.to.length k1) (v2 := .slice A2 x.ks.length k2) (Ext.refl _)
  unfold In.vals at d0 d1 d2 d3 d4 d5 ⊢
  unfold good
  rw [← any_not]
  obtain ⟨r, hr⟩ : ∃ r, (x.to.any fun t => !hasAt l t) = r := ⟨_, rfl⟩
  rw [hr] at HI ⊢
  clear hr h1 h2 hf hg ha
  go_enter Tryz.func235, Tryz.ntmps235
  go_wp2_with fail
  refine (HI.out _ ((Ext.refl w).alloc _)).mono ?_
  rintro e w1 ⟨rfl, rfl⟩
  go_wp2
  go_ret
  exact ⟨rfl, (Ext.refl w).alloc _⟩
set_option maxRecDepth 100000 in
set_option maxHeartbeats 4000000 in
theorem firstBut_any (fid : FuncId) (caps : Array Value) (p : In → Bool) (v : Value) (l : List In) (w : World) (h : RowI w v l)
    (hc : ∀ args W, (callFunc fid args).run Tryz.prog W = .ok (.enter fid args) W)
    (hp : ∀ W, Ext w W → ∀ x ∈ l, ∀ v1 v2, Row W .i64 v1 x.to → Row W .i64 v2 x.ks → Calls Tryz.prog fid (#[.agg (x.vals v1 v2)] ++ caps) W fun e w' => e = .returned (.bool (p x)) ∧ Ext W w') :
    Calls Tryz.prog 202 #[v, .func (.func fid) #[] caps] w fun e w' => e = .returned (.tuple #[.int .i64 (firstNot p l).1, .bool (firstNot p l).2]) ∧ Ext w w' := by
  have H := Lib.hid h
  obtain ⟨A, c, rfl, hc0, hm, -⟩ := h.cut
  unfold maxLen at hm
  obtain ⟨n, hn⟩ : ∃ n, n = l.length := ⟨_, rfl⟩
  rw [← hn] at hc0 H ⊢
  have Hn := Lib.hid hn
  have HP := Lib.hid hp
  obtain ⟨F, hF⟩ : ∃ F, firstNot p l = F := ⟨_, rfl⟩
  have HF := Lib.hid hF
  rw [hF]
  clear hn h hp hF
  go_enter Tryz.func202, Tryz.ntmps202
  go_wp2
  go_loopw [10] (fun i wr => ∃ (k : Nat), i = .int .i64 k ∧ k ≤ n ∧ Hid (F = firstNot p (l.drop k)) ∧ Hid (Ext w wr)) (fun i _ => n - (intOf i).toNat)
  case atStart => exact ⟨0, rfl, by omega, Lib.hid HF.out.symm, Lib.hid (Ext.refl w)⟩
  case round =>
    obtain ⟨k, rfl, hk, HQ, HX⟩ := hrel
    by_cases hlt : k < n
    · have hkl : k < l.length := by have := Hn.out; omega
      obtain ⟨b, o, rfl, hat⟩ := H.out.at (by omega)
      obtain ⟨v1, v2, hat⟩ := hat k hkl
      have hr1 := (hat _ HX.out).2.1
      have hr2 := (hat _ HX.out).2.2
      obtain ⟨A1, c1, rfl, -⟩ := id hr1
      obtain ⟨A2, c2, rfl, -⟩ := id hr2
      obtain ⟨y0, y1, y2, y3, y4, y5⟩ := (hat _ HX.out).1
      have HC := Lib.hid (fun W (e : Ext wr W) => HP.out W (HX.out.trans e) _ (gn_mem hkl) _ _ (hr1.ext e) (hr2.ext e))
      have hN : p (gn l k) = true → F = firstNot p (l.drop (k + 1)) := fun e => HQ.out.trans (firstNot_next hkl e)
      have hH : p (gn l k) = false → F = ((gn l k).a, true) := fun e => HQ.out.trans (firstNot_here hkl e)
      obtain ⟨x, hx⟩ : ∃ x, gn l k = x := ⟨_, rfl⟩
      rw [hx] at y0 y1 y2 y3 y4 y5 HC hN hH
      have HB := Lib.hid (fun W e => boxed (w := wr) (W := W) (x := x) (v1 := .slice A1 x.to.length c1) (v2 := .slice A2 x.ks.length c2) e)
      obtain ⟨d0, d1, d2, d3, d4, d5⟩ := HB.out _ (Ext.refl _)
      unfold In.vals at HC HB d0 d1 d2 d3 d4 d5
      obtain ⟨r, hr⟩ : ∃ r, p x = r := ⟨_, rfl⟩
      rw [hr] at HC hN hH
      have HN := Lib.hid hN
      have HH := Lib.hid hH
      clear hat hx hkl hr hr1 hr2 hN hH
      go_wp2_with fail
      refine (HC.out _ ((Ext.refl wr).alloc _)).mono ?_
      rintro e w1 ⟨rfl, x1⟩
      have X1 := Lib.hid x1
      clear d0 d1 d2 d3 d4 d5 x1
      obtain ⟨d0, d1, d2, d3, d4, d5⟩ := HB.out _ X1.out
      cases r
      · have HE := Lib.hid (HH.out rfl)
        go_wp2
        go_ret2
        exact ⟨ret_place HE.out.symm, (HX.out.alloc _).trans X1.out⟩
      · have HE := Lib.hid (HN.out rfl)
        go_wp2_with fail
        go_roundw
        case rel => exact ⟨k + 1, by go_num, by omega, HE, Lib.hid ((HX.out.alloc _).trans X1.out)⟩
        case measure => simp [intOf]; omega
    · have HE := Lib.hid (show F = (0, false) by rw [HQ.out, List.drop_of_length_le (by have := Hn.out; omega)]; rfl)
      go_wp2
      go_ret2
      exact ⟨ret_place HE.out.symm, HX.out⟩
end Go.Proofs.YtokmeomjdpfknaaGreatDoor
namespace Go.Proofs.YtokmeomjdpfknaaGreatDoor
open Go.RowKit
set_option linter.unusedVariables false

def DR (w : World) (g : Nat) (v : Value) (b : List Int) (q : List Int × Bool) : Prop := ∃ a : Nat, NR w g v a q.2 ∧ a ≤ b.length ∧ b.drop a = q.1
theorem DR.lt {w : World} {g : Nat} {v : Value} {b : List Int} {q : List Int × Bool} (h : DR w g v b q) : g < w.heap.size := by obtain ⟨a, h, -⟩ := h; exact h.lt
theorem DR.ext {w w' : World} {g : Nat} {v : Value} {b : List Int} {q : List Int × Bool} (h : DR w g v b q) (e : Ext w w') : DR w' g v b q := by obtain ⟨a, h, r⟩ := h; exact ⟨a, h.ext e, r⟩
structure DS (w0 w : World) (h g c0 : Nat) (x : In) (v1 v2 v : Value) (b : List Int) (q : List Int × Bool) : Prop where
  xb : XP w h x v1 v2
  o1 : Own w0.heap.size w 3 .i64 v1 x.to
  o2 : Own w0.heap.size w 3 .i64 v2 x.ks
  ne : ∀ b, v1.ownBlock = some b → v2.ownBlock ≠ some b
  dr : DR w g v b q
  ext : Ext w0 w
  hg : w0.heap.size ≤ g
  hh : w0.heap.size ≤ h
  rc : XP w c0 i0 (.slice none 0 0) (.slice none 0 0)
  hc : c0 ≠ h
  hcc : w0.heap.size ≤ c0
section
variable {w0 w w' : World} {h g c0 : Nat} {x : In} {v1 v2 v : Value} {b : List Int} {q : List Int × Bool}
theorem DS.later (H : DS w0 w h g c0 x v1 v2 v b q) (e : Ext w w') : DS w0 w' h g c0 x v1 v2 v b q :=
  ⟨(e.block h (lt_of_get H.xb)).trans H.xb, H.o1.ext e, H.o2.ext e, H.ne, H.dr.ext e, H.ext.trans e, H.hg, H.hh, (e.block c0 (lt_of_get H.rc)).trans H.rc, H.hc, H.hcc⟩
theorem DS.drew (H : DS w0 w h g c0 x v1 v2 v b q) : DS w0 w.drew h g c0 x v1 v2 v b q := H.later (Ext.refl w).drew
theorem DS.alloc (H : DS w0 w h g c0 x v1 v2 v b q) (o : Obj) : DS w0 (w.alloc o) h g c0 x v1 v2 v b q := H.later ((Ext.refl w).alloc o)
end
end Go.Proofs.YtokmeomjdpfknaaGreatDoor
namespace Go.Proofs.YtokmeomjdpfknaaGreatDoor
open Go.RowKit
set_option linter.unusedVariables false

def CK (a : Int) (Y : List Int × List Int × List Int × Bool) (m : Nat) (L M : List Int) (p : List Int × Bool) : Prop := (L ++ (rdK false a m p).1, M ++ (rdK false a m p).2.1, (rdK false a m p).2.2) = Y
def Fin (w : World) (l : List Int) (v : Value) (X : In × List Int × Bool) (wx : World) : Prop := ∃ u1 u2, DS w wx (w.heap.size + 1) (w.heap.size + 1 + 1) w.heap.size X.1 u1 u2 v l X.2
end Go.Proofs.YtokmeomjdpfknaaGreatDoor
namespace Go.Proofs.YtokmeomjdpfknaaGreatDoor
open Go.RowKit
set_option linter.unusedVariables false

theorem last_of {l : List In} {q : Nat} (h : l.length = q + 1) : l.getD (l.length - 1) i0 = gn l q := by rw [h]; rfl
theorem cutZ_mid {b : List Int} (h1 : ¬ 8192 < b.length) (h2 : ¬ b.length = 0) : cutZ b = cutL (cutF b 0) := by unfold cutZ; rw [if_neg h1, if_neg h2]
theorem cutL_bad {b : List Int} {R : List In × Int × Int} {a e : Int} (h : R = ([], a, e)) (he : e ≠ 0) : cutL R = ([], a, e) := by
  unfold cutL
  rw [h]
  simp only
  rw [if_neg he]
theorem cutL_astray {R : List In × Int × Int} {l : List In} {F : Int} (h : R = (l, 0, 0)) (hf : firstNot (good l) l = (F, true)) : cutL R = ([], F, 70) := by
  unfold cutL
  rw [h]
  simp only
  rw [if_pos trivial, hf]
  simp
theorem cutL_end {R : List In × Int × Int} {l : List In} {F : Int} {q : Nat} (h : R = (l, 0, 0)) (hf : firstNot (good l) l = (F, false)) (hq : l.length = q + 1) : cutL R = if endsZ (gn l q).o = true then (l, 0, 0) else ([], (gn l q).a, 70) := by
  unfold cutL
  rw [h]
  simp only
  rw [if_pos trivial, hf, last_of hq]
  simp
end Go.Proofs.YtokmeomjdpfknaaGreatDoor
namespace Go.Proofs.YtokmeomjdpfknaaGreatDoor
open Go.RowKit
set_option linter.unusedVariables false

set_option maxRecDepth 100000 in
set_option maxHeartbeats 4000000 in
theorem astray_any (v : Value) (l : List In) (w : World) (h : RowI w v l) (ha : Within l) :
    Calls Tryz.prog 200 #[v] w fun e w' => e = .returned (.tuple #[.int .i64 (firstNot (good l) l).1, .bool (firstNot (good l) l).2]) ∧ Ext w w' := by
  have H := Lib.hid h
  obtain ⟨A, c, rfl, -⟩ := h.cut
  have HB := Lib.hid (beginnings_any _ l w h ha)
  have HF := Lib.hid (fun W (e : Ext w W) f g (hf : FB W f g) (hg : BG W g l) => firstBut_any 235 #[.pointer (some ⟨f, 0, none⟩)] (good l) _ l W (H.out.ext e) (fun args W => Tryz.call235 args W)
    (fun W' e' x hx v1 v2 h1 h2 => astray1_any x v1 v2 f g l W' h1 h2 (hf.ext e') (hg.ext e') ha))
  obtain ⟨F, hF⟩ : ∃ F, firstNot (good l) l = F := ⟨_, rfl⟩
  rw [hF] at HF ⊢
  clear h ha hF
  go_enter Tryz.func200, Tryz.ntmps200
  go_wp2_with fail
  refine HB.out.mono ?_
  rintro e w1 ⟨g, rfl, hg, hs, x1⟩
  have HG := Lib.hid hg
  have X1 := Lib.hid x1
  clear hg x1
  go_wp2_with fail
  refine (HF.out _ (X1.out.alloc _) w1.heap.size g (heap_alloc_new w1 _) (HG.out.ext ((Ext.refl w1).alloc _))).mono ?_
  rintro e w2 ⟨rfl, x2⟩
  go_wp2
  go_ret2
  exact ⟨rfl, (X1.out.alloc _).trans x2⟩
set_option maxRecDepth 100000 in
set_option maxHeartbeats 4000000 in
theorem Cut_any (v : Value) (b : List Int) (w : World) (h : Row w .u8 v b) :
    Calls Tryz.prog 170 #[v] w (Ret w (CutAns w.heap.size (cutZ b))) := by
  have H := Lib.hid h
  have HB := Lib.hid (bytes_row h)
  obtain ⟨A, c, rfl, hc, hm, -⟩ := h
  unfold maxLen at hm
  obtain ⟨n, hn⟩ : ∃ n, n = b.length := ⟨_, rfl⟩
  rw [← hn] at hc H ⊢
  have Hn := Lib.hid hn
  by_cases hbig : 8192 < b.length
  · have HZ := Lib.hid (show cutZ b = ([], 0, 5) by unfold cutZ; rw [if_pos hbig])
    have hbig : 8192 < n := by omega
    clear hn
    go_enter Tryz.func170, Tryz.ntmps170
    go_wp2
    go_ret3
    exact Ret.mk (CutAns.bad HZ.out) (Ext.refl w)
  by_cases hnone : b.length = 0
  · have HZ := Lib.hid (show cutZ b = ([], 0, 70) by unfold cutZ; rw [if_neg hbig, if_pos hnone])
    obtain rfl : n = 0 := by omega
    clear hn
    go_enter Tryz.func170, Tryz.ntmps170
    go_wp2
    go_ret3
    exact Ret.mk (CutAns.bad HZ.out) (Ext.refl w)
  have HZ := Lib.hid (cutZ_mid hbig hnone)
  have hn0 : 0 < n := by omega
  have hn1 : n ≤ 8192 := by omega
  have hb0 : 0 < b.length := by omega
  have hd := decodeAll_any (.slice A n c) b w H.out (by omega)
  obtain ⟨R, hR⟩ : ∃ R, cutF b 0 = R := ⟨_, rfl⟩
  have HL : Hid (R.2.2 = 0 → ∃ q, R.1.length = q + 1) := Lib.hid (fun hl => by
    have := cutF_one HB.out hb0 (by rw [hR, hl])
    rw [hR] at this
    exact ⟨R.1.length - 1, by omega⟩)
  have HW : Hid (R.2.2 = 0 → Within R.1) := Lib.hid (fun hl x hx => by
    have := cutF_all HB.out _ 0 rfl (by rw [hR, hl]) x (by rw [hR]; exact hx)
    have h1 := (may_parts this.1).1
    exact ⟨h1.1, h1.2.1⟩)
  have HR0 : Hid (R.2.2 = 0 → R.2.1 = 0) := Lib.hid (fun hl => by rw [← hR] at hl ⊢; exact cuts_zero hl)
  have HR1 : Hid (R.2.2 ≠ 0 → R.1 = []) := Lib.hid (fun hl => by rw [← hR] at hl ⊢; exact cuts_none hl)
  rw [hR] at HZ hd
  have HD := Lib.hid hd
  clear hR hn hbig hnone hb0 hd
  have hz0 : ((n : Int) == 0) = false := by simp; omega
  obtain ⟨acc, k, er⟩ := R
  simp only at HL HW HR0 HR1 HD
  go_enter Tryz.func170, Tryz.ntmps170
  go_wp2_with fail
  refine HD.out.mono ?_
  rintro e w1 ⟨v', rfl, ⟨u, rfl, ho⟩, x1⟩
  have HO := Lib.hid ho
  have X1 := Lib.hid x1
  clear ho x1
  by_cases he : er = 0
  · subst he
    obtain rfl : k = 0 := HR0.out rfl
    obtain ⟨q, hq⟩ := HL.out rfl
    obtain ⟨A1, c1, rfl, hc1, hm1⟩ := HO.out.slice
    unfold maxLen at hm1
    have HQ := Lib.hid hq
    have HO' : Hid (OwnI w.heap.size w1 (.slice A1 (q + 1) c1) acc) := by rw [hq] at HO; exact HO
    rw [hq] at hc1 ⊢
    clear hq
    have HG := Lib.hid (astray_any (.slice A1 (q + 1) c1) acc w1 HO'.out.row (HW.out rfl))
    obtain ⟨F, hF⟩ : ∃ F, firstNot (good acc) acc = F := ⟨_, rfl⟩
    obtain ⟨fa, fb⟩ := F
    rw [hF] at HG
    cases fb
    · have HT := Lib.hid (HZ.out.trans (cutL_end rfl hF HQ.out))
      clear hF
      obtain ⟨b1, o1, rfl, hat⟩ := HO'.out.row.at (by have := HQ.out; omega)
      obtain ⟨v1, v2, hat⟩ := hat q (by have := HQ.out; omega)
      obtain ⟨A3, c3, rfl, -⟩ := (hat _ (Ext.refl w1)).2.1
      obtain ⟨A4, c4, rfl, -⟩ := (hat _ (Ext.refl w1)).2.2
      have HA := Lib.hid hat
      obtain ⟨x, hx⟩ : ∃ x, gn acc q = x := ⟨_, rfl⟩
      rw [hx] at HA HT
      have hwq : IntKind.i64.wrap (((q + 1 : Nat) : Int) - 1) = q := by rw [IntKind.wrap_i64]; omega
      have HB' := Lib.hid (fun (W0 W : World) e => boxed (w := W0) (W := W) (x := x) (v1 := .slice A3 x.to.length c3) (v2 := .slice A4 x.ks.length c4) e)
      unfold In.vals at HB'
      clear hat hx
      go_wp2_with fail
      refine HG.out.mono ?_
      rintro e w2 ⟨rfl, x2⟩
      obtain ⟨y0, y1, y2, y3, y4, y5⟩ := (HA.out _ x2).1
      have X2 := Lib.hid x2
      clear x2
      have HN := Lib.hid (fun W => Ends_any x.o W)
      by_cases he : endsZ x.o = true
      · rw [he] at HN HT
        clear he
        go_wp2_with fail
        refine (HN.out _).mono ?_
        rintro e w3 ⟨rfl, x3⟩
        go_wp2
        go_ret3
        exact Ret.mk (CutAns.good (HT.out.trans (if_pos trivial)) (HO'.out.ext ((X2.out.alloc _).trans x3))) (((X1.out.trans X2.out).alloc _).trans x3)
      · have he' : endsZ x.o = false := by simpa using he
        rw [he'] at HN HT
        clear he he'
        go_wp2_with fail
        refine (HN.out _).mono ?_
        rintro e w3 ⟨rfl, x3⟩
        obtain ⟨d0, d1, d2, d3, d4, d5⟩ := HB'.out w2 w3 x3
        go_wp2
        go_quiet (fail)
        go_wp2
        go_ret3
        exact Ret.mk (CutAns.bad (HT.out.trans (if_neg (by simp)))) ((((X1.out.trans X2.out).alloc _).trans x3).drewN _)
    · have HT := Lib.hid (HZ.out.trans (cutL_astray rfl hF))
      clear hF
      go_wp2_with fail
      refine HG.out.mono ?_
      rintro e w2 ⟨rfl, x2⟩
      go_wp2
      go_ret3
      exact Ret.mk (CutAns.bad HT.out) (X1.out.trans x2)
  · obtain rfl : acc = [] := HR1.out he
    have hb : (er != 0) = true := by simpa using he
    have HT := Lib.hid (HZ.out.trans (cutL_bad (b := b) rfl he))
    clear he
    go_wp2
    go_ret3
    exact Ret.mk (CutAns.bad HT.out) X1.out
end Go.Proofs.YtokmeomjdpfknaaGreatDoor
namespace Go.Proofs.YtokmeomjdpfknaaGreatDoor
open Go.RowKit
set_option linter.unusedVariables false

set_option maxRecDepth 100000 in
set_option maxHeartbeats 4000000 in
theorem refisConst_any (v : Value) (pool : List Cst) (n a b : Int) (w : World) (h : ShC.Row w v pool) :
    Calls Tryz.prog 177 #[v, .int .i64 n, .int .i64 a, .int .i64 b] w fun e w' => e = .returned (.bool (isKZ pool n a b)) ∧ Ext w w' := by
  have H := Lib.hid h
  obtain ⟨A, c, rfl, hc, hm, -⟩ := h.cut
  unfold maxLen at hm
  obtain ⟨q, hq⟩ : ∃ q, q = pool.length := ⟨_, rfl⟩
  rw [← hq] at hc H ⊢
  have Hq := Lib.hid hq
  by_cases h0 : 0 < n
  · by_cases h1 : n < q
    · obtain ⟨j, rfl⟩ : ∃ j : Nat, n = j := ⟨n.toNat, by omega⟩
      have hj : j < q := by omega
      obtain ⟨bb, o, rfl, hat⟩ := rowC_at H.out (by omega)
      obtain ⟨y0, -⟩ := hat w (Ext.refl w) j (by omega)
      obtain ⟨k, hk⟩ : ∃ k, (gc pool j).k = k := ⟨_, rfl⟩
      rw [hk] at y0
      have hz : isKZ pool j a b = (decide (k = a) || decide (k = b)) := by
        unfold isKZ
        rw [decide_eq_true h0, decide_eq_true (show (j : Int) < pool.length by omega), Int.toNat_natCast, hk]
        simp
      rw [hz]
      clear hz hk hat h hq
      by_cases ha : k = a
      · have b1 : (k == a) = true := by simp [ha]
        rw [decide_eq_true ha]
        clear ha
        go_enter Tryz.func177, Tryz.ntmps177
        go_wp2
        go_ret
        exact ⟨rfl, Ext.refl w⟩
      · have b1 : (k == a) = false := by simp [ha]
        rw [decide_eq_false ha]
        clear ha
        by_cases hb : k = b
        · have b2 : (k == b) = true := by simp [hb]
          rw [decide_eq_true hb]
          clear hb
          go_enter Tryz.func177, Tryz.ntmps177
          go_wp2
          go_ret
          exact ⟨rfl, Ext.refl w⟩
        · have b2 : (k == b) = false := by simp [hb]
          rw [decide_eq_false hb]
          clear hb
          go_enter Tryz.func177, Tryz.ntmps177
          go_wp2
          go_ret
          exact ⟨rfl, Ext.refl w⟩
    · rw [show isKZ pool n a b = false by unfold isKZ; rw [decide_eq_false (show ¬ n < pool.length by omega)]; simp]
      clear hq h
      go_enter Tryz.func177, Tryz.ntmps177
      go_wp2
      go_ret
      exact ⟨rfl, Ext.refl w⟩
  · rw [show isKZ pool n a b = false by unfold isKZ; rw [decide_eq_false h0]; simp]
    clear hq h
    go_enter Tryz.func177, Tryz.ntmps177
    go_wp2
    go_ret
    exact ⟨rfl, Ext.refl w⟩
set_option maxRecDepth 100000 in
set_option maxHeartbeats 4000000 in
theorem indexInt_any (v : Value) (s : List Int) (x : Int) (w : World) (h : Row w .i64 v s) :
    Calls Tryz.prog 261 #[v, .int .i64 x] w fun e w' => e = .returned (.int .i64 (idxP (fun t => decide (x = t)) s 0)) ∧ w = w' := by
  have H := Lib.hid h
  obtain ⟨A, c, rfl, hc, hm, -, -, hcell⟩ := h
  unfold maxLen at hm
  obtain ⟨n, hn⟩ : ∃ n, n = s.length := ⟨_, rfl⟩
  rw [← hn] at hc H hcell ⊢
  have Hn := Lib.hid hn
  obtain ⟨R, hR⟩ : ∃ R, idxP (fun t => decide (x = t)) s 0 = R := ⟨_, rfl⟩
  have HR := Lib.hid hR
  rw [hR]
  clear hn hR
  go_enter Tryz.func261, Tryz.ntmps261
  go_wp2
  go_loopw [8] (fun i wr => ∃ (k : Nat), i = .int .i64 k ∧ k ≤ n ∧ Hid (R = idxP (fun t => decide (x = t)) (s.drop k) k) ∧ w = wr) (fun i _ => n - (intOf i).toNat)
  case atStart => exact ⟨0, rfl, by omega, Lib.hid HR.out.symm, rfl⟩
  case round =>
    obtain ⟨k, rfl, hk, HP, rfl⟩ := hrel
    by_cases hlt : k < n
    · obtain ⟨b, o, rfl, hb, hx⟩ := hcell (by omega)
      have y0 := hx k hlt
      have hget := gi_get (l := s) (k := k) (by have := Hn.out; omega)
      obtain ⟨t, ht⟩ : ∃ t, gi s k = t := ⟨_, rfl⟩
      rw [ht] at y0 hget
      by_cases he : x = t
      · have hb : (x == t) = true := by simp [he]
        have HE := Lib.hid (HP.out.trans (idxP_here hget (decide_eq_true he)))
        clear hx hcell ht hget he
        go_wp2
        go_ret
        exact ⟨by rw [HE.out]; rfl, rfl⟩
      · have hb : (x == t) = false := by simp [he]
        have HE := Lib.hid (HP.out.trans (idxP_next hget (decide_eq_false he)))
        clear hx hcell ht hget he
        go_wp2_with fail
        go_roundw
        case rel => exact ⟨k + 1, by go_num, by omega, HE, trivial⟩
        case measure => simp [intOf]; omega
    · have HE := Lib.hid (show R = -1 by rw [HP.out, List.drop_of_length_le (by have := Hn.out; omega)]; rfl)
      go_wp2
      go_ret
      exact ⟨by rw [HE.out]; rfl, rfl⟩
set_option maxRecDepth 100000 in
theorem containsInt_any (v : Value) (s : List Int) (x : Int) (w : World) (h : Row w .i64 v s) :
    Calls Tryz.prog 240 #[v, .int .i64 x] w fun e w' => e = .returned (.bool (s.any fun t => decide (x = t))) ∧ w = w' := by
  have HI := Lib.hid (indexInt_any v s x w h)
  rw [← idxP_any (p := fun t => decide (x = t)) (l := s) (k := 0)]
  obtain ⟨A, c, rfl, -⟩ := h
  obtain ⟨R, hR⟩ : ∃ R, idxP (fun t => decide (x = t)) s 0 = R := ⟨_, rfl⟩
  rw [hR] at HI ⊢
  clear hR
  go_enter Tryz.func240, Tryz.ntmps240
  go_wp2_with fail
  refine HI.out.mono ?_
  rintro e w1 ⟨rfl, rfl⟩
  go_wp2
  go_ret
  exact ⟨rfl, rfl⟩
def isKs (pool : List Cst) (n : Int) (ks : List Int) : Bool := decide (0 < n) && (decide (n < pool.length) && ks.any fun t => decide ((gc pool n.toNat).k = t))
theorem isKs_two (pool : List Cst) (n a b : Int) : isKs pool n [a, b] = isKZ pool n a b := by simp [isKs, isKZ]
theorem isKs_one (pool : List Cst) (n a : Int) : isKs pool n [a] = isKZ pool n a a := by simp [isKs, isKZ]
set_option maxRecDepth 100000 in
set_option maxHeartbeats 4000000 in
theorem isConst_any (v : Value) (pool : List Cst) (n : Int) (vk : Value) (ks : List Int) (w : World) (h : ShC.Row w v pool) (hk : Row w .i64 vk ks) :
    Calls Tryz.prog 208 #[v, .int .i64 n, vk] w fun e w' => e = .returned (.bool (isKs pool n ks)) ∧ w = w' := by
  have H := Lib.hid h
  have HC := Lib.hid (fun x => containsInt_any vk ks x w hk)
  obtain ⟨A, c, rfl, hc, hm, -⟩ := h.cut
  obtain ⟨A2, c2, rfl, -⟩ := hk
  unfold maxLen at hm
  obtain ⟨q, hq⟩ : ∃ q, q = pool.length := ⟨_, rfl⟩
  rw [← hq] at hc H ⊢
  have Hq := Lib.hid hq
  by_cases h0 : 0 < n
  · by_cases h1 : n < q
    · obtain ⟨j, rfl⟩ : ∃ j : Nat, n = j := ⟨n.toNat, by omega⟩
      have hj : j < q := by omega
      obtain ⟨bb, o, rfl, hat⟩ := rowC_at H.out (by omega)
      obtain ⟨y0, -⟩ := hat w (Ext.refl w) j (by omega)
      obtain ⟨k, hk⟩ : ∃ k, (gc pool j).k = k := ⟨_, rfl⟩
      rw [hk] at y0
      have hz : isKs pool j ks = ks.any fun t => decide (k = t) := by
        unfold isKs
        rw [decide_eq_true h0, decide_eq_true (show (j : Int) < pool.length by omega), Int.toNat_natCast, hk]
        simp
      rw [hz]
      have hck := HC.out k
      obtain ⟨r, hr⟩ : ∃ r, (ks.any fun t => decide (k = t)) = r := ⟨_, rfl⟩
      rw [hr] at hck ⊢
      have HK := Lib.hid hck
      clear hz hk hat h hq hck hr
      go_enter Tryz.func208, Tryz.ntmps208
      go_wp2_with fail
      refine HK.out.mono ?_
      rintro e w1 ⟨rfl, rfl⟩
      go_wp2
      go_ret
      exact ⟨rfl, rfl⟩
    · rw [show isKs pool n ks = false by unfold isKs; rw [decide_eq_false (show ¬ n < pool.length by omega)]; simp]
      clear hq h
      go_enter Tryz.func208, Tryz.ntmps208
      go_wp2
      go_ret
      exact ⟨rfl, rfl⟩
  · rw [show isKs pool n ks = false by unfold isKs; rw [decide_eq_false h0]; simp]
    clear hq h
    go_enter Tryz.func208, Tryz.ntmps208
    go_wp2
    go_ret
    exact ⟨rfl, rfl⟩
end Go.Proofs.YtokmeomjdpfknaaGreatDoor
namespace Go.Proofs.YtokmeomjdpfknaaGreatDoor
open Go.RowKit
set_option linter.unusedVariables false

def opcase (o : Int) : Prop := (o = 6 ∨ o = 9) ∨ (o = 5 ∨ o = 7 ∨ o = 8 ∨ o = 10 ∨ o = 11) ∨ o = 3 ∨ (o = 61 ∨ o = 62 ∨ o = 63 ∨ o = 64) ∨ (o = 65 ∨ o = 68 ∨ o = 76 ∨ o = 77) ∨ (o = 79 ∨ o = 80 ∨ o = 81 ∨ o = 82) ∨
  ((o < 5 ∧ o ≠ 3) ∨ (11 < o ∧ o < 61) ∨ (64 < o ∧ o < 79 ∧ o ≠ 65 ∧ o ≠ 68 ∧ o ≠ 76 ∧ o ≠ 77) ∨ 82 < o)
theorem opcase_all (o : Int) : opcase o := by unfold opcase; omega
theorem fitZ_more {lo : Int} {pool : List Cst} {x : In} (h : x.o = 6 ∨ x.o = 9) : fitZ lo pool x = decide (x.n + 1 < lo) := by unfold fitZ; rw [if_pos h]
theorem fitZ_one {lo : Int} {pool : List Cst} {x : In} (h : x.o = 5 ∨ x.o = 7 ∨ x.o = 8 ∨ x.o = 10 ∨ x.o = 11) : fitZ lo pool x = decide (x.n < lo) := by unfold fitZ; rw [if_neg (by omega), if_pos (by omega)]
theorem fitZ_ldc {lo : Int} {pool : List Cst} {x : In} (h : x.o = 3) : fitZ lo pool x = isKZ pool x.n 2 3 := by unfold fitZ; rw [if_neg (by omega), if_neg (by omega), if_pos h]
theorem fitZ_fld {lo : Int} {pool : List Cst} {x : In} (h : x.o = 61 ∨ x.o = 62 ∨ x.o = 63 ∨ x.o = 64) : fitZ lo pool x = isKZ pool x.n 5 5 := by unfold fitZ; rw [if_neg (by omega), if_neg (by omega), if_neg (by omega), if_pos (by omega)]
theorem fitZ_cls {lo : Int} {pool : List Cst} {x : In} (h : x.o = 65 ∨ x.o = 68 ∨ x.o = 76 ∨ x.o = 77) : fitZ lo pool x = isKZ pool x.n 4 4 := by unfold fitZ; rw [if_neg (by omega), if_neg (by omega), if_neg (by omega), if_neg (by omega), if_pos h]
theorem fitZ_mth {lo : Int} {pool : List Cst} {x : In} (h : x.o = 79 ∨ x.o = 80 ∨ x.o = 81 ∨ x.o = 82) : fitZ lo pool x = isKZ pool x.n 6 6 := by unfold fitZ; rw [if_neg (by omega), if_neg (by omega), if_neg (by omega), if_neg (by omega), if_neg (by omega), if_pos (by omega)]
theorem fitZ_any {lo : Int} {pool : List Cst} {x : In} (h : (x.o < 5 ∧ x.o ≠ 3) ∨ (11 < x.o ∧ x.o < 61) ∨ (64 < x.o ∧ x.o < 79 ∧ x.o ≠ 65 ∧ x.o ≠ 68 ∧ x.o ≠ 76 ∧ x.o ≠ 77) ∨ 82 < x.o) : fitZ lo pool x = true := by
  unfold fitZ; rw [if_neg (by omega), if_neg (by omega), if_neg (by omega), if_neg (by omega), if_neg (by omega), if_neg (by omega)]
theorem local_n {x : In} (h : mayI x = true) (ho : x.o = 6 ∨ x.o = 9) : 0 ≤ x.n ∧ x.n ≤ 255 := by
  obtain ⟨-, -, hf, -⟩ := may_parts h
  unfold fieldsOk at hf
  simp only [Bool.and_eq_true] at hf
  have hz : shapeZ x.o = 1 := by unfold shapeZ; rw [if_pos (by omega)]
  have h1 := hf.1.1.1
  rw [hz] at h1
  simpa using h1
def lfitZ (lo : Int) (x : In) : Bool := if x.o = 6 ∨ x.o = 9 then decide (x.n + 1 < lo) else if 5 ≤ x.o ∧ x.o ≤ 11 then decide (x.n < lo) else true
def cfitZ (pool : List Cst) (x : In) : Bool := if x.o = 3 then isKZ pool x.n 2 3 else if 61 ≤ x.o ∧ x.o ≤ 64 then isKZ pool x.n 5 5 else if x.o = 65 ∨ x.o = 68 ∨ x.o = 76 ∨ x.o = 77 then isKZ pool x.n 4 4
  else if 79 ≤ x.o ∧ x.o ≤ 82 then isKZ pool x.n 6 6 else true
theorem lfitZ_more {lo : Int} {x : In} (h : x.o = 6 ∨ x.o = 9) : lfitZ lo x = decide (x.n + 1 < lo) := by unfold lfitZ; rw [if_pos h]
theorem lfitZ_one {lo : Int} {x : In} (h : x.o = 5 ∨ x.o = 7 ∨ x.o = 8 ∨ x.o = 10 ∨ x.o = 11) : lfitZ lo x = decide (x.n < lo) := by unfold lfitZ; rw [if_neg (by omega), if_pos (by omega)]
theorem lfitZ_any {lo : Int} {x : In} (h : x.o < 5 ∨ 11 < x.o) : lfitZ lo x = true := by unfold lfitZ; rw [if_neg (by omega), if_neg (by omega)]
theorem cfitZ_ldc {pool : List Cst} {x : In} (h : x.o = 3) : cfitZ pool x = isKZ pool x.n 2 3 := by unfold cfitZ; rw [if_pos h]
theorem cfitZ_fld {pool : List Cst} {x : In} (h : x.o = 61 ∨ x.o = 62 ∨ x.o = 63 ∨ x.o = 64) : cfitZ pool x = isKZ pool x.n 5 5 := by unfold cfitZ; rw [if_neg (by omega), if_pos (by omega)]
theorem cfitZ_cls {pool : List Cst} {x : In} (h : x.o = 65 ∨ x.o = 68 ∨ x.o = 76 ∨ x.o = 77) : cfitZ pool x = isKZ pool x.n 4 4 := by unfold cfitZ; rw [if_neg (by omega), if_neg (by omega), if_pos h]
theorem cfitZ_mth {pool : List Cst} {x : In} (h : x.o = 79 ∨ x.o = 80 ∨ x.o = 81 ∨ x.o = 82) : cfitZ pool x = isKZ pool x.n 6 6 := by unfold cfitZ; rw [if_neg (by omega), if_neg (by omega), if_neg (by omega), if_pos (by omega)]
theorem cfitZ_any {pool : List Cst} {x : In} (h : x.o ≠ 3 ∧ ¬ (61 ≤ x.o ∧ x.o ≤ 64) ∧ x.o ≠ 65 ∧ x.o ≠ 68 ∧ x.o ≠ 76 ∧ x.o ≠ 77 ∧ ¬ (79 ≤ x.o ∧ x.o ≤ 82)) : cfitZ pool x = true := by
  unfold cfitZ; rw [if_neg (by omega), if_neg (by omega), if_neg (by omega), if_neg (by omega)]
theorem row_lit1 (w : World) (X : Obj) (T : TypeId) (a : Int) (ha : (Lit.int .i64 a).wf = true) : Row ((w.alloc X).alloc (.cells #[.int .i64 a] T)) .i64 (.slice (some ⟨w.heap.size + 1, 0, none⟩) 1 1) [a] := by
  have h := Row.built (w.alloc X) .i64 T [a] (fun y hy => by rw [List.mem_singleton.1 hy]; exact ha) (by simp)
  rwa [show (w.alloc X).heap.size = w.heap.size + 1 by simp] at h
theorem row_lit2 (w : World) (X : Obj) (T : TypeId) (a b : Int) (ha : (Lit.int .i64 a).wf = true) (hb : (Lit.int .i64 b).wf = true) : Row ((w.alloc X).alloc (.cells #[.int .i64 a, .int .i64 b] T)) .i64 (.slice (some ⟨w.heap.size + 1, 0, none⟩) 2 2) [a, b] := by
  have h := Row.built (w.alloc X) .i64 T [a, b] (fun y hy => by rcases List.mem_cons.1 hy with rfl | hy; exact ha; rw [List.mem_singleton.1 hy]; exact hb) (by simp)
  rwa [show (w.alloc X).heap.size = w.heap.size + 1 by simp] at h
theorem fitZ_both (lo : Int) (pool : List Cst) (x : In) : fitZ lo pool x = (lfitZ lo x && cfitZ pool x) := by
  rcases opcase_all x.o with h | h | h | h | h | h | h
  · rw [fitZ_more h, lfitZ_more h, cfitZ_any (by omega), Bool.and_true]
  · rw [fitZ_one h, lfitZ_one h, cfitZ_any (by omega), Bool.and_true]
  · rw [fitZ_ldc h, lfitZ_any (by omega), cfitZ_ldc h, Bool.true_and]
  · rw [fitZ_fld h, lfitZ_any (by omega), cfitZ_fld h, Bool.true_and]
  · rw [fitZ_cls h, lfitZ_any (by omega), cfitZ_cls h, Bool.true_and]
  · rw [fitZ_mth h, lfitZ_any (by omega), cfitZ_mth h, Bool.true_and]
  · rw [fitZ_any h, lfitZ_any (by omega), cfitZ_any (by omega), Bool.true_and]
end Go.Proofs.YtokmeomjdpfknaaGreatDoor
namespace Go.Proofs.YtokmeomjdpfknaaGreatDoor
open Go.RowKit
set_option linter.unusedVariables false
set_option maxRecDepth 100000 in
set_option maxHeartbeats 8000000 in
theorem localFits_any (x : In) (v1 v2 : Value) (lo : Int) (w : World) (h1 : Row w .i64 v1 x.to) (h2 : Row w .i64 v2 x.ks) (hm : mayI x = true) :
    Calls Tryz.prog 204 #[.agg (x.vals v1 v2), .int .i64 lo] w fun e w' => e = .returned (.bool (lfitZ lo x)) ∧ Ext w w' := by
  obtain ⟨a, o, n, m, tt, ks⟩ := x
  obtain ⟨A1, k1, rfl, -⟩ := h1
  obtain ⟨A2, k2, rfl, -⟩ := h2
  simp only at *
  unfold In.vals
  simp only
  rcases opcase_all o with H0 | H1 | H2 | H3 | H4 | H5 | HG
  · rw [lfitZ_more (x := ⟨a, o, n, m, tt, ks⟩) H0]
    have hn := local_n (x := ⟨a, o, n, m, tt, ks⟩) hm H0
    have hw : IntKind.i64.wrap (n + 1) = n + 1 := by rw [IntKind.wrap_i64]; simp only at hn; omega
    clear hm
    rcases H0 with rfl | rfl
    all_goals
      go_enter Tryz.func204, Tryz.ntmps204
      go_wp2
      go_ret
      exact ⟨rfl, (Ext.refl w).alloc _⟩
  · rw [lfitZ_one (x := ⟨a, o, n, m, tt, ks⟩) H1]
    clear hm
    rcases H1 with rfl | rfl | rfl | rfl | rfl
    all_goals
      go_enter Tryz.func204, Tryz.ntmps204
      go_wp2
      go_ret
      exact ⟨rfl, (Ext.refl w).alloc _⟩
  · rw [lfitZ_any (x := ⟨a, o, n, m, tt, ks⟩) (by simp only; omega)]
    clear hm
    subst H2
    all_goals
      go_enter Tryz.func204, Tryz.ntmps204
      go_wp2
      go_ret
      exact ⟨rfl, (Ext.refl w).alloc _⟩
  · rw [lfitZ_any (x := ⟨a, o, n, m, tt, ks⟩) (by simp only; omega)]
    clear hm
    rcases H3 with rfl | rfl | rfl | rfl
    all_goals
      go_enter Tryz.func204, Tryz.ntmps204
      go_wp2
      go_ret
      exact ⟨rfl, (Ext.refl w).alloc _⟩
  · rw [lfitZ_any (x := ⟨a, o, n, m, tt, ks⟩) (by simp only; omega)]
    clear hm
    rcases H4 with rfl | rfl | rfl | rfl
    all_goals
      go_enter Tryz.func204, Tryz.ntmps204
      go_wp2
      go_ret
      exact ⟨rfl, (Ext.refl w).alloc _⟩
  · rw [lfitZ_any (x := ⟨a, o, n, m, tt, ks⟩) (by simp only; omega)]
    clear hm
    rcases H5 with rfl | rfl | rfl | rfl
    all_goals
      go_enter Tryz.func204, Tryz.ntmps204
      go_wp2
      go_ret
      exact ⟨rfl, (Ext.refl w).alloc _⟩
  · rw [lfitZ_any (x := ⟨a, o, n, m, tt, ks⟩) (by simp only; omega)]
    clear hm
    have e5 : (o == 5) = false := by simp; omega
    have e7 : (o == 7) = false := by simp; omega
    have e8 : (o == 8) = false := by simp; omega
    have e10 : (o == 10) = false := by simp; omega
    have e11 : (o == 11) = false := by simp; omega
    have e6 : (o == 6) = false := by simp; omega
    have e9 : (o == 9) = false := by simp; omega
    clear HG
    go_enter Tryz.func204, Tryz.ntmps204
    go_wp2
    go_ret
    exact ⟨rfl, (Ext.refl w).alloc _⟩
end Go.Proofs.YtokmeomjdpfknaaGreatDoor
