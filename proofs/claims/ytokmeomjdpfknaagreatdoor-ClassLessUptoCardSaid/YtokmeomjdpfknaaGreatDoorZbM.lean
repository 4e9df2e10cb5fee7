/- Several texts of this proof, one behind the other. -/
import Derived.Test.YtokmeomjdpfknaaGreatDoorZbL
import Derived.Test.YtokmeomjdpfknaaGreatDoorZbB
import Derived.Test.YtokmeomjdpfknaaGreatDoorZbC
import Derived.Test.YtokmeomjdpfknaaGreatDoorRows
import Derived.Test.YtokmeomjdpfknaaGreatDoorZbA
import Derived.SizedLaws
import Derived.Lib.ValidLaws
import Derived.Deep.Slices
import Derived.Deep.Fields
import Derived.ChangeSame
import Derived.Test.YtokmeomjdpfknaaGreatDoorZbJ
import Derived.Test.YtokmeomjdpfknaaGreatDoorZbG
import Derived.LoopN
import Derived.Deep.RegionWith
import Derived.Deep.RegionLaw
import Derived.BigQuiet
namespace Go.Proofs.YtokmeomjdpfknaaGreatDoor
open Go.RowKit
set_option linter.unusedVariables false

theorem PRP.set_o {w0 w : World} {g : Nat} {l : List Int} {e : Int} (h : PRP w0 w g l e) {q : Addr} (hq : q.block ≠ g) (hb : w0.heap.size ≤ q.block) (u : Value) : PRP w0 (w.setCell q u) g l e := by
  obtain ⟨v, hg, h2, h3, h4⟩ := h
  exact ⟨v, (Below.heap_setCell w q u g (fun e => hq (by rw [e]))).trans hg, h2, h3.set_ hb _, h4⟩
theorem grown_new {w w2 : World} {r : Option Nat} (h : w.grownBy w2 r) {q : Addr} (hq : w.heap.size ≤ q.block) (u : Value) : w.grownBy (w2.setCell q u) r := by
  refine ⟨h.os, h.tape, h.output, by simpa [World.setCell] using h.size, fun i hi hne => ?_⟩
  rw [Below.heap_setCell w2 q u i (by omega)]
  exact h.block i hi hne
theorem PRP.six {w0 w : World} {g s : Nat} {l : List Int} {e : Int} (h : PRP w0 w g l e) (hs : s ≠ g) (hb : w0.heap.size ≤ s) (o : Nat) (u0 u1 u2 u3 u4 u5 : Value) :
    PRP w0 ((((((w.setCell ⟨s, o, none⟩ u0).setCell ⟨s, o + 1, none⟩ u1).setCell ⟨s, o + 2, none⟩ u2).setCell ⟨s, o + 3, none⟩ u3).setCell ⟨s, o + 4, none⟩ u4).setCell ⟨s, o + 5, none⟩ u5) g l e :=
  (((((h.set_o (q := ⟨s, o, none⟩) hs hb u0).set_o (q := ⟨s, o + 1, none⟩) hs hb u1).set_o (q := ⟨s, o + 2, none⟩) hs hb u2).set_o (q := ⟨s, o + 3, none⟩) hs hb u3).set_o (q := ⟨s, o + 4, none⟩) hs hb u4).set_o (q := ⟨s, o + 5, none⟩) hs hb u5
theorem grown_six {w w2 : World} {r : Option Nat} {s : Nat} (h : w.grownBy w2 r) (hs : w.heap.size ≤ s) (o : Nat) (u0 u1 u2 u3 u4 u5 : Value) :
    w.grownBy ((((((w2.setCell ⟨s, o, none⟩ u0).setCell ⟨s, o + 1, none⟩ u1).setCell ⟨s, o + 2, none⟩ u2).setCell ⟨s, o + 3, none⟩ u3).setCell ⟨s, o + 4, none⟩ u4).setCell ⟨s, o + 5, none⟩ u5) r :=
  (((((grown_new h (q := ⟨s, o, none⟩) hs u0) |> fun h => grown_new h (q := ⟨s, o + 1, none⟩) hs u1) |> fun h => grown_new h (q := ⟨s, o + 2, none⟩) hs u2) |> fun h => grown_new h (q := ⟨s, o + 3, none⟩) hs u3) |> fun h => grown_new h (q := ⟨s, o + 4, none⟩) hs u4) |> fun h => grown_new h (q := ⟨s, o + 5, none⟩) hs u5
def numP (t : List Int → Int × List Int × Int) (l : List Int) (e : Int) : Int × List Int × Int :=
  if e = 0 then (if (t (l.take 16)).2.2 = 0 then ((t (l.take 16)).1, l.drop ((l.take 16).length - (t (l.take 16)).2.1.length), 0) else (0, l, (t (l.take 16)).2.2)) else (0, l, e)
def pU (l : List Int) (e : Int) : Int × List Int × Int := numP tU l e
def pS (l : List Int) (e : Int) : Int × List Int × Int := numP (tS 10 2) l e
theorem tU_short (l : List Int) : (tU l).2.1.length ≤ l.length := by
  by_cases h : (tU l).2.2 = 0
  · have := congrArg List.length (tU_ok h).2
    rw [List.length_append] at this
    omega
  · rw [(tU_err h).2]
    simp
theorem tS_short (l : List Int) : (tS 10 2 l).2.1.length ≤ l.length := by
  by_cases h : (tS 10 2 l).2.2 = 0
  · have := congrArg List.length (tS_ok h)
    rw [List.length_append] at this
    omega
  · rw [(tS_err h).2.1]
    simp

set_option maxRecDepth 100000 in
set_option maxHeartbeats 2000000 in
theorem numberU_any (w0 w : World) (g : Nat) (l : List Int) (e : Int) (h : PRP w0 w g l e) :
    Calls Tryz.prog 220 #[.pointer (some ⟨g, 0, none⟩), .func (.func 183) #[] #[]] w (PRetP w0 w g (.int .i64 (pU l e).1) (pU l e).2.1 (pU l e).2.2) := by
  have hlt16 : (l.take 16).length ≤ 16 := by rw [List.length_take]; omega
  have c1 := fun v W hv => TakeU_any v (l.take 16) W hv (by omega)
  have hsh := tU_short (l.take 16)
  have hll : (l.take 16).length ≤ l.length := by rw [List.length_take]; omega
  have e0 : pU l e = if e = 0 then (if (tU (l.take 16)).2.2 = 0 then ((tU (l.take 16)).1, l.drop ((l.take 16).length - (tU (l.take 16)).2.1.length), 0) else (0, l, (tU (l.take 16)).2.2)) else (0, l, e) := rfl
  obtain ⟨⟨n, r, e1⟩, ht⟩ : ∃ t, t = tU (l.take 16) := ⟨_, rfl⟩
  rw [← ht] at c1 hsh e0
  simp only at c1 hsh e0
  obtain ⟨p, hp⟩ : ∃ p, (l.take 16).length = p := ⟨_, rfl⟩
  obtain ⟨q, hq⟩ : ∃ q, r.length = q := ⟨_, rfl⟩
  rw [hp, hq] at hsh
  rw [hp] at hlt16 hll
  rw [hp, hq] at e0
  have HP := Lib.hid hp
  have HQ := Lib.hid hq
  have C1 := Lib.hid c1
  have E0 := Lib.hid e0
  clear ht c1 hp hq e0
  go_enter Tryz.func220, Tryz.ntmps220
  go_wp2_with fail
  refine (first_anyI w0 _ g l e 16 (by omega) (by omega) (by exact h)).mono ?_
  rintro x w1 ⟨v3, m1, rfl, hh, rfl⟩
  have hh : Row w0 .u8 v3 (l.take 16) := hh
  have h1 := h.ext ((Ext.refl w).drewN m1)
  have HH1 := Lib.hid h1
  obtain ⟨A3, c3, hv3, -⟩ := id hh
  rw [HP.out] at hv3
  subst hv3
  go_wp2_with fail
  refine (C1.out _ _ (by exact hh.ext HH1.out.ext0)).mono ?_
  rintro x w2 ⟨u2, rfl, ⟨b2, rfl, ho2⟩, x2⟩
  simp only at ho2 ⊢
  obtain ⟨A2, c2, hv2, -⟩ := ho2.row
  rw [HQ.out] at hv2
  subst hv2
  have h2 := HH1.out.ext x2
  have X2 := Lib.hid (((Ext.refl w).drewN m1).trans x2)
  have HH2 := Lib.hid h2
  clear hh h1 ho2 x2 h2
  go_wp2_with fail
  refine (fail_any w0 _ g l e e1 (by exact HH2.out)).mono ?_
  rintro x w3 ⟨rfl, h3, g3⟩
  have HH3 := Lib.hid h3
  have G3 := Lib.hid (grown_twoP' (ext_grownP X2.out (some g)) g3)
  obtain ⟨A4, c4, -, -, -, b0, b1, f0, f1⟩ := h3.cells
  clear h3 g3 h
  by_cases he : e = 0
  · by_cases he1 : e1 = 0
    · subst he he1
      rw [show errP 0 0 = 0 from rfl] at b1 HH3
      have e2 : pU l 0 = (n, l.drop (p - q), 0) := by rw [E0.out]; rfl
      have E2 := Lib.hid e2
      clear e2
      go_wp2_with fail
      refine (drop_anyI w0 _ g l 0 _ (by omega) (by omega) (by exact HH3.out)).mono ?_
      rintro x w4 ⟨rfl, h4, g4⟩
      rw [show ((p : Int) - (q : Int)).toNat = p - q by omega] at h4
      go_wp2
      go_ret
      rw [E2.out]
      exact ⟨rfl, h4, grown_twoP' G3.out g4⟩
    · subst he
      rw [show errP 0 e1 = e1 from rfl] at b1 HH3
      have hb : (e1 != 0) = true := by simpa using he1
      have e2 : pU l 0 = (0, l, e1) := by rw [E0.out, if_pos rfl, if_neg he1]
      have E2 := Lib.hid e2
      clear e2
      go_wp2
      go_ret
      rw [E2.out]
      exact ⟨rfl, HH3.out, G3.out⟩
  · rw [show errP e e1 = e from if_neg he] at b1 HH3
    have hb : (e != 0) = true := by simpa using he
    have e2 : pU l e = (0, l, e) := by rw [E0.out, if_neg he]
    have E2 := Lib.hid e2
    clear e2
    go_wp2
    go_ret
    rw [E2.out]
    exact ⟨rfl, HH3.out, G3.out⟩

set_option maxRecDepth 100000 in
set_option maxHeartbeats 2000000 in
theorem numberS_any (w0 w : World) (g : Nat) (l : List Int) (e : Int) (h : PRP w0 w g l e) :
    Calls Tryz.prog 220 #[.pointer (some ⟨g, 0, none⟩), .func (.func 245) #[] #[]] w (PRetP w0 w g (.int .i64 (pS l e).1) (pS l e).2.1 (pS l e).2.2) := by
  have hlt16 : (l.take 16).length ≤ 16 := by rw [List.length_take]; omega
  have c1 := fun v W hv => TakeS_any v (l.take 16) W hv (by omega)
  have hsh := tS_short (l.take 16)
  have hll : (l.take 16).length ≤ l.length := by rw [List.length_take]; omega
  have e0 : pS l e = if e = 0 then (if (tS 10 2 (l.take 16)).2.2 = 0 then ((tS 10 2 (l.take 16)).1, l.drop ((l.take 16).length - (tS 10 2 (l.take 16)).2.1.length), 0) else (0, l, (tS 10 2 (l.take 16)).2.2)) else (0, l, e) := rfl
  obtain ⟨⟨n, r, e1⟩, ht⟩ : ∃ t, t = tS 10 2 (l.take 16) := ⟨_, rfl⟩
  rw [← ht] at c1 hsh e0
  simp only at c1 hsh e0
  obtain ⟨p, hp⟩ : ∃ p, (l.take 16).length = p := ⟨_, rfl⟩
  obtain ⟨q, hq⟩ : ∃ q, r.length = q := ⟨_, rfl⟩
  rw [hp, hq] at hsh
  rw [hp] at hlt16 hll
  rw [hp, hq] at e0
  have HP := Lib.hid hp
  have HQ := Lib.hid hq
  have C1 := Lib.hid c1
  have E0 := Lib.hid e0
  clear ht c1 hp hq e0
  go_enter Tryz.func220, Tryz.ntmps220
  go_wp2_with fail
  refine (first_anyI w0 _ g l e 16 (by omega) (by omega) (by exact h)).mono ?_
  rintro x w1 ⟨v3, m1, rfl, hh, rfl⟩
  have hh : Row w0 .u8 v3 (l.take 16) := hh
  have h1 := h.ext ((Ext.refl w).drewN m1)
  have HH1 := Lib.hid h1
  obtain ⟨A3, c3, hv3, -⟩ := id hh
  rw [HP.out] at hv3
  subst hv3
  go_wp2_with fail
  refine (C1.out _ _ (by exact hh.ext HH1.out.ext0)).mono ?_
  rintro x w2 ⟨u2, rfl, ⟨b2, rfl, ho2⟩, x2⟩
  simp only at ho2 ⊢
  obtain ⟨A2, c2, hv2, -⟩ := ho2.row
  rw [HQ.out] at hv2
  subst hv2
  have h2 := HH1.out.ext x2
  have X2 := Lib.hid (((Ext.refl w).drewN m1).trans x2)
  have HH2 := Lib.hid h2
  clear hh h1 ho2 x2 h2
  go_wp2_with fail
  refine (fail_any w0 _ g l e e1 (by exact HH2.out)).mono ?_
  rintro x w3 ⟨rfl, h3, g3⟩
  have HH3 := Lib.hid h3
  have G3 := Lib.hid (grown_twoP' (ext_grownP X2.out (some g)) g3)
  obtain ⟨A4, c4, -, -, -, b0, b1, f0, f1⟩ := h3.cells
  clear h3 g3 h
  by_cases he : e = 0
  · by_cases he1 : e1 = 0
    · subst he he1
      rw [show errP 0 0 = 0 from rfl] at b1 HH3
      have e2 : pS l 0 = (n, l.drop (p - q), 0) := by rw [E0.out]; rfl
      have E2 := Lib.hid e2
      clear e2
      go_wp2_with fail
      refine (drop_anyI w0 _ g l 0 _ (by omega) (by omega) (by exact HH3.out)).mono ?_
      rintro x w4 ⟨rfl, h4, g4⟩
      rw [show ((p : Int) - (q : Int)).toNat = p - q by omega] at h4
      go_wp2
      go_ret
      rw [E2.out]
      exact ⟨rfl, h4, grown_twoP' G3.out g4⟩
    · subst he
      rw [show errP 0 e1 = e1 from rfl] at b1 HH3
      have hb : (e1 != 0) = true := by simpa using he1
      have e2 : pS l 0 = (0, l, e1) := by rw [E0.out, if_pos rfl, if_neg he1]
      have E2 := Lib.hid e2
      clear e2
      go_wp2
      go_ret
      rw [E2.out]
      exact ⟨rfl, HH3.out, G3.out⟩
  · rw [show errP e e1 = e from if_neg he] at b1 HH3
    have hb : (e != 0) = true := by simpa using he
    have e2 : pS l e = (0, l, e) := by rw [E0.out, if_neg he]
    have E2 := Lib.hid e2
    clear e2
    go_wp2
    go_ret
    rw [E2.out]
    exact ⟨rfl, HH3.out, G3.out⟩

def cntP (l : List Int) : Int × List Int × Int := if (pU l 0).2.2 = 0 ∧ 4096 < (pU l 0).1 then (0, (pU l 0).2.1, 5) else pU l 0
theorem pU_zero {l : List Int} {e : Int} (h : ¬ (pU l e).2.2 = 0) : (pU l e).1 = 0 := by
  unfold pU numP at h ⊢
  by_cases he : e = 0
  · rw [if_pos he] at h ⊢
    by_cases h2 : (tU (l.take 16)).2.2 = 0
    · rw [if_pos h2] at h
      exact absurd rfl h
    · rw [if_neg h2]
  · rw [if_neg he]
theorem count_any (w0 w : World) (g : Nat) (l : List Int) (h : PRP w0 w g l 0) :
    Calls Tryz.prog 180 #[.pointer (some ⟨g, 0, none⟩)] w (PRetP w0 w g (.int .i64 (cntP l).1) (cntP l).2.1 (cntP l).2.2) := by
  have c1 := numberU_any w0 w g l 0 h
  have e0 : cntP l = if (pU l 0).2.2 = 0 ∧ 4096 < (pU l 0).1 then (0, (pU l 0).2.1, 5) else pU l 0 := rfl
  have hz := @pU_zero l 0
  obtain ⟨⟨n, r, e1⟩, ht⟩ : ∃ t, t = pU l 0 := ⟨_, rfl⟩
  rw [← ht] at c1 e0 hz
  simp only at c1 e0 hz
  have C1 := Lib.hid c1
  have E0 := Lib.hid e0
  clear ht c1 e0
  by_cases hn : 4096 < n
  · have he1 : e1 = 0 := by
      by_cases h1 : e1 = 0
      · exact h1
      · have := hz h1
        omega
    subst he1
    have e2 : cntP l = (0, r, 5) := by rw [E0.out, if_pos ⟨rfl, hn⟩]
    rw [e2]
    clear e2 hz h
    go_enter Tryz.func180, Tryz.ntmps180
    go_wp2_with fail
    refine C1.out.mono ?_
    rintro x w1 ⟨rfl, h1, g1⟩
    go_wp2_with fail
    refine (fail_any w0 _ g r 0 5 (by exact h1)).mono ?_
    rintro x w2 ⟨rfl, h2, g2⟩
    go_wp2
    go_ret
    exact ⟨rfl, h2, grown_twoP' g1 g2⟩
  · have e2 : cntP l = (n, r, e1) := by rw [E0.out, if_neg (fun h => hn h.2)]
    rw [e2]
    clear e2 hz h
    go_enter Tryz.func180, Tryz.ntmps180
    go_wp2_with fail
    refine C1.out.mono ?_
    rintro x w1 ⟨rfl, h1, g1⟩
    go_wp2
    go_ret
    exact ⟨rfl, h1, g1⟩

def kndP (l : List Int) : Int × List Int × Int := if l = [] then (0, [], 3) else if 7 ≤ gi l 0 then (0, l.drop 1, 0) else (gi l 0, l.drop 1, 0)
theorem kind_any (w0 w : World) (g : Nat) (l : List Int) (h : PRP w0 w g l 0) :
    Calls Tryz.prog 181 #[.pointer (some ⟨g, 0, none⟩)] w (PRetP w0 w g (.int .i64 (kndP l).1) (kndP l).2.1 (kndP l).2.2) := by
  have c1 := rtake_anyI w0 w g l 0 1 (by omega) (by omega) h
  rw [show (1 : Int).toNat = 1 from rfl] at c1
  by_cases hl : l = []
  · subst hl
    rw [show tkP [] 0 1 = ([], [], 3) from rfl] at c1
    simp only at c1
    rw [show kndP [] = (0, [], 3) from rfl]
    have C1 := Lib.hid c1
    clear c1 h
    go_enter Tryz.func181, Tryz.ntmps181
    go_wp2_with fail
    refine C1.out.mono ?_
    rintro x w1 ⟨v1, ⟨rfl, h1, g1⟩, hr⟩
    obtain ⟨A1, k1, rfl, -⟩ := hr
    simp only [List.length_nil]
    go_wp2
    go_ret
    exact ⟨rfl, h1, g1⟩
  · have hl0 : 0 < l.length := List.length_pos_iff.2 hl
    have et : tkP l 0 1 = (l.take 1, l.drop 1, 0) := by unfold tkP; rw [if_pos rfl, if_neg (by omega)]
    rw [et] at c1
    simp only at c1
    have hl1 : (l.take 1).length = 1 := by rw [List.length_take]; omega
    have hg0 : gi (l.take 1) 0 = gi l 0 := by simp [gi]
    have ek : kndP l = if 7 ≤ gi l 0 then (0, l.drop 1, 0) else (gi l 0, l.drop 1, 0) := by unfold kndP; rw [if_neg hl]
    rw [ek]
    obtain ⟨y, hy⟩ : ∃ y, gi l 0 = y := ⟨_, rfl⟩
    rw [hy] at hg0 ⊢
    have C1 := Lib.hid c1
    have HG := Lib.hid hg0
    have HL := Lib.hid hl1
    clear c1 h et hy hg0 hl1 ek
    by_cases h7 : 7 ≤ y
    · rw [if_pos h7]
      go_enter Tryz.func181, Tryz.ntmps181
      go_wp2_with fail
      refine C1.out.mono ?_
      rintro x w1 ⟨v1, ⟨rfl, h1, g1⟩, hr⟩
      obtain ⟨A1, k1, rfl, hk1, hk2, -, hfit, h6⟩ := hr.ext h1.ext0
      rw [HL.out] at h6 hk1 ⊢
      obtain ⟨bl, o, rfl, hbl, hcell⟩ := h6 (by omega)
      have b0 := hcell 0 (by omega)
      have hb8 := hfit.u8 (gi_mem (l := l.take 1) (j := 0) (by rw [HL.out]; omega))
      rw [HG.out] at b0 hb8
      rw [Nat.add_zero] at b0
      have H1 := Lib.hid h1
      clear hcell h6 hfit hr h1
      unfold maxLen at hk2
      go_wp2
      go_ret
      exact ⟨rfl, H1.out, g1⟩
    · rw [if_neg h7]
      go_enter Tryz.func181, Tryz.ntmps181
      go_wp2_with fail
      refine C1.out.mono ?_
      rintro x w1 ⟨v1, ⟨rfl, h1, g1⟩, hr⟩
      obtain ⟨A1, k1, rfl, hk1, hk2, -, hfit, h6⟩ := hr.ext h1.ext0
      rw [HL.out] at h6 hk1 ⊢
      obtain ⟨bl, o, rfl, hbl, hcell⟩ := h6 (by omega)
      have b0 := hcell 0 (by omega)
      have hb8 := hfit.u8 (gi_mem (l := l.take 1) (j := 0) (by rw [HL.out]; omega))
      rw [HG.out] at b0 hb8
      rw [Nat.add_zero] at b0
      have H1 := Lib.hid h1
      clear hcell h6 hfit hr h1
      unfold maxLen at hk2
      go_wp2
      go_ret
      exact ⟨rfl, H1.out, g1⟩

theorem res_block {w w2 : World} {g : Nat} {o : Obj} (hlt : g < w.heap.size) (hg : (w.alloc o).grownBy w2 (some g)) : w2.heap[w.heap.size]? = some o ∧ w.grownBy w2 (some g) := by
  refine ⟨?_, grown_twoP' (ext_grownP ((Ext.refl w).alloc o) _) hg⟩
  rw [hg.block w.heap.size (by simp) (fun e => by injection e; omega), heap_alloc_new]

set_option maxRecDepth 100000 in
set_option maxHeartbeats 2000000 in
theorem none_any (w0 w : World) (g : Nat) (l : List Int) (e : Int) (h : PRP w0 w g l e) :
    Calls Tryz.prog 215 #[.pointer (some ⟨g, 0, none⟩)] w (PRetP w0 w g (.agg c0.vals) l (errP e 4)) := by
  have hlt := h.lt
  have hbs := h.base
  have h1 := h.ext ((Ext.refl w).alloc (.cells c0.vals 49))
  have hw := h.ext0.size
  have H1 := Lib.hid h1
  clear h1 h
  go_enter Tryz.func215, Tryz.ntmps215
  go_wp2_with fail
  refine (fail_any w0 _ g l e 4 (by exact H1.out)).mono ?_
  rintro x w2 ⟨rfl, h2, g2⟩
  obtain ⟨k1, g3⟩ := res_block hlt g2
  clear g2
  obtain ⟨y0, y1, y2, y3, y4, y5⟩ := At0.of (y := c0) k1
  have fz1 : ∀ j, w2.frozen? ⟨w.heap.size, j, none⟩ = false := fun j => by simp [World.frozen?, k1]
  have HR := Lib.hid h2
  have GR := Lib.hid g3
  simp only [c0] at y0 y1 y2 y3 y4 y5
  clear k1 h2
  go_wp2
  exact bodyPost_ret (v := .agg (Cst.vals c0)) (by unfold Cst.vals c0; simp [results, Tryz.results215, go_sem, y0, y1, y2, y3, y4, y5]; try rfl) rfl ⟨rfl, HR.out.six (by omega) (by omega) 0 _ _ _ _ _ _, grown_six GR.out (Nat.le_refl _) 0 _ _ _ _ _ _⟩

set_option maxRecDepth 100000 in
set_option maxHeartbeats 2000000 in
theorem num_any (w0 w : World) (g : Nat) (l : List Int) (e : Int) (h : PRP w0 w g l e) :
    Calls Tryz.prog 217 #[.pointer (some ⟨g, 0, none⟩)] w (PRetP w0 w g (.agg (Cst.vals ⟨0, .empty, (pS l e).1, 0, 0, 0⟩)) (pS l e).2.1 (pS l e).2.2) := by
  have hlt := h.lt
  have hbs := h.base
  have h1 := h.ext ((Ext.refl w).alloc (.cells c0.vals 49))
  have hw := h.ext0.size
  have c1 := numberS_any w0 _ g l e h1
  obtain ⟨⟨n, r, e1⟩, ht⟩ : ∃ t, t = pS l e := ⟨_, rfl⟩
  rw [← ht] at c1 ⊢
  simp only at c1 ⊢
  have C1 := Lib.hid c1
  clear h1 h ht c1
  go_enter Tryz.func217, Tryz.ntmps217
  go_wp2_with fail
  refine C1.out.mono ?_
  rintro x w2 ⟨rfl, h2, g2⟩
  obtain ⟨k1, g3⟩ := res_block hlt g2
  clear g2
  obtain ⟨y0, y1, y2, y3, y4, y5⟩ := At0.of (y := c0) k1
  have fz1 : ∀ j, w2.frozen? ⟨w.heap.size, j, none⟩ = false := fun j => by simp [World.frozen?, k1]
  have HR := Lib.hid h2
  have GR := Lib.hid g3
  simp only [c0] at y0 y1 y2 y3 y4 y5
  clear k1 h2
  go_wp2
  exact bodyPost_ret (v := .agg (Cst.vals ⟨0, .empty, n, 0, 0, 0⟩)) (by unfold Cst.vals; simp [results, Tryz.results217, go_sem, y0, y1, y2, y3, y4, y5]; try rfl) rfl ⟨rfl, HR.out.six (by omega) (by omega) 0 _ _ _ _ _ _, grown_six GR.out (Nat.le_refl _) 0 _ _ _ _ _ _⟩

set_option maxRecDepth 100000 in
set_option maxHeartbeats 2000000 in
theorem class_any (w0 w : World) (g : Nat) (l : List Int) (e : Int) (h : PRP w0 w g l e) :
    Calls Tryz.prog 218 #[.pointer (some ⟨g, 0, none⟩)] w (PRetP w0 w g (.agg (Cst.vals ⟨0, .empty, 0, (pU l e).1, 0, 0⟩)) (pU l e).2.1 (pU l e).2.2) := by
  have hlt := h.lt
  have hbs := h.base
  have h1 := h.ext ((Ext.refl w).alloc (.cells c0.vals 49))
  have hw := h.ext0.size
  have c1 := numberU_any w0 _ g l e h1
  obtain ⟨⟨n, r, e1⟩, ht⟩ : ∃ t, t = pU l e := ⟨_, rfl⟩
  rw [← ht] at c1 ⊢
  simp only at c1 ⊢
  have C1 := Lib.hid c1
  clear h1 h ht c1
  go_enter Tryz.func218, Tryz.ntmps218
  go_wp2_with fail
  refine C1.out.mono ?_
  rintro x w2 ⟨rfl, h2, g2⟩
  obtain ⟨k1, g3⟩ := res_block hlt g2
  clear g2
  obtain ⟨y0, y1, y2, y3, y4, y5⟩ := At0.of (y := c0) k1
  have fz1 : ∀ j, w2.frozen? ⟨w.heap.size, j, none⟩ = false := fun j => by simp [World.frozen?, k1]
  have HR := Lib.hid h2
  have GR := Lib.hid g3
  simp only [c0] at y0 y1 y2 y3 y4 y5
  clear k1 h2
  go_wp2
  exact bodyPost_ret (v := .agg (Cst.vals ⟨0, .empty, 0, n, 0, 0⟩)) (by unfold Cst.vals; simp [results, Tryz.results218, go_sem, y0, y1, y2, y3, y4, y5]; try rfl) rfl ⟨rfl, HR.out.six (by omega) (by omega) 0 _ _ _ _ _ _, grown_six GR.out (Nat.le_refl _) 0 _ _ _ _ _ _⟩

def memP (l : List Int) (e : Int) : Cst × List Int × Int :=
  (⟨0, .empty, 0, (pU l e).1, (pU (pU l e).2.1 (pU l e).2.2).1, (pU (pU (pU l e).2.1 (pU l e).2.2).2.1 (pU (pU l e).2.1 (pU l e).2.2).2.2).1⟩, (pU (pU (pU l e).2.1 (pU l e).2.2).2.1 (pU (pU l e).2.1 (pU l e).2.2).2.2).2)
set_option maxRecDepth 100000 in
set_option maxHeartbeats 2000000 in
theorem member_any (w0 w : World) (g : Nat) (l : List Int) (e : Int) (h : PRP w0 w g l e) :
    Calls Tryz.prog 219 #[.pointer (some ⟨g, 0, none⟩)] w (PRetP w0 w g (.agg (Cst.vals (memP l e).1)) (memP l e).2.1 (memP l e).2.2) := by
  have hlt := h.lt
  have hbs := h.base
  have h1 := h.ext ((Ext.refl w).alloc (.cells c0.vals 49))
  have hw := h.ext0.size
  have c1 := numberU_any w0 _ g l e h1
  unfold memP
  obtain ⟨⟨n1, r1, e1⟩, ht1⟩ : ∃ t, t = pU l e := ⟨_, rfl⟩
  rw [← ht1] at c1 ⊢
  simp only at c1 ⊢
  have c2 := fun W hW => numberU_any w0 W g r1 e1 hW
  obtain ⟨⟨n2, r2, e2⟩, ht2⟩ : ∃ t, t = pU r1 e1 := ⟨_, rfl⟩
  rw [← ht2] at c2 ⊢
  simp only at c2 ⊢
  have c3 := fun W hW => numberU_any w0 W g r2 e2 hW
  obtain ⟨⟨n3, r3, e3⟩, ht3⟩ : ∃ t, t = pU r2 e2 := ⟨_, rfl⟩
  rw [← ht3] at c3 ⊢
  simp only at c3 ⊢
  have C1 := Lib.hid c1
  have C2 := Lib.hid c2
  have C3 := Lib.hid c3
  clear h1 h ht1 ht2 ht3 c1 c2 c3
  go_enter Tryz.func219, Tryz.ntmps219
  go_wp2_with fail
  refine C1.out.mono ?_
  rintro x w2 ⟨rfl, h2, g2⟩
  go_wp2_with fail
  refine (C2.out _ (by exact h2)).mono ?_
  rintro x w3 ⟨rfl, h3, g3⟩
  go_wp2_with fail
  refine (C3.out _ (by exact h3)).mono ?_
  rintro x w4 ⟨rfl, h4, g4⟩
  obtain ⟨k1, g5⟩ := res_block hlt (grown_twoP' (grown_twoP' g2 g3) g4)
  clear g2 g3 g4 h2 h3
  obtain ⟨y0, y1, y2, y3, y4, y5⟩ := At0.of (y := c0) k1
  have fz1 : ∀ j, w4.frozen? ⟨w.heap.size, j, none⟩ = false := fun j => by simp [World.frozen?, k1]
  have HR := Lib.hid h4
  have GR := Lib.hid g5
  simp only [c0] at y0 y1 y2 y3 y4 y5
  clear k1 h4
  go_wp2
  exact bodyPost_ret (v := .agg (Cst.vals ⟨0, .empty, 0, n1, n2, n3⟩)) (by unfold Cst.vals; simp [results, Tryz.results219, go_sem, y0, y1, y2, y3, y4, y5]; try rfl) rfl ⟨rfl, HR.out.six (by omega) (by omega) 0 _ _ _ _ _ _, grown_six GR.out (Nat.le_refl _) 0 _ _ _ _ _ _⟩

end Go.Proofs.YtokmeomjdpfknaaGreatDoor
namespace Go.Proofs.YtokmeomjdpfknaaGreatDoor
theorem bulk_part {H : Type} {d : DataW H} {l : List (DataW H)} (h : d ∈ l) : Rows.uptoBulk d ≤ Rows.uptoBulkAll l := by
  induction l with
  | nil => cases h
  | cons x r ih =>
    simp only [Rows.uptoBulkAll]
    rcases List.mem_cons.1 h with rfl | h
    · omega
    · have := ih h
      omega
theorem bulk_bound {H : Type} {l : List (DataW H)} (hk : Rows.uptoSmall H l = true) : Rows.uptoBulkAll l ≤ 1048576 := of_decide_eq_true hk
end Go.Proofs.YtokmeomjdpfknaaGreatDoor
namespace Go.Proofs.YtokmeomjdpfknaaGreatDoor
open Go.RowKit Go.ChangeShapes Go.WideShapes Go.Deep
set_option linter.unusedVariables false

theorem list_of {Q : Nat → Cst → Prop} : ∀ (n : Nat), (∀ i, i < n → ∃ y, Q i y) → ∃ l : List Cst, l.length = n ∧ ∀ i, i < n → Q i (gc l i) := by
  intro n
  induction n with
  | zero => exact fun _ => ⟨[], rfl, fun i h => absurd h (Nat.not_lt_zero i)⟩
  | succ n ih =>
    intro h
    obtain ⟨l, hl, hq⟩ := ih (fun i hi => h i (by omega))
    obtain ⟨y, hy⟩ := h n (by omega)
    refine ⟨l ++ [y], by simp [hl], fun i hi => ?_⟩
    by_cases hin : i < n
    · have e : gc (l ++ [y]) i = gc l i := by simp [gc, List.getElem?_append_left (show i < l.length by omega)]
      rw [e]
      exact hq i hin
    · have e : gc (l ++ [y]) i = y := by
        have : i = l.length := by omega
        subst this
        simp [gc]
      rw [e, show i = n by omega]
      exact hy
theorem gc_of_mem {l : List Cst} {y : Cst} (h : y ∈ l) : ∃ i, i < l.length ∧ gc l i = y := by
  obtain ⟨i, hi, he⟩ := List.mem_iff_getElem.1 h
  exact ⟨i, hi, by simp [gc, hi, he]⟩

section
variable {H : Type} {enc : TypeId × Value → H} {w : World} {base : Nat} {spare : Nat → Bool} {held : Bool}
def datP (y : Cst) : DataW H := .agg [.lit (.int .i64 y.k), .lit (.string y.t.data.toList), .lit (.int .i64 y.n), .lit (.int .i64 y.a), .lit (.int .i64 y.b), .lit (.int .i64 y.c)]
theorem wf_I64P {x : Int} (h : (Lit.int .i64 x).wf = true) : I64 x := by
  simp [Lit.wf, IntKind.min, IntKind.max, IntKind.signed, IntKind.bits] at h
  exact ⟨by omega, by omega⟩
set_option maxRecDepth 100000 in
theorem open_const {fuel : Nat} {cs : List Value} {x : DataW H × List MemPlace} (h : DataW.trod enc Tryz.prog w base spare held fuel 49 cs = some x) :
    ∃ y : Cst, cs = y.vals.toList ∧ x.1 = datP y ∧ y.ok ∧ y.t.size ≤ maxLen := by
  obtain ⟨ys, n', hn', hy, hlen, hyl, hf⟩ := DataW.trod_struct Tryz.underlying49 h
  have hc : cs.length = 6 := hlen.trans (by kernel_rfl)
  have k3 : Tryz.prog.cellsOf 3 = 1 := by kernel_rfl
  have k9 : Tryz.prog.cellsOf 9 = 1 := by kernel_rfl
  match cs, hc with
  | [c0, c1, c2, c3, c4, c5], _ =>
    have hyl' : ys.length = 6 := hyl
    clear hyl
    match ys, hyl' with
    | [y0, y1, y2, y3, y4, y5], _ =>
      have h0 : DataW.trod enc Tryz.prog w base spare held n' 3 [c0] = some y0 := by simpa [k3, k9] using hf 0 _ rfl
      have h1 : DataW.trod enc Tryz.prog w base spare held n' 9 [c1] = some y1 := by simpa [k3, k9] using hf 1 _ rfl
      have h2 : DataW.trod enc Tryz.prog w base spare held n' 3 [c2] = some y2 := by simpa [k3, k9] using hf 2 _ rfl
      have h3 : DataW.trod enc Tryz.prog w base spare held n' 3 [c3] = some y3 := by simpa [k3, k9] using hf 3 _ rfl
      have h4 : DataW.trod enc Tryz.prog w base spare held n' 3 [c4] = some y4 := by simpa [k3, k9] using hf 4 _ rfl
      have h5 : DataW.trod enc Tryz.prog w base spare held n' 3 [c5] = some y5 := by simpa [k3, k9] using hf 5 _ rfl
      obtain ⟨x0, e0, r0, w0⟩ := DataW.trod_int Tryz.underlying3 h0
      obtain ⟨x1, e1, r1, w1⟩ := DataW.trod_string Tryz.underlying9 h1
      obtain ⟨x2, e2, r2, w2⟩ := DataW.trod_int Tryz.underlying3 h2
      obtain ⟨x3, e3, r3, w3⟩ := DataW.trod_int Tryz.underlying3 h3
      obtain ⟨x4, e4, r4, w4⟩ := DataW.trod_int Tryz.underlying3 h4
      obtain ⟨x5, e5, r5, w5⟩ := DataW.trod_int Tryz.underlying3 h5
      injection e0 with e0
      injection e1 with e1
      injection e2 with e2
      injection e3 with e3
      injection e4 with e4
      injection e5 with e5
      subst e0 e1 e2 e3 e4 e5 r0 r1 r2 r3 r4 r5
      exact ⟨⟨x0, x1, x2, x3, x4, x5⟩, rfl, by rw [hy]; rfl, ⟨wf_I64P w0, wf_I64P w2, wf_I64P w3, wf_I64P w4, wf_I64P w5⟩, w1⟩
theorem open_consts {fuel : Nat} {cs : List Value} {x : DataW H × List MemPlace} (h : DataW.trod enc Tryz.prog w base spare held fuel 22 cs = some x) :
    ∃ (A : Option Addr) (n c : Nat) (l : List Cst) (sp : List (DataW H)), cs = [.slice A n c] ∧ l.length = n ∧ RowC w (.slice A n c) l ∧ (∀ y ∈ l, y.t.size ≤ maxLen) ∧ ((l = [] ∧ x.1 = .nil) ∨ x.1 = .slice (l.map datP) sp) := by
  rcases open_slice Tryz.underlying22 h with ⟨rfl, rfl⟩ | ⟨a, len, cap, m, n, D, Pl, rfl, hb, hl, hm, hmm, rfl, hi⟩
  · exact ⟨none, 0, 0, [], [], rfl, rfl, RowC.nil w, (fun _ h => by cases h), .inl ⟨rfl, rfl⟩⟩
  · have hlm : len ≤ m := by rw [hmm]; split <;> omega
    have k6 : Tryz.prog.cellsOf 49 = 6 := by kernel_rfl
    obtain ⟨l, hll, hq⟩ := list_of (Q := fun i y => D i = datP y ∧ y.ok ∧ y.t.size ≤ maxLen ∧ ∀ j, j < 6 → w.cell? (a.add (i * 6 + j)) = y.vals[j]?) len (fun i hil => by
      obtain ⟨cs', hc, ht'⟩ := hi i (by omega)
      rw [k6] at hc
      obtain ⟨y, hv, hd, hok, hs⟩ := open_const ht'
      obtain ⟨_, hcl, hat⟩ := World.cells?_some hc
      refine ⟨y, hd, hok, hs, fun j hj => ?_⟩
      have := hat j hj
      rw [← Go.Deep.add_add, this, hv]
      simp)
    have hdat : (List.range len).map D = l.map datP := by
      apply List.ext_getElem
      · simp [hll]
      · intro i h1 h2
        have hi' : i < len := by simpa using h1
        have := (hq i hi').1
        simp [this, gc, show i < l.length by omega]
    refine ⟨some a, len, cap, l, _, rfl, hll, ⟨some a, cap, by rw [hll], by omega, hm, (fun h => by cases h), fun y hy => ?_, fun hp => ?_⟩, fun y hy => ?_, .inr (by rw [hdat])⟩
    · obtain ⟨i, hi', rfl⟩ := gc_of_mem hy
      exact (hq i (by omega)).2.1
    · have h0 := (hq 0 (by omega)).2.2.2 0 (by omega)
      obtain ⟨b, o, spot⟩ := a
      have hs : spot = none := by
        have h0' : w.cell? ((⟨b, o, spot⟩ : Addr).add (0 * 6 + 0)) = some (.int .i64 (gc l 0).k) := h0
        simpa [Addr.add] using World.cell?_spot h0'
      subst hs
      refine ⟨b, o, rfl, World.block_lt_of_cell? w ((⟨b, o, none⟩ : Addr).add (0 * 6 + 0)) h0, fun j hj => ?_⟩
      have hc := (hq j (by omega)).2.2.2
      have hx : ∀ f, f < 6 → w.cell? ⟨b, o + j * 6 + f, none⟩ = (gc l j).vals[f]? := fun f hf => by
        have := hc f hf
        rw [Addr.add_lit] at this
        rw [Nat.add_assoc]
        exact this
      exact ⟨hx 0 (by omega), hx 1 (by omega), hx 2 (by omega), hx 3 (by omega), hx 4 (by omega), hx 5 (by omega)⟩
    · obtain ⟨i, hi', rfl⟩ := gc_of_mem hy
      exact (hq i (by omega)).2.2.1
theorem dat_weightsP (y : Cst) : y.t.data.toList.length ∈ (datP y : DataW H).weights Tryz.prog 49 := by
  unfold datP
  rw [DataW.weights, Tryz.underlying49]
  simp [DataW.weightsEach, DataW.weights]
def tot (l : List Cst) : Nat := (l.map fun y => y.t.size + 1).sum
theorem bulk_dat (y : Cst) : y.t.size + 1 ≤ Rows.uptoBulk (datP y : DataW H) := by
  have e : y.t.size = y.t.data.toList.length := Lib.size_eq _
  unfold datP
  rw [e]
  simp only [Rows.uptoBulk, Rows.uptoBulkAll]
  omega
theorem bulk_consts (l : List Cst) (sp : List (DataW H)) : tot l ≤ Rows.uptoBulk (.slice (l.map datP) sp : DataW H) := by
  have h : tot l ≤ Rows.uptoBulkAll (l.map (datP : Cst → DataW H)) := by
    induction l with
    | nil => exact Nat.le_refl _
    | cons x l ih =>
      have e : tot (x :: l) = x.t.size + 1 + tot l := by simp [tot]
      have := bulk_dat (H := H) x
      rw [e, List.map_cons, Rows.uptoBulkAll]
      omega
  simp only [Rows.uptoBulk]
  omega
end
end Go.Proofs.YtokmeomjdpfknaaGreatDoor
namespace Go.Proofs.YtokmeomjdpfknaaGreatDoor
open Go.RowKit
set_option linter.unusedVariables false

theorem all_no {l : List Int} {p : Int → Bool} {k : Nat} (h : k < l.length) (hp : p (gi l k) = false) : l.all p = false := by
  rw [List.all_eq_false]
  exact ⟨_, gi_mem h, by rw [hp]; simp⟩
theorem all_next {l : List Int} {p : Int → Bool} {k : Nat} (h : k < l.length) (ha : (l.take k).all p = true) (hp : p (gi l k) = true) : (l.take (k + 1)).all p = true := by
  rw [take_one h, List.all_append, ha]
  simp [hp]
set_option maxHeartbeats 2000000 in
theorem allPlaces_any (v : Value) (l : List Int) (w : World) (h : Row w .i64 v l) :
    Calls Tryz.prog 277 #[v] w fun e w' => e = .returned (.bool (l.all (inR 0 8191))) ∧ Ext w w' := by
  have HR := Lib.hid h
  obtain ⟨A1, c1, rfl, hc1, hm1, ha1, hf1, hg1⟩ := h
  unfold maxLen at hm1
  obtain ⟨n, hn⟩ : ∃ n, n = l.length := ⟨_, rfl⟩
  rw [← hn] at hc1 hg1 HR ⊢
  have Hn := Lib.hid hn
  clear hn ha1 hf1 hg1
  go_enter Tryz.func277, Tryz.ntmps277
  go_wp2
  go_loopw [7] (fun i wr => ∃ k : Nat, k ≤ n ∧ i = .int .i64 k ∧ Hid (Ext w wr) ∧ Hid ((l.take k).all (inR 0 8191) = true)) (fun i _ => n - (intOf i).toNat)
  case atStart => exact ⟨0, by omega, rfl, Lib.hid (Ext.refl w), Lib.hid rfl⟩
  case round =>
    obtain ⟨k, hk, rfl, HX, Ht⟩ := hrel
    by_cases hlt : k < n
    · obtain ⟨A2, k2, hq, -, -, -, -, hg2⟩ := HR.out.ext HX.out
      injection hq with hq1 hq2 hq3
      subst hq1
      clear hq2 hq3
      obtain ⟨b1, o1, rfl, hb1, hx1⟩ := hg2 (by have := Hn.out; omega)
      have y0 := hx1 k (by have := Hn.out; omega)
      clear hx1 hg2
      by_cases he : inR 0 8191 (gi l k) = true
      · have HE := Lib.hid he
        clear he
        go_wp2_with (first
          | (go_at_call 274; refine (places_any _).mono ?_; rintro e w1 ⟨rfl, rfl⟩)
          | (go_at_call 275; refine (has_any _ _ _ _).mono ?_; rintro e w2 ⟨rfl, x2⟩; rw [HE.out]))
        go_roundw
        case rel => exact ⟨k + 1, by omega, by go_num, Lib.hid ((HX.out.alloc _).trans x2), Lib.hid (all_next (by have := Hn.out; omega) Ht.out HE.out)⟩
        case measure => simp [intOf]; omega
      · have HE := Lib.hid (show inR 0 8191 (gi l k) = false by simpa using he)
        clear he
        go_wp2_with (first
          | (go_at_call 274; refine (places_any _).mono ?_; rintro e w1 ⟨rfl, rfl⟩)
          | (go_at_call 275; refine (has_any _ _ _ _).mono ?_; rintro e w2 ⟨rfl, x2⟩; rw [HE.out]))
        go_ret
        exact ⟨ret_bb (all_no (by have := Hn.out; omega) HE.out).symm, (HX.out.alloc _).trans x2⟩
    · obtain rfl : k = n := by omega
      go_wp2
      go_ret
      have := Ht.out
      rw [Hn.out, List.take_length] at this
      exact ⟨ret_bb this.symm, HX.out⟩
end Go.Proofs.YtokmeomjdpfknaaGreatDoor
namespace Go.Proofs.YtokmeomjdpfknaaGreatDoor
open Go.RowKit
set_option linter.unusedVariables false

theorem boxed {w W : World} {x : In} {v1 v2 : Value} (e : Ext (w.alloc (.cells (x.vals v1 v2) 182)) W) :
    W.cell? ⟨w.heap.size, 0, none⟩ = some (.int .i64 x.a) ∧ W.cell? ⟨w.heap.size, 1, none⟩ = some (.int .i64 x.o) ∧ W.cell? ⟨w.heap.size, 2, none⟩ = some (.int .i64 x.n) ∧ W.cell? ⟨w.heap.size, 3, none⟩ = some (.int .i64 x.m) ∧ W.cell? ⟨w.heap.size, 4, none⟩ = some v1 ∧ W.cell? ⟨w.heap.size, 5, none⟩ = some v2 := by
  have hb := (e.block w.heap.size (by simp)).trans (heap_alloc_new w (.cells (x.vals v1 v2) 182))
  refine ⟨?_, ?_, ?_, ?_, ?_, ?_⟩ <;> rw [cell_of_row W w.heap.size _ _ _ (0, 0) hb] <;> rfl
def UpTo (l : List Int) (k : Nat) : Prop := ∀ j, j < k → isInt (gi l j) = true ∧ (0 < j → gi l (j - 1) < gi l j)
theorem rise_iff : ∀ (l : List Int), rise l = true ↔ UpTo l l.length
  | [] => ⟨fun _ j hj => by simp at hj, fun _ => rfl⟩
  | [k] => by
    constructor
    · intro h j hj
      have hj : j = 0 := by simpa using hj
      subst hj
      exact ⟨h, fun h => by omega⟩
    · intro h
      exact (h 0 (by simp)).1
  | k :: l :: r => by
    have ih := rise_iff (l :: r)
    rw [rise, Bool.and_eq_true, Bool.and_eq_true, decide_eq_true_eq, ih]
    constructor
    · rintro ⟨⟨h1, h2⟩, h3⟩ j hj
      match j, hj with
      | 0, _ => exact ⟨h1, fun h => by omega⟩
      | 1, _ => exact ⟨(h3 0 (by simp)).1, fun _ => h2⟩
      | j + 2, hj =>
        have := h3 (j + 1) (by simp at hj ⊢; omega)
        exact ⟨this.1, fun _ => this.2 (by omega)⟩
    · intro h
      refine ⟨⟨(h 0 (by simp)).1, (h 1 (by simp)).2 (by omega)⟩, fun j hj => ?_⟩
      have := h (j + 1) (by simp at hj ⊢; omega)
      refine ⟨this.1, fun h0 => ?_⟩
      obtain ⟨i, rfl⟩ : ∃ i, j = i + 1 := ⟨j - 1, by omega⟩
      exact this.2 (by omega)
theorem UpTo.next {l : List Int} {k : Nat} (h : UpTo l k) (h1 : isInt (gi l k) = true) (h2 : 0 < k → gi l (k - 1) < gi l k) : UpTo l (k + 1) := by
  intro j hj
  by_cases e : j = k
  · subst e
    exact ⟨h1, h2⟩
  · exact h j (by omega)
theorem inR_isInt (n : Int) : inR (-2147483648) 2147483647 n = isInt n := rfl
def numbersP (x : In) : Bool := if shapeZ x.o = 6 then isInt (x.n + x.to.length - 2) else true
def keysP (x : In) : Bool := if shapeZ x.o = 7 then decide (x.ks.length + 1 = x.to.length) && rise x.ks else decide (x.ks = [])
def mayP (x : In) : Bool := inOp x.o && inR 0 8191 x.a && inR (rnl (shapeZ x.o)) (rnh (shapeZ x.o)) x.n && inR (rml (shapeZ x.o)) (rmh (shapeZ x.o)) x.m && inR (rtl (shapeZ x.o)) (rth (shapeZ x.o)) x.to.length && x.to.all (inR 0 8191) && numbersP x && keysP x
theorem inR_zero {n : Int} : inR 0 0 n = decide (n = 0) := by unfold inR; rw [decide_eq_decide]; omega
theorem inR_len {l : List Int} : inR 0 0 (l.length : Int) = decide (l = []) := by
  rw [inR_zero, decide_eq_decide]
  cases l
  · simp
  · simp; omega
theorem all_mayTo {a : Int} {l : List Int} (h : 0 ≤ a ∧ a < 8192) : l.all (inR 0 8191) = l.all (mayTo a) := by
  congr 1
  funext t
  unfold inR mayTo
  rw [decide_eq_decide]
  omega
theorem mayP_eq (x : In) : mayP x = mayI x := by
  by_cases hp : 0 ≤ x.a ∧ x.a < 8192 ∧ 0 ≤ x.o ∧ x.o ≤ 89
  · have h1 : inOp x.o = true := by unfold inOp; simp; omega
    have h2 : inR 0 8191 x.a = true := by unfold inR; simp; omega
    unfold mayP mayI
    rw [h1, h2, decide_eq_true hp, all_mayTo (a := x.a) ⟨hp.1, hp.2.1⟩]
    clear h1 h2 hp
    obtain ⟨a, o, n, m, to, ks⟩ := x
    simp only
    unfold fieldsOk numbersP keysP
    simp only
    obtain ⟨z, hz⟩ : ∃ z, z = shapeZ o := ⟨_, rfl⟩
    have hz7 := shapeZ_le o
    rw [← hz] at hz7 ⊢
    have hc : z = 0 ∨ z = 1 ∨ z = 2 ∨ z = 3 ∨ z = 4 ∨ z = 5 ∨ z = 6 ∨ z = 7 := by omega
    clear hz hz7
    generalize to.all (mayTo a) = T
    have hkr : ks = [] → rise ks = true := fun e => by rw [e]; rfl
    have hlen : ((to.length : Int) = 0) ↔ to = [] := by cases to <;> simp <;> omega
    rcases hc with rfl | rfl | rfl | rfl | rfl | rfl | rfl | rfl
    all_goals
      simp only [rnl, rnh, rml, rmh, rtl, rth, inR, isInt]
      rw [Bool.eq_iff_iff]
      simp only [Bool.and_eq_true, decide_eq_true_eq, Bool.true_and]
      simp
      first | omega | (constructor <;> intro h <;> simp_all <;> omega) | (constructor <;> intro h <;> simp_all)
  · have h1 : mayI x = false := by unfold mayI; rw [decide_eq_false hp]; rfl
    rw [h1]
    unfold mayP
    have h2 : (inOp x.o && inR 0 8191 x.a) = false := by
      unfold inOp inR
      rw [Bool.and_eq_false_iff, decide_eq_false_iff_not, decide_eq_false_iff_not]
      omega
    rw [h2]
    rfl
end Go.Proofs.YtokmeomjdpfknaaGreatDoor
