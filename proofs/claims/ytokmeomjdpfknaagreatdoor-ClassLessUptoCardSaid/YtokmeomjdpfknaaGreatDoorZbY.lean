/- Several texts of this proof, one behind the other. -/
import Derived.Test.YtokmeomjdpfknaaGreatDoorZbX
import Derived.Test.YtokmeomjdpfknaaGreatDoorZbV
import Derived.Test.YtokmeomjdpfknaaGreatDoorZbL
import Derived.Test.YtokmeomjdpfknaaGreatDoorZbW
import Derived.Test.YtokmeomjdpfknaaGreatDoorZbQ
import Derived.Test.YtokmeomjdpfknaaGreatDoorZbM
namespace Go.Proofs.YtokmeomjdpfknaaGreatDoor
open Go.RowKit
set_option linter.unusedVariables false

def Way (w0 w : World) (g : Nat) (k : Int) (l : List Int) (e : Int) (x : Ending) (w' : World) : Prop :=
  ∃ y m e2, x = .returned (.agg (Cst.vals y)) ∧ PRP w0 w' g m e2 ∧ w.grownBy w' (some g) ∧ Hid ((y, m, e2) = wayP k l e)

theorem way_0 (w0 w : World) (g : Nat) (l : List Int) (e : Int) (h : PRP w0 w g l e) (hl : l.length + 4 ≤ 140737488355328) : Calls Tryz.prog 215 #[.pointer (some ⟨g, 0, none⟩)] w (Way w0 w g 0 l e) :=
  (none_any w0 w g l e h).mono fun x w' ⟨h1, h2, h3⟩ => ⟨_, _, _, h1, h2, h3, by simp [Hid, wayP]⟩
theorem way_1 (w0 w : World) (g : Nat) (l : List Int) (e : Int) (h : PRP w0 w g l e) (hl : l.length + 4 ≤ 140737488355328) : Calls Tryz.prog 216 #[.pointer (some ⟨g, 0, none⟩)] w (Way w0 w g 1 l e) :=
  (rtext_any w0 w g l e h hl).mono fun x w' ⟨h1, h2, h3⟩ => ⟨_, _, _, h1, h2, h3, by simp [Hid, wayP]⟩
theorem way_2 (w0 w : World) (g : Nat) (l : List Int) (e : Int) (h : PRP w0 w g l e) (hl : l.length + 4 ≤ 140737488355328) : Calls Tryz.prog 217 #[.pointer (some ⟨g, 0, none⟩)] w (Way w0 w g 2 l e) :=
  (num_any w0 w g l e h).mono fun x w' ⟨h1, h2, h3⟩ => ⟨_, _, _, h1, h2, h3, by simp [Hid, wayP]⟩
theorem way_3 (w0 w : World) (g : Nat) (l : List Int) (e : Int) (h : PRP w0 w g l e) (hl : l.length + 4 ≤ 140737488355328) : Calls Tryz.prog 217 #[.pointer (some ⟨g, 0, none⟩)] w (Way w0 w g 3 l e) :=
  (num_any w0 w g l e h).mono fun x w' ⟨h1, h2, h3⟩ => ⟨_, _, _, h1, h2, h3, by simp [Hid, wayP]⟩
theorem way_4 (w0 w : World) (g : Nat) (l : List Int) (e : Int) (h : PRP w0 w g l e) (hl : l.length + 4 ≤ 140737488355328) : Calls Tryz.prog 218 #[.pointer (some ⟨g, 0, none⟩)] w (Way w0 w g 4 l e) :=
  (class_any w0 w g l e h).mono fun x w' ⟨h1, h2, h3⟩ => ⟨_, _, _, h1, h2, h3, by simp [Hid, wayP]⟩
theorem way_5 (w0 w : World) (g : Nat) (l : List Int) (e : Int) (h : PRP w0 w g l e) (hl : l.length + 4 ≤ 140737488355328) : Calls Tryz.prog 219 #[.pointer (some ⟨g, 0, none⟩)] w (Way w0 w g 5 l e) :=
  (member_any w0 w g l e h).mono fun x w' ⟨h1, h2, h3⟩ => ⟨_, _, _, h1, h2, h3, by simp [Hid, wayP]⟩
theorem way_6 (w0 w : World) (g : Nat) (l : List Int) (e : Int) (h : PRP w0 w g l e) (hl : l.length + 4 ≤ 140737488355328) : Calls Tryz.prog 219 #[.pointer (some ⟨g, 0, none⟩)] w (Way w0 w g 6 l e) :=
  (member_any w0 w g l e h).mono fun x w' ⟨h1, h2, h3⟩ => ⟨_, _, _, h1, h2, h3, by simp [Hid, wayP]⟩
theorem kndP_rng {l : List Int} (hf : Fit .u8 l) : (kndP l).1 = 0 ∨ (kndP l).1 = 1 ∨ (kndP l).1 = 2 ∨ (kndP l).1 = 3 ∨ (kndP l).1 = 4 ∨ (kndP l).1 = 5 ∨ (kndP l).1 = 6 := by
  have hg := hf.gi 0
  unfold kndP
  split
  · exact .inl rfl
  · split
    · exact .inl rfl
    · simp only
      omega
theorem kndP_le (l : List Int) : (kndP l).2.1.length ≤ l.length := by
  unfold kndP
  split
  · exact Nat.zero_le _
  · split
    · simp
    · simp
def Read (p : List Int) (N k : Nat) (m : List Cst) (pl : List Int) (e : Int) : Prop :=
  m.length = N ∧ e = (rdList p 0 k).2.2 ∧ (e = 0 → pl = (rdList p 0 k).2.1 ∧ m.take k = (rdList p 0 k).1.take N)
theorem read_first (p : List Int) (N : Nat) : Read p N 1 (List.replicate N c0) p 0 := by
  unfold Read
  rw [rdList_first]
  refine ⟨by simp, rfl, fun _ => ⟨rfl, ?_⟩⟩
  match N with
  | 0 => simp
  | N + 1 => simp [List.replicate_succ]
theorem read_next {p : List Int} (hf : Fit .u8 p) {N k : Nat} (hk1 : 1 ≤ k) (hk : k < N) {m : List Cst} {pl : List Int} (h : Read p N k m pl 0) {y : Cst} {l2 : List Int} {e2 : Int}
    (hw : (y, l2, e2) = wayP (kndP pl).1 (kndP pl).2.1 (kndP pl).2.2) : Read p N (k + 1) (m.set k { y with k := (kndP pl).1 }) l2 e2 := by
  obtain ⟨h1, h2, h3⟩ := h
  obtain ⟨h4, h5⟩ := h3 rfl
  have hl := rdList_len h2.symm
  have hn := rdList_next hk1 h2.symm
  obtain ⟨s1, s2⟩ := oneP_rd (hf.suf (rdList_suf p 0 k))
  have ho : oneP pl = ({ y with k := (kndP pl).1 }, l2, e2) := by unfold oneP; rw [← hw]
  rw [← h4, ho] at s1 s2
  rw [← h4] at hn
  unfold Read
  rw [hn]
  refine ⟨by rw [List.length_set]; exact h1, s1, fun he => ?_⟩
  have s3 := s2 (s1.symm.trans he)
  have s4 : (rdOne pl).1 = { y with k := (kndP pl).1 } := by rw [← s3]
  have s5 : (rdOne pl).2.1 = l2 := by rw [← s3]
  refine ⟨s5.symm, ?_⟩
  rw [set_take _ (by omega), h5, List.take_of_length_le (by omega)]
  simp only
  rw [List.take_of_length_le (by rw [List.length_append, List.length_singleton]; omega), s4]
theorem read_end {p : List Int} {N k : Nat} (hk : ¬ k < N) (hk2 : k ≤ max N 1) (hk1 : 1 ≤ k) {m : List Cst} {pl : List Int} (h : Read p N k m pl 0) : (rdList p 0 N).2.2 = 0 ∧ m = (rdList p 0 N).1 ∧ (0 < N → pl = (rdList p 0 N).2.1) := by
  obtain ⟨h1, h2, h3⟩ := h
  obtain ⟨h4, h5⟩ := h3 rfl
  rw [List.take_of_length_le (by omega)] at h5
  match N with
  | 0 => exact ⟨rfl, by rw [h5]; simp [rdList], fun h => absurd h (by omega)⟩
  | N + 1 =>
    have : k = N + 1 := by omega
    subst this
    refine ⟨h2.symm, ?_, fun _ => h4⟩
    rw [h5, List.take_of_length_le (by rw [rdList_len h2.symm]; omega)]
theorem read_err {p : List Int} {N k : Nat} (hk1 : 1 ≤ k) (hk2 : k ≤ max N 1) {m : List Cst} {pl : List Int} {e : Int} (h : Read p N k m pl e) (he : ¬ e = 0) : (rdList p 0 N).2.2 = e ∧ 0 < N := by
  obtain ⟨h1, h2, h3⟩ := h
  have h0 : 0 < N := by
    by_cases h0 : 0 < N
    · exact h0
    · have : k = 1 := by omega
      subst this
      rw [rdList_first] at h2
      exact absurd h2 he
  refine ⟨?_, h0⟩
  rw [rdList_past (k := k) (by rw [← h2]; exact he) N (by omega)]
  exact h2.symm
def WaysAt (w : World) (r : Nat) : Prop := w.heap[r]? = some (.cells ways 218 (0, 0))
theorem WaysAt.cells {w : World} {r : Nat} (h : WaysAt w r) : ∀ j, w.cell? ⟨r, j, none⟩ = ways[j]? := fun j => cell_of_row w r j ways _ (0, 0) h
theorem WaysAt.kept {w w' : World} {r : Nat} {q : Option Nat} (h : WaysAt w r) (hw : w.grownBy w' q) (hr : q ≠ some r) : WaysAt w' r := (hw.block r (lt_of_get h) (fun e => hr e.symm)).trans h

set_option maxRecDepth 100000 in
set_option maxHeartbeats 8000000 in
theorem Parse_any (v : Value) (b : List Int) (w : World) (h : Row w .u8 v b) (hT : Tabs w) (hl : b.length ≤ 140737488351232) :
    Calls Tryz.prog 144 #[v] w (Ret w (ParseAns w.heap.size b)) := by
  have hfit := h.fit
  obtain ⟨A0, cc0, hv0, -⟩ := id h
  have hrow := h
  rw [hv0] at hrow ⊢
  have hpr : PRP w (w.alloc (.cells #[.slice A0 b.length cc0, .int .i64 0] 216)) w.heap.size b 0 := ⟨_, heap_alloc_new w _, hrow, (Ext.refl w).alloc _, Nat.le_refl _⟩
  obtain ⟨q1, q2, q3⟩ := cnt_rd b
  have hcnt := fun W hW => count_any w W w.heap.size b hW
  have hpos : 0 ≤ (cntP b).1 := by
    by_cases hz : cntZ b = 0
    · rw [(q2 hz).1]
      have := (rdU_rng b 0).1
      unfold rdU at this
      rw [if_pos rfl] at this
      exact this
    · rw [q3 hz]
      decide
  obtain ⟨N, hN⟩ : ∃ N : Nat, (cntP b).1 = N := ⟨(cntP b).1.toNat, by omega⟩
  obtain ⟨M, hM, hmk⟩ := run_mkC N (by
    by_cases hz : cntZ b = 0
    · have := q2 hz
      rw [this.1] at hN
      simp only at hN
      omega
    · have := q3 hz
      omega)
  have hLC : ∀ W : World, LC (W.alloc (.cells M 49)) W.heap.size (List.replicate N c0) := fun W => ⟨M, heap_alloc_new W _, hM⟩
  rw [hN] at hcnt
  have HPR := Lib.hid hpr
  have HCNT := Lib.hid hcnt
  have HLC := Lib.hid hLC
  have HFIT := Lib.hid hfit
  have HROW := Lib.hid hrow
  by_cases hz : cntZ b = 0
  · obtain ⟨qq, q4⟩ := q2 hz
    have hNz : (tU b).1.toNat = N := by
      rw [qq] at hN
      simp only at hN
      omega
    have hmZ : manyZ b = rdList (tU b).2.1 0 N := by unfold manyZ; rw [hz, hNz]
    have hcz : (cntP b).2 = ((tU b).2.1, 0) := by rw [qq]
    have hps := tU_suf b
    obtain ⟨p, hp⟩ : ∃ p, p = (tU b).2.1 := ⟨_, rfl⟩
    rw [← hp] at hmZ hcz hps
    have hpl := hps.length_le
    have hpf := hfit.suf hps
    have hall := many_all hfit
    have HMZ := Lib.hid hmZ
    have HCZ := Lib.hid hcz
    have HPF := Lib.hid hpf
    have HALL := Lib.hid hall
    have hN4 : N ≤ 4096 := by omega
    clear q1 q2 q3 hpr hcnt hM hLC hfit hrow hN hNz qq q4 hmZ hcz hp hps hpf hall hv0 h hpos hz
    go_enter Tryz.func144, Tryz.ntmps144
    go_wp2_with fail
    refine (byKind_any _).mono ?_
    rintro x w1 ⟨rfl, x1⟩
    have h1 := HPR.out.ext x1
    have WA : WaysAt (w1.alloc (.cells ways 218)) w1.heap.size := heap_alloc_new _ _
    have H1 := Lib.hid (h1.ext ((Ext.refl _).alloc (.cells ways 218)))
    have WA1 := Lib.hid WA
    have hg1 := h1.lt
    unfold ways at H1 WA1 ⊢
    clear h1 WA
    go_wp2_with fail
    refine (HCNT.out _ H1.out).mono ?_
    rintro x w2 ⟨rfl, h2, g2⟩
    rw [HCZ.out] at h2
    simp only at h2
    have hgl : w.heap.size ≤ w2.heap.size := h2.ext0.size
    have hlt2 := h2.lt
    have hgw : w1.heap.size + 1 ≤ w2.heap.size := by have := g2.size; simpa using this
    have hne1 : (some w.heap.size : Option Nat) ≠ some w2.heap.size := fun e => by injection e; omega
    have hne2 : (some w.heap.size : Option Nat) ≠ some w1.heap.size := fun e => by injection e; omega
    have hne3 : w2.heap.size ≠ w.heap.size := by omega
    have hne4 : (some w2.heap.size : Option Nat) ≠ some w1.heap.size := fun e => by injection e; omega
    have H2 := Lib.hid (h2.ext ((Ext.refl _).alloc (.cells M 49)))
    have L2 := Lib.hid (HLC.out w2)
    have WA2 : Hid (WaysAt (w2.alloc (.cells M 49)) w1.heap.size) := (WaysAt.kept WA1.out g2 hne2).kept (ext_grownP ((Ext.refl _).alloc _) none) (fun e => by cases e)
    clear h2 g2 H1 WA1 HPR
    go_wp2
    go_loopw [7] (fun i wr => ∃ (k : Nat) (m : List Cst) (pl : List Int) (e : Int), i = .int .i64 k ∧ 1 ≤ k ∧ k ≤ max N 1 ∧ Hid (Read p N k m pl e) ∧ Hid (PRP w wr w.heap.size pl e) ∧ Hid (LC wr w2.heap.size m) ∧ Hid (WaysAt wr w1.heap.size)) (fun i _ => N + 1 - (intOf i).toNat)
    case atStart => exact ⟨1, _, p, 0, rfl, by omega, by omega, read_first p N, H2.out, L2.out, WA2.out⟩
    case round =>
      clear H2 L2 WA2 hmk
      obtain ⟨k, m, pl, e, rfl, hk1, hk2, HRD, HP, HL, HWA⟩ := hrel
      obtain ⟨A4, c4, -, -, -, b0, b1, f0, f1⟩ := HP.out.cells
      have hmN : m.length = N := HRD.out.1
      by_cases hkN : k < N
      · by_cases he : e = 0
        · subst he
          have hsuf : pl <:+ p := by rw [(HRD.out.2.2 rfl).1]; exact rdList_suf p 0 k
          have hpl2 := hsuf.length_le
          have hkr := kndP_rng (HPF.out.suf hsuf)
          have hkl := kndP_le pl
          have ck := kind_any w wr w.heap.size pl HP.out
          obtain ⟨⟨kk, l1, e1⟩, hkn⟩ : ∃ t, kndP pl = t := ⟨_, rfl⟩
          rw [hkn] at ck hkr hkl
          simp only at ck hkr hkl
          have HKN := Lib.hid hkn
          have CK := Lib.hid ck
          have hl1 : l1.length + 4 ≤ 140737488355328 := by omega
          clear hkn ck hsuf hpl2 hkl b0 f0 f1
          go_wp2_with fail
          refine CK.out.mono ?_
          rintro x w4 ⟨rfl, h4, g4⟩
          have HL4 := Lib.hid (HL.out.kept g4 hne1)
          have WA4 := Lib.hid (HWA.out.kept g4 hne2)
          have H4 := Lib.hid h4
          clear h4 g4
          rcases hkr with rfl | rfl | rfl | rfl | rfl | rfl | rfl
          · have y_0 : w4.cell? ⟨w1.heap.size, 0, none⟩ = some (.func (.func 215) #[] #[]) := WA4.out.cells 0
            have c5 := way_0 w w4 w.heap.size l1 e1 H4.out hl1
            have C5 := Lib.hid c5
            clear c5
            go_wp2_with fail
            refine C5.out.mono ?_
            rintro x w5 ⟨⟨yk, yt, yn, ya, yb, yc⟩, l2, e2, rfl, h5, g5, HE⟩
            have HL5 := Lib.hid (HL4.out.kept g5 hne1)
            have WA5 := Lib.hid (WA4.out.kept g5 hne2)
            have H5 := Lib.hid h5
            obtain ⟨a0, a1, a2, a3, a4, a5⟩ := HL5.out.cells (j := k) (by omega)
            have fz := HL5.out.frozen
            clear h5 g5
            unfold Cst.vals
            go_wp2
            go_roundw
            case rel =>
              exact ⟨k + 1, _, l2, e2, by go_num, by omega, by omega, read_next HPF.out hk1 hkN HRD.out (by rw [HKN.out]; exact HE.out),
                (H5.out.six hne3 hgl (k * 6) _ _ _ _ _ _).set_o (q := ⟨w2.heap.size, k * 6, none⟩) hne3 hgl _,
                by rw [HKN.out]; exact HL5.out.put (by omega) ⟨yk, yt, yn, ya, yb, yc⟩ 0,
                WA5.out.kept (only_set (only_set (only_set (only_set (only_set (only_set (only_set (World.grownBy.refl w5 (some w2.heap.size)) _ _) _ _) _ _) _ _) _ _) _ _) _ _) hne4⟩
            case measure => simp [intOf]; omega
          · have y_1 : w4.cell? ⟨w1.heap.size, 1, none⟩ = some (.func (.func 216) #[] #[]) := WA4.out.cells 1
            have c5 := way_1 w w4 w.heap.size l1 e1 H4.out hl1
            have C5 := Lib.hid c5
            clear c5
            go_wp2_with fail
            refine C5.out.mono ?_
            rintro x w5 ⟨⟨yk, yt, yn, ya, yb, yc⟩, l2, e2, rfl, h5, g5, HE⟩
            have HL5 := Lib.hid (HL4.out.kept g5 hne1)
            have WA5 := Lib.hid (WA4.out.kept g5 hne2)
            have H5 := Lib.hid h5
            obtain ⟨a0, a1, a2, a3, a4, a5⟩ := HL5.out.cells (j := k) (by omega)
            have fz := HL5.out.frozen
            clear h5 g5
            unfold Cst.vals
            go_wp2
            go_roundw
            case rel =>
              exact ⟨k + 1, _, l2, e2, by go_num, by omega, by omega, read_next HPF.out hk1 hkN HRD.out (by rw [HKN.out]; exact HE.out),
                (H5.out.six hne3 hgl (k * 6) _ _ _ _ _ _).set_o (q := ⟨w2.heap.size, k * 6, none⟩) hne3 hgl _,
                by rw [HKN.out]; exact HL5.out.put (by omega) ⟨yk, yt, yn, ya, yb, yc⟩ 1,
                WA5.out.kept (only_set (only_set (only_set (only_set (only_set (only_set (only_set (World.grownBy.refl w5 (some w2.heap.size)) _ _) _ _) _ _) _ _) _ _) _ _) _ _) hne4⟩
            case measure => simp [intOf]; omega
          · have y_2 : w4.cell? ⟨w1.heap.size, 2, none⟩ = some (.func (.func 217) #[] #[]) := WA4.out.cells 2
            have c5 := way_2 w w4 w.heap.size l1 e1 H4.out hl1
            have C5 := Lib.hid c5
            clear c5
            go_wp2_with fail
            refine C5.out.mono ?_
            rintro x w5 ⟨⟨yk, yt, yn, ya, yb, yc⟩, l2, e2, rfl, h5, g5, HE⟩
            have HL5 := Lib.hid (HL4.out.kept g5 hne1)
            have WA5 := Lib.hid (WA4.out.kept g5 hne2)
            have H5 := Lib.hid h5
            obtain ⟨a0, a1, a2, a3, a4, a5⟩ := HL5.out.cells (j := k) (by omega)
            have fz := HL5.out.frozen
            clear h5 g5
            unfold Cst.vals
            go_wp2
            go_roundw
            case rel =>
              exact ⟨k + 1, _, l2, e2, by go_num, by omega, by omega, read_next HPF.out hk1 hkN HRD.out (by rw [HKN.out]; exact HE.out),
                (H5.out.six hne3 hgl (k * 6) _ _ _ _ _ _).set_o (q := ⟨w2.heap.size, k * 6, none⟩) hne3 hgl _,
                by rw [HKN.out]; exact HL5.out.put (by omega) ⟨yk, yt, yn, ya, yb, yc⟩ 2,
                WA5.out.kept (only_set (only_set (only_set (only_set (only_set (only_set (only_set (World.grownBy.refl w5 (some w2.heap.size)) _ _) _ _) _ _) _ _) _ _) _ _) _ _) hne4⟩
            case measure => simp [intOf]; omega
          · have y_3 : w4.cell? ⟨w1.heap.size, 3, none⟩ = some (.func (.func 217) #[] #[]) := WA4.out.cells 3
            have c5 := way_3 w w4 w.heap.size l1 e1 H4.out hl1
            have C5 := Lib.hid c5
            clear c5
            go_wp2_with fail
            refine C5.out.mono ?_
            rintro x w5 ⟨⟨yk, yt, yn, ya, yb, yc⟩, l2, e2, rfl, h5, g5, HE⟩
            have HL5 := Lib.hid (HL4.out.kept g5 hne1)
            have WA5 := Lib.hid (WA4.out.kept g5 hne2)
            have H5 := Lib.hid h5
            obtain ⟨a0, a1, a2, a3, a4, a5⟩ := HL5.out.cells (j := k) (by omega)
            have fz := HL5.out.frozen
            clear h5 g5
            unfold Cst.vals
            go_wp2
            go_roundw
            case rel =>
              exact ⟨k + 1, _, l2, e2, by go_num, by omega, by omega, read_next HPF.out hk1 hkN HRD.out (by rw [HKN.out]; exact HE.out),
                (H5.out.six hne3 hgl (k * 6) _ _ _ _ _ _).set_o (q := ⟨w2.heap.size, k * 6, none⟩) hne3 hgl _,
                by rw [HKN.out]; exact HL5.out.put (by omega) ⟨yk, yt, yn, ya, yb, yc⟩ 3,
                WA5.out.kept (only_set (only_set (only_set (only_set (only_set (only_set (only_set (World.grownBy.refl w5 (some w2.heap.size)) _ _) _ _) _ _) _ _) _ _) _ _) _ _) hne4⟩
            case measure => simp [intOf]; omega
          · have y_4 : w4.cell? ⟨w1.heap.size, 4, none⟩ = some (.func (.func 218) #[] #[]) := WA4.out.cells 4
            have c5 := way_4 w w4 w.heap.size l1 e1 H4.out hl1
            have C5 := Lib.hid c5
            clear c5
            go_wp2_with fail
            refine C5.out.mono ?_
            rintro x w5 ⟨⟨yk, yt, yn, ya, yb, yc⟩, l2, e2, rfl, h5, g5, HE⟩
            have HL5 := Lib.hid (HL4.out.kept g5 hne1)
            have WA5 := Lib.hid (WA4.out.kept g5 hne2)
            have H5 := Lib.hid h5
            obtain ⟨a0, a1, a2, a3, a4, a5⟩ := HL5.out.cells (j := k) (by omega)
            have fz := HL5.out.frozen
            clear h5 g5
            unfold Cst.vals
            go_wp2
            go_roundw
            case rel =>
              exact ⟨k + 1, _, l2, e2, by go_num, by omega, by omega, read_next HPF.out hk1 hkN HRD.out (by rw [HKN.out]; exact HE.out),
                (H5.out.six hne3 hgl (k * 6) _ _ _ _ _ _).set_o (q := ⟨w2.heap.size, k * 6, none⟩) hne3 hgl _,
                by rw [HKN.out]; exact HL5.out.put (by omega) ⟨yk, yt, yn, ya, yb, yc⟩ 4,
                WA5.out.kept (only_set (only_set (only_set (only_set (only_set (only_set (only_set (World.grownBy.refl w5 (some w2.heap.size)) _ _) _ _) _ _) _ _) _ _) _ _) _ _) hne4⟩
            case measure => simp [intOf]; omega
          · have y_5 : w4.cell? ⟨w1.heap.size, 5, none⟩ = some (.func (.func 219) #[] #[]) := WA4.out.cells 5
            have c5 := way_5 w w4 w.heap.size l1 e1 H4.out hl1
            have C5 := Lib.hid c5
            clear c5
            go_wp2_with fail
            refine C5.out.mono ?_
            rintro x w5 ⟨⟨yk, yt, yn, ya, yb, yc⟩, l2, e2, rfl, h5, g5, HE⟩
            have HL5 := Lib.hid (HL4.out.kept g5 hne1)
            have WA5 := Lib.hid (WA4.out.kept g5 hne2)
            have H5 := Lib.hid h5
            obtain ⟨a0, a1, a2, a3, a4, a5⟩ := HL5.out.cells (j := k) (by omega)
            have fz := HL5.out.frozen
            clear h5 g5
            unfold Cst.vals
            go_wp2
            go_roundw
            case rel =>
              exact ⟨k + 1, _, l2, e2, by go_num, by omega, by omega, read_next HPF.out hk1 hkN HRD.out (by rw [HKN.out]; exact HE.out),
                (H5.out.six hne3 hgl (k * 6) _ _ _ _ _ _).set_o (q := ⟨w2.heap.size, k * 6, none⟩) hne3 hgl _,
                by rw [HKN.out]; exact HL5.out.put (by omega) ⟨yk, yt, yn, ya, yb, yc⟩ 5,
                WA5.out.kept (only_set (only_set (only_set (only_set (only_set (only_set (only_set (World.grownBy.refl w5 (some w2.heap.size)) _ _) _ _) _ _) _ _) _ _) _ _) _ _) hne4⟩
            case measure => simp [intOf]; omega
          · have y_6 : w4.cell? ⟨w1.heap.size, 6, none⟩ = some (.func (.func 219) #[] #[]) := WA4.out.cells 6
            have c5 := way_6 w w4 w.heap.size l1 e1 H4.out hl1
            have C5 := Lib.hid c5
            clear c5
            go_wp2_with fail
            refine C5.out.mono ?_
            rintro x w5 ⟨⟨yk, yt, yn, ya, yb, yc⟩, l2, e2, rfl, h5, g5, HE⟩
            have HL5 := Lib.hid (HL4.out.kept g5 hne1)
            have WA5 := Lib.hid (WA4.out.kept g5 hne2)
            have H5 := Lib.hid h5
            obtain ⟨a0, a1, a2, a3, a4, a5⟩ := HL5.out.cells (j := k) (by omega)
            have fz := HL5.out.frozen
            clear h5 g5
            unfold Cst.vals
            go_wp2
            go_roundw
            case rel =>
              exact ⟨k + 1, _, l2, e2, by go_num, by omega, by omega, read_next HPF.out hk1 hkN HRD.out (by rw [HKN.out]; exact HE.out),
                (H5.out.six hne3 hgl (k * 6) _ _ _ _ _ _).set_o (q := ⟨w2.heap.size, k * 6, none⟩) hne3 hgl _,
                by rw [HKN.out]; exact HL5.out.put (by omega) ⟨yk, yt, yn, ya, yb, yc⟩ 6,
                WA5.out.kept (only_set (only_set (only_set (only_set (only_set (only_set (only_set (World.grownBy.refl w5 (some w2.heap.size)) _ _) _ _) _ _) _ _) _ _) _ _) _ _) hne4⟩
            case measure => simp [intOf]; omega
        · obtain ⟨r1, r0⟩ := read_err hk1 hk2 HRD.out he
          have hEZ : errZ b = e := by
            unfold errZ
            rw [HMZ.out, r1]
            exact if_neg he
          have HEZ := Lib.hid hEZ
          have heb : (e == 0) = false := by simpa using he
          have heb2 : (e != 0) = true := by simpa using he
          clear hEZ r1
          go_wp2
          go_region
          go_wp2
          go_ret3
          exact Ret.mk (parse_err HEZ.out he _ _) HP.out.ext0.drew
      · by_cases he : e = 0
        · subst he
          obtain ⟨r1, r2, r3⟩ := read_end hkN hk2 hk1 HRD.out
          have hM1 : m = (manyZ b).1 := by rw [HMZ.out]; exact r2
          have hall := HALL.out
          have hEZ : errZ b = checkC m := by
            unfold errZ
            rw [hM1, HMZ.out, r1]
            exact if_pos rfl
          have hok : ∀ x ∈ m, x.ok := fun x hx => (hall.1 x (by rw [← hM1]; exact hx)).1
          have htx : Texts m := fun x hx => by
            have := (hall.1 x (by rw [← hM1]; exact hx)).2.1
            omega
          have ho := HL.out.own (B := w.heap.size) hgl (by rw [hmN]; simp only [maxLen]; omega) hok
          rw [hmN] at ho
          have HO := Lib.hid ho
          have x0 := HP.out.ext0
          have cc := Check_anyP (.slice (some ⟨w2.heap.size, 0, none⟩) N N) m wr ho.row (hT.ext x0) htx
          have hpl3 : 0 < N → pl.length ≤ 140737488355328 := fun h0 => by
            have h1 := (rdList_suf p 0 N).length_le
            rw [← r3 h0] at h1
            omega
          have hnil : N = 0 → checkC m = 40 := fun h0 => by
            have : m = [] := List.eq_nil_of_length_eq_zero (by omega)
            rw [this]
            exact checkC_nil
          obtain ⟨c, hc⟩ : ∃ c, checkC m = c := ⟨_, rfl⟩
          rw [hc] at cc hEZ hnil
          have CC := Lib.hid cc
          have HEZ := Lib.hid hEZ
          have HM1 := Lib.hid hM1
          have R3 := Lib.hid r3
          have HALL2 := Lib.hid hok
          clear hall cc hEZ hM1 r1 r2 r3 hok htx ho hc
          go_wp2_with fail
          refine CC.out.mono ?_
          rintro x w4 ⟨rfl, x4⟩
          have H4 := Lib.hid ((HP.out.ext x4).setErr c)
          obtain ⟨A5, c5, -, -, -, d0, d1, z0, z1⟩ := (HP.out.ext x4).cells
          obtain ⟨A6, c6, -, -, -, d2, d3, z2, z3⟩ := H4.out.cells
          have xx4 := x0.trans x4
          by_cases hc0 : c = 0
          · subst hc0
            have h0N : 0 < N := by
              by_cases h0 : N = 0
              · have := hnil h0
                omega
              · omega
            go_wp2_with fail
            refine (copied_any w _ w.heap.size pl 0 (by exact H4.out) (hpl3 h0N)).mono ?_
            rintro x w6 ⟨v6, rfl, ho6, x6⟩
            go_wp2
            go_ret3
            have hs4 : w.heap.size ≤ w4.heap.size := xx4.size
            refine Ret.mk (.inl ⟨HEZ.out, _, _, rfl, ?_, ?_⟩) (H4.out.ext0.trans x6)
            · rw [← HM1.out]
              exact ((HO.out.ext x4).kept (only_set (World.grownBy.refl w4 (some w.heap.size)) 1 (.int .i64 0)) (fun g hg e => hne1 (e.trans hg.symm))).ext x6
            · rw [HMZ.out, ← R3.out h0N]
              exact ho6.base (by simpa [World.setCell] using hs4)
          · have hcb : (c != 0) = true := by simpa using hc0
            go_wp2
            go_region
            go_wp2
            go_ret3
            exact Ret.mk (parse_err HEZ.out hc0 _ _) H4.out.ext0.drew
        · obtain ⟨r1, r0⟩ := read_err hk1 hk2 HRD.out he
          have hEZ : errZ b = e := by
            unfold errZ
            rw [HMZ.out, r1]
            exact if_neg he
          have HEZ := Lib.hid hEZ
          have heb : (e == 0) = false := by simpa using he
          have heb2 : (e != 0) = true := by simpa using he
          clear hEZ r1
          go_wp2
          go_region
          go_wp2
          go_ret3
          exact Ret.mk (parse_err HEZ.out he _ _) HP.out.ext0.drew
  · have hN0 : N = 0 := by
      have := q3 hz
      omega
    subst hN0
    have hEZ : errZ b = cntZ b := by
      have hm : manyZ b = ([], (tU b).2.1, cntZ b) := by
        unfold manyZ
        rw [rdList_past (k := 0) (by simpa [rdList] using hz) _ (Nat.zero_le _), rdList_zero]
      unfold errZ
      rw [hm]
      exact if_neg hz
    obtain ⟨ez, hez⟩ : ∃ ez, cntZ b = ez := ⟨_, rfl⟩
    rw [hez] at hEZ hz q1
    obtain ⟨pl, hpl⟩ : ∃ pl, (cntP b).2.1 = pl := ⟨_, rfl⟩
    have hcz : (cntP b).2 = (pl, ez) := by rw [← hpl, ← q1]
    have HCZ := Lib.hid hcz
    have HEZ := Lib.hid hEZ
    have heb : (ez == 0) = false := by simpa using hz
    have heb2 : (ez != 0) = true := by simpa using hz
    clear q1 q2 q3 hpr hcnt hM hLC hfit hrow hN hv0 h hpos hez hEZ hpl hcz
    go_enter Tryz.func144, Tryz.ntmps144
    go_wp2_with fail
    refine (byKind_any _).mono ?_
    rintro x w1 ⟨rfl, x1⟩
    have H1 := Lib.hid ((HPR.out.ext x1).ext ((Ext.refl _).alloc (.cells ways 218)))
    unfold ways at H1 ⊢
    go_wp2_with fail
    refine (HCNT.out _ H1.out).mono ?_
    rintro x w2 ⟨rfl, h2, g2⟩
    rw [HCZ.out] at h2
    simp only at h2
    have H2 := Lib.hid (h2.ext ((Ext.refl _).alloc (.cells M 49)))
    obtain ⟨A4, c4, -, -, -, b0, b1, f0, f1⟩ := H2.out.cells
    clear h2 g2 H1 HPR
    simp only [show ((0 : Nat) : Int) = 0 from rfl] at hmk
    go_wp2
    refine wp_loop_rounds 1 ?_
    rw [rounds_succ]
    go_wp2
    go_region
    go_wp2
    go_ret3
    exact Ret.mk (parse_err HEZ.out hz _ _) H2.out.ext0.drew
end Go.Proofs.YtokmeomjdpfknaaGreatDoor
namespace Go.Proofs.YtokmeomjdpfknaaGreatDoor
theorem Texts.nil : Texts [] := fun _ h => by cases h
end Go.Proofs.YtokmeomjdpfknaaGreatDoor
namespace Go.Proofs.YtokmeomjdpfknaaGreatDoor
open Go.RowKit
set_option linter.unusedVariables false

def headz : List Cst → Bool
  | [] => false
  | x :: _ => decide (x.k = 0 ∧ x.t.data.toList = [] ∧ x.n = 0 ∧ x.a = 0 ∧ x.b = 0 ∧ x.c = 0)
def checkQ (l : List Cst) : Int := if 4096 < l.length then 5 else if (headz l && (l.drop 1).all (mayC l)) = true then 0 else 40
theorem headz_eq (l : List Cst) : headz l = true ↔ 0 < l.length ∧ gc l 0 = c0 := by
  match l with
  | [] => simp [headz]
  | x :: m =>
    have e : gc (x :: m) 0 = x := rfl
    rw [e]
    constructor
    · intro h
      have h : x.k = 0 ∧ x.t.data.toList = [] ∧ x.n = 0 ∧ x.a = 0 ∧ x.b = 0 ∧ x.c = 0 := of_decide_eq_true h
      obtain ⟨h0, h1, h2, h3, h4, h5⟩ := h
      exact ⟨by simp, zero_of h0 (by rw [ByteArray.toList_eq]; exact h1) h2 h3 h4 h5⟩
    · rintro ⟨-, rfl⟩
      rfl
theorem all_may (l : List Cst) : (l.drop 1).all (mayC l) = true ↔ ∀ j, 1 ≤ j → j < l.length → mayC l (gc l j) = true := by
  rw [List.all_eq_true]
  constructor
  · intro h j h1 h2
    refine h _ ?_
    rw [List.mem_drop_iff_getElem]
    refine ⟨j - 1, by omega, ?_⟩
    have : 1 + (j - 1) = j := by omega
    simp [gc, h2, this]
  · intro h x hx
    rw [List.mem_drop_iff_getElem] at hx
    obtain ⟨j, hj, rfl⟩ := hx
    have := h (j + 1) (by omega) (by omega)
    simpa [gc, show j + 1 < l.length by omega, Nat.add_comm] using this
theorem checkC_eq (l : List Cst) : checkC l = checkQ l := by
  unfold checkQ
  by_cases h1 : 4096 < l.length
  · rw [if_pos h1, checkC_big h1]
  · rw [if_neg h1]
    by_cases h2 : (headz l && (l.drop 1).all (mayC l)) = true
    · rw [if_pos h2]
      rw [Bool.and_eq_true] at h2
      obtain ⟨h3, h4⟩ := h2
      obtain ⟨h5, h6⟩ := (headz_eq l).1 h3
      exact checkC_yes (by omega) h5 ⟨h6, (all_may l).1 h4⟩
    · rw [if_neg h2]
      by_cases he : l = []
      · rw [he, checkC_nil]
      refine checkC_no (by omega) fun ha => h2 ?_
      rw [Bool.and_eq_true]
      exact ⟨(headz_eq l).2 ⟨List.length_pos_iff.2 he, ha.1⟩, (all_may l).2 ha.2⟩
theorem RowC.lit {w : World} {g : Nat} {T : TypeId} {cur : Array Value} {l : List Cst} (h : w.heap[g]? = some (.cells cur T (0, 0))) (hc : cur.toList = l.flatMap fun x => x.vals.toList) (hok : ∀ x ∈ l, x.ok) (hl : l.length ≤ 65536) (n : Nat) (hn : n = l.length) :
    RowC w (.slice (some ⟨g, 0, none⟩) n n) l := by
  subst hn
  refine ⟨_, _, rfl, Nat.le_refl _, by simp only [maxLen]; omega, (fun h => by cases h), hok, fun _ => ⟨g, 0, rfl, lt_of_get h, fun j hj => ?_⟩⟩
  have hx : ∀ i, i < 6 → w.cell? ⟨g, j * 6 + i, none⟩ = (gc l j).vals[i]? := fun i hi => by
    rw [cell_of_row w g _ cur T (0, 0) h, ← cells_atP l j i hj hi, ← hc]
    simp
  rw [Nat.zero_add]
  exact ⟨hx 0 (by omega), hx 1 (by omega), hx 2 (by omega), hx 3 (by omega), hx 4 (by omega), hx 5 (by omega)⟩
end Go.Proofs.YtokmeomjdpfknaaGreatDoor
namespace Go.Proofs.YtokmeomjdpfknaaGreatDoor
open Go.RowKit
set_option linter.unusedVariables false

theorem Texts.told {l : List Cst} (h : Texts l) (hok : ∀ x ∈ l, x.ok) : Told l := fun x hx => ⟨hok x hx, by
  have h1 := enc_len x.t.data.toList
  have h2 := h x hx
  rw [Lib.size_eq] at h2
  omega⟩
theorem encC_len (x : Cst) : (encC x).length ≤ 41 * (x.t.size + 1) := by
  have h2 := enc_len x.t.data.toList
  have h3 : x.t.size = x.t.data.toList.length := Lib.size_eq _
  have d := dg_len 1 10
  have d2 := dg_len 2 10
  unfold encC
  rw [List.length_cons]
  split
  · rw [List.length_append]
    have := d (encZ x.t.data.toList).length
    omega
  · split
    · have := d2 x.n
      omega
    · split
      · have := d x.a
        omega
      · rw [List.length_append, List.length_append]
        have := d x.a
        have := d x.b
        have := d x.c
        omega
theorem encs_len (l : List Cst) : (encs l).length ≤ 41 * tot l := by
  induction l with
  | nil => simp [encs]
  | cons x l ih =>
    have e : tot (x :: l) = x.t.size + 1 + tot l := by simp [tot]
    have := encC_len x
    unfold encs at ih ⊢
    rw [List.flatMap_cons, List.length_append, e]
    omega
theorem tot_drop (l : List Cst) : tot (l.drop 1) ≤ tot l := by
  match l with
  | [] => exact Nat.le_refl _
  | x :: l => simp [tot]
theorem bytesZ_len (l : List Cst) : (bytesZ l).length ≤ 10 + 41 * tot l := by
  rw [bytesZ_eq, List.length_append]
  have h1 := dg_len 1 10 (l.length : Int)
  have h2 := encs_len (l.drop 1)
  have h3 := tot_drop l
  omega
end Go.Proofs.YtokmeomjdpfknaaGreatDoor
namespace Go.Proofs.YtokmeomjdpfknaaGreatDoor
open Go.RowKit
set_option linter.unusedVariables false

theorem size_data {s : ByteArray} {n : Nat} (h : s.size ≤ n) : s.data.toList.length ≤ n := by rw [← Lib.size_eq]; exact h
theorem ClRoom.texts {c : Cl} (h : ClRoom c) : Texts c.pool := fun x hx => (h.pool x hx).2
theorem IsName_k (s : ByteArray) (w : World) (h : s.size ≤ 140737488351232) : Calls Tryz.prog 76 #[.string s] w fun e w' => e = .returned (.bool (nmB s)) ∧ Ext w w' := IsName_any s.data.toList w (size_data h)
theorem CheckType_k (t : Ty) (w : World) (h : TyOk t) : Calls Tryz.prog 134 #[.agg #[.int .i64 t.k, .string t.s]] w fun e w' => e = .returned (.int .i64 (checkT (tyD t))) ∧ Ext w w' := CheckType_any (tyD t) w (size_data h.2)
theorem WriteType_k (t : Ty) (w : World) (h : TyOk t) : Calls Tryz.prog 118 #[.agg #[.int .i64 t.k, .string t.s]] w fun e w' => e = .returned (.tuple #[.string (bs (writeT (tyD t)).1), .int .i64 (writeT (tyD t)).2]) ∧ Ext w w' := WriteType_any (tyD t) w (size_data h.2)
theorem CheckProto_k (m : Me) (va : Value) (w : World) (h : ShT.Row w va m.args) (hr : MeRoom m) : Calls Tryz.prog 137 #[.agg #[.int .i64 m.ret.k, .string m.ret.s, va]] w fun e w' => e = .returned (.int .i64 (checkP m.pr)) ∧ Ext w w' := CheckProto_any va m.pr w (rowT_of h hr.args) (size_data hr.ret.2)
theorem WriteProto_k (m : Me) (va : Value) (w : World) (h : ShT.Row w va m.args) (hr : MeRoom m) : Calls Tryz.prog 119 #[.agg #[.int .i64 m.ret.k, .string m.ret.s, va]] w fun e w' => e = .returned (.tuple #[.string (bs (writeP m.pr).1), .int .i64 (writeP m.pr).2]) ∧ Ext w w' := WriteProto_any va m.pr w (rowT_of h hr.args) (size_data hr.ret.2)
theorem SameProto_k (m n : Me) (va vb : Value) (w : World) (h : ShT.Row w va m.args) (h' : ShT.Row w vb n.args) (hr : MeRoom m) (hr' : MeRoom n) : Calls Tryz.prog 86 #[.agg #[.int .i64 m.ret.k, .string m.ret.s, va], .agg #[.int .i64 n.ret.k, .string n.ret.s, vb]] w fun e w' => e = .returned (.bool (decide (m.pr = n.pr))) ∧ Ext w w' := SameProto_any va vb m.pr n.pr w (rowT_of h hr.args) (rowT_of h' hr'.args)
theorem Type_k (s : ByteArray) (w : World) (h : s.size ≤ 140737488351232) : Calls Tryz.prog 184 #[.string s] w fun e w' => e = .returned (.tuple #[.agg #[.int .i64 (tyO (typeZ s.data.toList).1).k, .string (tyO (typeZ s.data.toList).1).s], .int .i64 (typeZ s.data.toList).2]) ∧ Ext w w' := Type_any s.data.toList (size_data h) w
theorem Proto_k (s : ByteArray) (w : World) (h : s.size ≤ 140737488351232) : Calls Tryz.prog 185 #[.string s] w fun e w' => ∃ v, e = .returned (.tuple #[.agg #[.int .i64 (tyO (protoZ s.data.toList).1.ret).k, .string (tyO (protoZ s.data.toList).1.ret).s, v], .int .i64 (protoZ s.data.toList).2]) ∧ ShT.Own w.heap.size w' v ((protoZ s.data.toList).1.args.map tyO) ∧ Ext w w' := by
  refine (Proto_any s.data.toList (size_data h) w).mono ?_
  rintro e w' ⟨v, rfl, ho, x⟩
  exact ⟨v, rfl, ho.shp, x⟩

theorem refSameProto_k (m n : Me) (va vb : Value) (w : World) (h : ShT.Row w va m.args) (h' : ShT.Row w vb n.args) (hr : MeRoom m) (hr' : MeRoom n) : Calls Tryz.prog 89 #[.agg #[.int .i64 m.ret.k, .string m.ret.s, va], .agg #[.int .i64 n.ret.k, .string n.ret.s, vb]] w fun e w' => e = .returned (.bool (decide (m.pr = n.pr))) ∧ Ext w w' := refSameProto_any va vb m.pr n.pr w (rowT_of h hr.args) (rowT_of h' hr'.args)
end Go.Proofs.YtokmeomjdpfknaaGreatDoor
