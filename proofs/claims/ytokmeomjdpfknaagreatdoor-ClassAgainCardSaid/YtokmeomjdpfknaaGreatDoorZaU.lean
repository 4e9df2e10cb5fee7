/- Several texts of this proof, one behind the other. -/
import Derived.Test.YtokmeomjdpfknaaGreatDoorZaT
/- The project's reader of types, walked: a type without [, a type, what a proto answers. -/
namespace Go.Proofs.YtokmeomjdpfknaaGreatDoor
open Go.RowKit
set_option linter.unusedVariables false

set_option maxHeartbeats 1000000 in
theorem single_w1 (w : World) (g : Nat) (L r : List UInt8) (b : Bool) (h : RD w g L b) (e73 : skipZ 73 L = (r, true)) :
    Calls Tryz.prog 251 #[.pointer (some ⟨g, 0, none⟩)] w (RRet w g (.agg (TyD.vals ⟨1, []⟩)) r b) := by
  have hlt := h.lt
  have hne : w.heap.size ≠ g := by omega
  have h1 := h.ext ((Ext.refl w).alloc (.cells #[.int .i64 0, .string ⟨#[]⟩] 41))
  have hb1 := Blk.new w
  have hg1 : w.grownBy (w.alloc (.cells #[.int .i64 0, .string ⟨#[]⟩] 41)) (some g) := ext_grownD ((Ext.refl w).alloc _) _
  obtain ⟨w1, hw1⟩ : ∃ w1, w1 = w.alloc (.cells #[.int .i64 0, .string ⟨#[]⟩] 41) := ⟨_, rfl⟩
  rw [← hw1] at h1 hb1 hg1
  have H1 := Lib.hid h1
  have HB1 := Lib.hid hb1
  have HG1 := Lib.hid hg1
  clear h1 hb1 hg1 h
  have k73 := fun W (h : RD W g L b) => skip_any 73 W g L b h
  rw [e73] at k73
  have K73 := Lib.hid k73
  clear k73 e73
  go_enter Tryz.func251, Tryz.ntmps251
  go_wp2_with fail
  rw [← hw1]
  refine (K73.out _ H1.out).mono ?_
  rintro e w2 ⟨rfl, h2, g2⟩
  have H2 := Lib.hid h2
  have HG2 := Lib.hid (grown_twoD' HG1.out g2)
  have HB2 := Lib.hid (HB1.out.kept g2 (fun k hk => by injection hk with hk; omega))
  clear h2 g2
  obtain ⟨d0, d1, f0, f1⟩ := HB2.out.cells
  unfold TyD.vals
  go_wp2
  refine bodyPost_ret (v := .agg (TyD.vals ⟨1, []⟩)) (by unfold TyD.vals; simp [results, Tryz.results251, go_sem, d0, d1]; try first | exact ⟨rfl, rfl⟩ | rfl) rfl ⟨rfl, ?_⟩
  have := fin H2.out HG2.out (Nat.le_refl _) hne (.int .i64 1) (.string ⟨#[]⟩)
  simpa using this
set_option maxHeartbeats 1000000 in
theorem single_w2 (w : World) (g : Nat) (L r : List UInt8) (b : Bool) (h : RD w g L b) (e73 : skipZ 73 L = (L, false)) (e74 : skipZ 74 L = (r, true)) :
    Calls Tryz.prog 251 #[.pointer (some ⟨g, 0, none⟩)] w (RRet w g (.agg (TyD.vals ⟨2, []⟩)) r b) := by
  have hlt := h.lt
  have hne : w.heap.size ≠ g := by omega
  have h1 := h.ext ((Ext.refl w).alloc (.cells #[.int .i64 0, .string ⟨#[]⟩] 41))
  have hb1 := Blk.new w
  have hg1 : w.grownBy (w.alloc (.cells #[.int .i64 0, .string ⟨#[]⟩] 41)) (some g) := ext_grownD ((Ext.refl w).alloc _) _
  obtain ⟨w1, hw1⟩ : ∃ w1, w1 = w.alloc (.cells #[.int .i64 0, .string ⟨#[]⟩] 41) := ⟨_, rfl⟩
  rw [← hw1] at h1 hb1 hg1
  have H1 := Lib.hid h1
  have HB1 := Lib.hid hb1
  have HG1 := Lib.hid hg1
  clear h1 hb1 hg1 h
  have k73 := fun W (h : RD W g L b) => skip_any 73 W g L b h
  rw [e73] at k73
  have K73 := Lib.hid k73
  clear k73 e73
  have k74 := fun W (h : RD W g L b) => skip_any 74 W g L b h
  rw [e74] at k74
  have K74 := Lib.hid k74
  clear k74 e74
  go_enter Tryz.func251, Tryz.ntmps251
  go_wp2_with fail
  rw [← hw1]
  refine (K73.out _ H1.out).mono ?_
  rintro e w2 ⟨rfl, h2, g2⟩
  have H2 := Lib.hid h2
  have HG2 := Lib.hid (grown_twoD' HG1.out g2)
  have HB2 := Lib.hid (HB1.out.kept g2 (fun k hk => by injection hk with hk; omega))
  clear h2 g2
  go_wp2_with fail
  refine (K74.out _ H2.out).mono ?_
  rintro e w3 ⟨rfl, h3, g3⟩
  have H3 := Lib.hid h3
  have HG3 := Lib.hid (grown_twoD' HG2.out g3)
  have HB3 := Lib.hid (HB2.out.kept g3 (fun k hk => by injection hk with hk; omega))
  clear h3 g3
  obtain ⟨d0, d1, f0, f1⟩ := HB3.out.cells
  unfold TyD.vals
  go_wp2
  refine bodyPost_ret (v := .agg (TyD.vals ⟨2, []⟩)) (by unfold TyD.vals; simp [results, Tryz.results251, go_sem, d0, d1]; try first | exact ⟨rfl, rfl⟩ | rfl) rfl ⟨rfl, ?_⟩
  have := fin H3.out HG3.out (Nat.le_refl _) hne (.int .i64 2) (.string ⟨#[]⟩)
  simpa using this
set_option maxHeartbeats 1000000 in
theorem single_w3 (w : World) (g : Nat) (L r : List UInt8) (b : Bool) (h : RD w g L b) (e73 : skipZ 73 L = (L, false)) (e74 : skipZ 74 L = (L, false)) (e76 : skipZ 76 L = (r, true)) (hr : r.length ≤ 140737488351232) :
    Calls Tryz.prog 251 #[.pointer (some ⟨g, 0, none⟩)] w (RRet w g (.agg (TyD.vals (refZ r).1)) (refZ r).2.1 (b || !(refZ r).2.2)) := by
  have hlt := h.lt
  have hne : w.heap.size ≠ g := by omega
  have h1 := h.ext ((Ext.refl w).alloc (.cells #[.int .i64 0, .string ⟨#[]⟩] 41))
  have hb1 := Blk.new w
  have hg1 : w.grownBy (w.alloc (.cells #[.int .i64 0, .string ⟨#[]⟩] 41)) (some g) := ext_grownD ((Ext.refl w).alloc _) _
  obtain ⟨w1, hw1⟩ : ∃ w1, w1 = w.alloc (.cells #[.int .i64 0, .string ⟨#[]⟩] 41) := ⟨_, rfl⟩
  rw [← hw1] at h1 hb1 hg1
  have H1 := Lib.hid h1
  have HB1 := Lib.hid hb1
  have HG1 := Lib.hid hg1
  clear h1 hb1 hg1 h
  have k73 := fun W (h : RD W g L b) => skip_any 73 W g L b h
  rw [e73] at k73
  have K73 := Lib.hid k73
  clear k73 e73
  have k74 := fun W (h : RD W g L b) => skip_any 74 W g L b h
  rw [e74] at k74
  have K74 := Lib.hid k74
  clear k74 e74
  have k76 := fun W (h : RD W g L b) => skip_any 76 W g L b h
  rw [e76] at k76
  have K76 := Lib.hid k76
  clear k76 e76
  have HF := Lib.hid (fun W (h : RD W g r b) => rref_any W g r b hr h)
  obtain ⟨X, hX⟩ : ∃ X, X = refZ r := ⟨_, rfl⟩
  rw [← hX] at HF ⊢
  clear hX hr
  go_enter Tryz.func251, Tryz.ntmps251
  go_wp2_with fail
  rw [← hw1]
  refine (K73.out _ H1.out).mono ?_
  rintro e w2 ⟨rfl, h2, g2⟩
  have H2 := Lib.hid h2
  have HG2 := Lib.hid (grown_twoD' HG1.out g2)
  have HB2 := Lib.hid (HB1.out.kept g2 (fun k hk => by injection hk with hk; omega))
  clear h2 g2
  go_wp2_with fail
  refine (K74.out _ H2.out).mono ?_
  rintro e w3 ⟨rfl, h3, g3⟩
  have H3 := Lib.hid h3
  have HG3 := Lib.hid (grown_twoD' HG2.out g3)
  have HB3 := Lib.hid (HB2.out.kept g3 (fun k hk => by injection hk with hk; omega))
  clear h3 g3
  go_wp2_with fail
  refine (K76.out _ H3.out).mono ?_
  rintro e w4 ⟨rfl, h4, g4⟩
  have H4 := Lib.hid h4
  have HG4 := Lib.hid (grown_twoD' HG3.out g4)
  have HB4 := Lib.hid (HB3.out.kept g4 (fun k hk => by injection hk with hk; omega))
  clear h4 g4
  go_wp2_with fail
  refine (HF.out _ H4.out).mono ?_
  rintro e w5 ⟨rfl, h5, g5⟩
  have H5 := Lib.hid h5
  have HG5 := Lib.hid (grown_twoD' HG4.out g5)
  have HB5 := Lib.hid (HB4.out.kept g5 (fun k hk => by injection hk with hk; omega))
  clear h5 g5
  obtain ⟨d0, d1, f0, f1⟩ := HB5.out.cells
  unfold TyD.vals
  go_wp2
  refine bodyPost_ret (v := .agg (TyD.vals X.1)) (by unfold TyD.vals; simp [results, Tryz.results251, go_sem, d0, d1]; try first | exact ⟨rfl, rfl⟩ | rfl) rfl ⟨rfl, ?_⟩
  have := fin H5.out HG5.out (Nat.le_refl _) hne (.int .i64 X.1.k) (.string (bs X.1.s))
  simpa using this
set_option maxHeartbeats 1000000 in
theorem single_w4 (w : World) (g : Nat) (L r : List UInt8) (b : Bool) (h : RD w g L b) (e73 : skipZ 73 L = (L, false)) (e74 : skipZ 74 L = (L, false)) (e76 : skipZ 76 L = (L, false)) :
    Calls Tryz.prog 251 #[.pointer (some ⟨g, 0, none⟩)] w (RRet w g (.agg (TyD.vals t0D)) L true) := by
  have hlt := h.lt
  have hne : w.heap.size ≠ g := by omega
  have h1 := h.ext ((Ext.refl w).alloc (.cells #[.int .i64 0, .string ⟨#[]⟩] 41))
  have hb1 := Blk.new w
  have hg1 : w.grownBy (w.alloc (.cells #[.int .i64 0, .string ⟨#[]⟩] 41)) (some g) := ext_grownD ((Ext.refl w).alloc _) _
  obtain ⟨w1, hw1⟩ : ∃ w1, w1 = w.alloc (.cells #[.int .i64 0, .string ⟨#[]⟩] 41) := ⟨_, rfl⟩
  rw [← hw1] at h1 hb1 hg1
  have H1 := Lib.hid h1
  have HB1 := Lib.hid hb1
  have HG1 := Lib.hid hg1
  clear h1 hb1 hg1 h
  have k73 := fun W (h : RD W g L b) => skip_any 73 W g L b h
  rw [e73] at k73
  have K73 := Lib.hid k73
  clear k73 e73
  have k74 := fun W (h : RD W g L b) => skip_any 74 W g L b h
  rw [e74] at k74
  have K74 := Lib.hid k74
  clear k74 e74
  have k76 := fun W (h : RD W g L b) => skip_any 76 W g L b h
  rw [e76] at k76
  have K76 := Lib.hid k76
  clear k76 e76
  go_enter Tryz.func251, Tryz.ntmps251
  go_wp2_with fail
  rw [← hw1]
  refine (K73.out _ H1.out).mono ?_
  rintro e w2 ⟨rfl, h2, g2⟩
  have H2 := Lib.hid h2
  have HG2 := Lib.hid (grown_twoD' HG1.out g2)
  have HB2 := Lib.hid (HB1.out.kept g2 (fun k hk => by injection hk with hk; omega))
  clear h2 g2
  go_wp2_with fail
  refine (K74.out _ H2.out).mono ?_
  rintro e w3 ⟨rfl, h3, g3⟩
  have H3 := Lib.hid h3
  have HG3 := Lib.hid (grown_twoD' HG2.out g3)
  have HB3 := Lib.hid (HB2.out.kept g3 (fun k hk => by injection hk with hk; omega))
  clear h3 g3
  go_wp2_with fail
  refine (K76.out _ H3.out).mono ?_
  rintro e w4 ⟨rfl, h4, g4⟩
  have H4 := Lib.hid h4
  have HG4 := Lib.hid (grown_twoD' HG3.out g4)
  have HB4 := Lib.hid (HB3.out.kept g4 (fun k hk => by injection hk with hk; omega))
  clear h4 g4
  go_wp2_with fail
  refine (rfail_any _ g _ _ H4.out).mono ?_
  rintro e w5 ⟨rfl, h5, g5⟩
  have H5 := Lib.hid h5
  have HG5 := Lib.hid (grown_twoD' HG4.out g5)
  have HB5 := Lib.hid (HB4.out.kept g5 (fun k hk => by injection hk with hk; omega))
  clear h5 g5
  obtain ⟨d0, d1, f0, f1⟩ := HB5.out.cells
  unfold TyD.vals t0D
  go_wp2
  refine bodyPost_ret (v := .agg (TyD.vals t0D)) (by unfold TyD.vals; simp [results, Tryz.results251, go_sem, d0, d1]; try first | exact ⟨rfl, rfl⟩ | rfl) rfl ⟨rfl, ?_⟩
  have := fin H5.out HG5.out (Nat.le_refl _) hne (.int .i64 0) (.string (bs []))
  simpa using this
theorem skipZ_hit (m : UInt8) (r : List UInt8) : skipZ m (m :: r) = (r, true) := by rw [skipZ, if_pos rfl]
theorem skipZ_miss {m c : UInt8} (h : ¬ c = m) (r : List UInt8) : skipZ m (c :: r) = (c :: r, false) := by rw [skipZ, if_neg h]
theorem single_any (w : World) (g : Nat) (L : List UInt8) (b : Bool) (hl : L.length ≤ 140737488351232) (h : RD w g L b) :
    Calls Tryz.prog 251 #[.pointer (some ⟨g, 0, none⟩)] w (RRet w g (.agg (TyD.vals (singleZ L).1)) (singleZ L).2.1 (b || !(singleZ L).2.2)) := by
  match L, hl, h with
  | [], _, h =>
    have := single_w4 w g [] [] b h rfl rfl rfl
    simpa [singleZ] using this
  | c :: r, hl, h =>
    have hr : r.length ≤ 140737488351232 := by simp only [List.length_cons] at hl; omega
    rw [singleZ]
    by_cases h1 : c = 73
    · subst h1
      rw [if_pos rfl]
      have := single_w1 w g _ r b h (skipZ_hit _ _)
      simpa using this
    rw [if_neg h1]
    by_cases h2 : c = 74
    · subst h2
      rw [if_pos rfl]
      have := single_w2 w g _ r b h (skipZ_miss h1 _) (skipZ_hit _ _)
      simpa using this
    rw [if_neg h2]
    by_cases h3 : c = 76
    · subst h3
      rw [if_pos rfl]
      exact single_w3 w g _ r b h (skipZ_miss h1 _) (skipZ_miss h2 _) (skipZ_hit _ _) hr
    · rw [if_neg h3]
      have := single_w4 w g _ [] b h (skipZ_miss h1 _) (skipZ_miss h2 _) (skipZ_miss h3 _)
      simpa using this
set_option maxHeartbeats 1000000 in
theorem typ_w1 (w : World) (g : Nat) (L : List UInt8) (b : Bool) (h : RD w g L b) (e91 : skipZ 91 L = (L, false)) (hl : L.length ≤ 140737488351232) :
    Calls Tryz.prog 224 #[.pointer (some ⟨g, 0, none⟩)] w (RRet w g (.agg (TyD.vals (singleZ L).1)) (singleZ L).2.1 (b || !(singleZ L).2.2)) := by
  have hlt := h.lt
  have hne : w.heap.size ≠ g := by omega
  have h1 := h.ext ((Ext.refl w).alloc (.cells #[.int .i64 0, .string ⟨#[]⟩] 41))
  have hb1 := Blk.new w
  have hg1 : w.grownBy (w.alloc (.cells #[.int .i64 0, .string ⟨#[]⟩] 41)) (some g) := ext_grownD ((Ext.refl w).alloc _) _
  obtain ⟨w1, hw1⟩ : ∃ w1, w1 = w.alloc (.cells #[.int .i64 0, .string ⟨#[]⟩] 41) := ⟨_, rfl⟩
  rw [← hw1] at h1 hb1 hg1
  have H1 := Lib.hid h1
  have HB1 := Lib.hid hb1
  have HG1 := Lib.hid hg1
  clear h1 hb1 hg1 h
  have k91 := fun W (h : RD W g L b) => skip_any 91 W g L b h
  rw [e91] at k91
  have K91 := Lib.hid k91
  clear k91 e91
  have HF := Lib.hid (fun W (h : RD W g L b) => single_any W g L b hl h)
  obtain ⟨X, hX⟩ : ∃ X, X = singleZ L := ⟨_, rfl⟩
  rw [← hX] at HF ⊢
  clear hX hl
  go_enter Tryz.func224, Tryz.ntmps224
  go_wp2_with fail
  rw [← hw1]
  refine (K91.out _ H1.out).mono ?_
  rintro e w2 ⟨rfl, h2, g2⟩
  have H2 := Lib.hid h2
  have HG2 := Lib.hid (grown_twoD' HG1.out g2)
  have HB2 := Lib.hid (HB1.out.kept g2 (fun k hk => by injection hk with hk; omega))
  clear h2 g2
  go_wp2_with fail
  refine (HF.out _ H2.out).mono ?_
  rintro e w3 ⟨rfl, h3, g3⟩
  have H3 := Lib.hid h3
  have HG3 := Lib.hid (grown_twoD' HG2.out g3)
  have HB3 := Lib.hid (HB2.out.kept g3 (fun k hk => by injection hk with hk; omega))
  clear h3 g3
  obtain ⟨d0, d1, f0, f1⟩ := HB3.out.cells
  unfold TyD.vals
  go_wp2
  refine bodyPost_ret (v := .agg (TyD.vals X.1)) (by unfold TyD.vals; simp [results, Tryz.results224, go_sem, d0, d1]; try first | exact ⟨rfl, rfl⟩ | rfl) rfl ⟨rfl, ?_⟩
  have := fin H3.out HG3.out (Nat.le_refl _) hne (.int .i64 X.1.k) (.string (bs X.1.s))
  simpa using this
set_option maxHeartbeats 1000000 in
theorem typ_w2 (w : World) (g : Nat) (L r : List UInt8) (b : Bool) (h : RD w g L b) (e91 : skipZ 91 L = (r, true)) (hr : r.length ≤ 140737488351232) :
    Calls Tryz.prog 224 #[.pointer (some ⟨g, 0, none⟩)] w (RRet w g (.agg (TyD.vals (overT (singleZ r).1).1)) (singleZ r).2.1 (b || !(singleZ r).2.2)) := by
  have hlt := h.lt
  have hne : w.heap.size ≠ g := by omega
  have h1 := h.ext ((Ext.refl w).alloc (.cells #[.int .i64 0, .string ⟨#[]⟩] 41))
  have hb1 := Blk.new w
  have hg1 : w.grownBy (w.alloc (.cells #[.int .i64 0, .string ⟨#[]⟩] 41)) (some g) := ext_grownD ((Ext.refl w).alloc _) _
  obtain ⟨w1, hw1⟩ : ∃ w1, w1 = w.alloc (.cells #[.int .i64 0, .string ⟨#[]⟩] 41) := ⟨_, rfl⟩
  rw [← hw1] at h1 hb1 hg1
  have H1 := Lib.hid h1
  have HB1 := Lib.hid hb1
  have HG1 := Lib.hid hg1
  clear h1 hb1 hg1 h
  have k91 := fun W (h : RD W g L b) => skip_any 91 W g L b h
  rw [e91] at k91
  have K91 := Lib.hid k91
  clear k91 e91
  have HF := Lib.hid (fun W (h : RD W g r b) => single_any W g r b hr h)
  have hx := singleZ_le r
  obtain ⟨X, hX⟩ : ∃ X, X = singleZ r := ⟨_, rfl⟩
  rw [← hX] at HF hx ⊢
  have ho := fun W => Over_any X.1 W (by omega)
  unfold TyD.vals at ho
  obtain ⟨Z, hZ⟩ : ∃ Z, Z = overT X.1 := ⟨_, rfl⟩
  rw [← hZ] at ho ⊢
  have HO := Lib.hid ho
  clear hX hr hx ho hZ
  go_enter Tryz.func224, Tryz.ntmps224
  go_wp2_with fail
  rw [← hw1]
  refine (K91.out _ H1.out).mono ?_
  rintro e w2 ⟨rfl, h2, g2⟩
  have H2 := Lib.hid h2
  have HG2 := Lib.hid (grown_twoD' HG1.out g2)
  have HB2 := Lib.hid (HB1.out.kept g2 (fun k hk => by injection hk with hk; omega))
  clear h2 g2
  go_wp2_with fail
  refine (HF.out _ H2.out).mono ?_
  rintro e w3 ⟨rfl, h3, g3⟩
  have H3 := Lib.hid h3
  have HG3 := Lib.hid (grown_twoD' HG2.out g3)
  have HB3 := Lib.hid (HB2.out.kept g3 (fun k hk => by injection hk with hk; omega))
  clear h3 g3
  unfold TyD.vals
  go_wp2_with fail
  refine (HO.out _).mono ?_
  rintro e w4 ⟨rfl, x4⟩
  have H4 := Lib.hid (H3.out.ext x4)
  have HG4 := Lib.hid (grown_thenD' HG3.out x4)
  have HB4 := Lib.hid (HB3.out.ext x4)
  clear x4
  obtain ⟨d0, d1, f0, f1⟩ := HB4.out.cells
  have hlt4 : w.heap.size < w4.heap.size := lt_of_get HB4.out
  have hne4 : ¬ w.heap.size = w4.heap.size := by omega
  go_wp2
  have hf := fin H4.out HG4.out (Nat.le_refl _) hne (.int .i64 Z.1.k) (.string (bs Z.1.s))
  refine bodyPost_ret (v := .agg (TyD.vals Z.1)) (by unfold TyD.vals; simp [results, Tryz.results224, go_sem, d0, d1, hlt4]; try first | exact ⟨rfl, rfl⟩ | rfl) rfl ⟨rfl, ?_, ?_⟩
  · exact hf.1.ext ((Ext.refl _).alloc _)
  · exact grown_thenD' hf.2 ((Ext.refl _).alloc _)
theorem typ_any (w : World) (g : Nat) (L : List UInt8) (b : Bool) (hl : L.length ≤ 140737488351232) (h : RD w g L b) :
    Calls Tryz.prog 224 #[.pointer (some ⟨g, 0, none⟩)] w (RRet w g (.agg (TyD.vals (typZ L).1)) (typZ L).2.1 (b || !(typZ L).2.2)) := by
  match L, hl, h with
  | [], hl, h => exact typ_w1 w g [] b h rfl hl
  | c :: r, hl, h =>
    have hr : r.length ≤ 140737488351232 := by simp only [List.length_cons] at hl; omega
    rw [typZ]
    by_cases h1 : c = 91
    · subst h1
      rw [if_pos rfl]
      exact typ_w2 w g _ r b h (skipZ_hit _ _) hr
    · rw [if_neg h1]
      exact typ_w1 w g _ b h (skipZ_miss h1 _) hl
set_option maxHeartbeats 1000000 in
theorem ret_w1 (w : World) (g : Nat) (L : List UInt8) (b : Bool) (h : RD w g L b) (e86 : skipZ 86 L = (L, false)) (hl : L.length ≤ 140737488351232) :
    Calls Tryz.prog 227 #[.pointer (some ⟨g, 0, none⟩)] w (RRet w g (.agg (TyD.vals (typZ L).1)) (typZ L).2.1 (b || !(typZ L).2.2)) := by
  have hlt := h.lt
  have hne : w.heap.size ≠ g := by omega
  have h1 := h.ext ((Ext.refl w).alloc (.cells #[.int .i64 0, .string ⟨#[]⟩] 41))
  have hb1 := Blk.new w
  have hg1 : w.grownBy (w.alloc (.cells #[.int .i64 0, .string ⟨#[]⟩] 41)) (some g) := ext_grownD ((Ext.refl w).alloc _) _
  obtain ⟨w1, hw1⟩ : ∃ w1, w1 = w.alloc (.cells #[.int .i64 0, .string ⟨#[]⟩] 41) := ⟨_, rfl⟩
  rw [← hw1] at h1 hb1 hg1
  have H1 := Lib.hid h1
  have HB1 := Lib.hid hb1
  have HG1 := Lib.hid hg1
  clear h1 hb1 hg1 h
  have k86 := fun W (h : RD W g L b) => skip_any 86 W g L b h
  rw [e86] at k86
  have K86 := Lib.hid k86
  clear k86 e86
  have HF := Lib.hid (fun W (h : RD W g L b) => typ_any W g L b hl h)
  obtain ⟨X, hX⟩ : ∃ X, X = typZ L := ⟨_, rfl⟩
  rw [← hX] at HF ⊢
  clear hX hl
  go_enter Tryz.func227, Tryz.ntmps227
  go_wp2_with fail
  rw [← hw1]
  refine (K86.out _ H1.out).mono ?_
  rintro e w2 ⟨rfl, h2, g2⟩
  have H2 := Lib.hid h2
  have HG2 := Lib.hid (grown_twoD' HG1.out g2)
  have HB2 := Lib.hid (HB1.out.kept g2 (fun k hk => by injection hk with hk; omega))
  clear h2 g2
  go_wp2_with fail
  refine (HF.out _ H2.out).mono ?_
  rintro e w3 ⟨rfl, h3, g3⟩
  have H3 := Lib.hid h3
  have HG3 := Lib.hid (grown_twoD' HG2.out g3)
  have HB3 := Lib.hid (HB2.out.kept g3 (fun k hk => by injection hk with hk; omega))
  clear h3 g3
  obtain ⟨d0, d1, f0, f1⟩ := HB3.out.cells
  unfold TyD.vals
  go_wp2
  refine bodyPost_ret (v := .agg (TyD.vals X.1)) (by unfold TyD.vals; simp [results, Tryz.results227, go_sem, d0, d1]; try first | exact ⟨rfl, rfl⟩ | rfl) rfl ⟨rfl, ?_⟩
  have := fin H3.out HG3.out (Nat.le_refl _) hne (.int .i64 X.1.k) (.string (bs X.1.s))
  simpa using this
set_option maxHeartbeats 1000000 in
theorem ret_w2 (w : World) (g : Nat) (L r : List UInt8) (b : Bool) (h : RD w g L b) (e86 : skipZ 86 L = (r, true)) :
    Calls Tryz.prog 227 #[.pointer (some ⟨g, 0, none⟩)] w (RRet w g (.agg (TyD.vals t0D)) r b) := by
  have hlt := h.lt
  have hne : w.heap.size ≠ g := by omega
  have h1 := h.ext ((Ext.refl w).alloc (.cells #[.int .i64 0, .string ⟨#[]⟩] 41))
  have hb1 := Blk.new w
  have hg1 : w.grownBy (w.alloc (.cells #[.int .i64 0, .string ⟨#[]⟩] 41)) (some g) := ext_grownD ((Ext.refl w).alloc _) _
  obtain ⟨w1, hw1⟩ : ∃ w1, w1 = w.alloc (.cells #[.int .i64 0, .string ⟨#[]⟩] 41) := ⟨_, rfl⟩
  rw [← hw1] at h1 hb1 hg1
  have H1 := Lib.hid h1
  have HB1 := Lib.hid hb1
  have HG1 := Lib.hid hg1
  clear h1 hb1 hg1 h
  have k86 := fun W (h : RD W g L b) => skip_any 86 W g L b h
  rw [e86] at k86
  have K86 := Lib.hid k86
  clear k86 e86
  go_enter Tryz.func227, Tryz.ntmps227
  go_wp2_with fail
  rw [← hw1]
  refine (K86.out _ H1.out).mono ?_
  rintro e w2 ⟨rfl, h2, g2⟩
  have H2 := Lib.hid h2
  have HG2 := Lib.hid (grown_twoD' HG1.out g2)
  have HB2 := Lib.hid (HB1.out.kept g2 (fun k hk => by injection hk with hk; omega))
  clear h2 g2
  obtain ⟨d0, d1, f0, f1⟩ := HB2.out.cells
  unfold TyD.vals t0D
  go_wp2
  refine bodyPost_ret (v := .agg (TyD.vals t0D)) (by unfold TyD.vals; simp [results, Tryz.results227, go_sem, d0, d1]; try first | exact ⟨rfl, rfl⟩ | rfl) rfl ⟨rfl, ?_⟩
  have := fin H2.out HG2.out (Nat.le_refl _) hne (.int .i64 0) (.string ⟨#[]⟩)
  simpa using this
theorem ret_any (w : World) (g : Nat) (L : List UInt8) (b : Bool) (hl : L.length ≤ 140737488351232) (h : RD w g L b) :
    Calls Tryz.prog 227 #[.pointer (some ⟨g, 0, none⟩)] w (RRet w g (.agg (TyD.vals (retZ L).1)) (retZ L).2.1 (b || !(retZ L).2.2)) := by
  match L, hl, h with
  | [], hl, h => exact ret_w1 w g [] b h rfl hl
  | c :: r, hl, h =>
    rw [retZ]
    by_cases h1 : c = 86
    · subst h1
      rw [if_pos rfl]
      have := ret_w2 w g _ r b h (skipZ_hit _ _)
      simpa using this
    · rw [if_neg h1]
      exact ret_w1 w g _ b h (skipZ_miss h1 _) hl
end Go.Proofs.YtokmeomjdpfknaaGreatDoor
