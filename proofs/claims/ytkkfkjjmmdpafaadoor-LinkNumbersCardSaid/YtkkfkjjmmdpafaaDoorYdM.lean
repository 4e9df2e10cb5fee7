/- Several texts of this proof, one behind the other. -/
import Derived.Test.YtkkfkjjmmdpafaaDoorYdL
import Derived.Deep.CutRange
namespace Go.Proofs.YtkkfkjjmmdpafaaDoor
open Go.RowKit
set_option linter.unusedVariables false
def NmB (g : Nat) (w : World) : Prop := w.heap[g]? = some (.cells #[.string (bnm 0), .string (bnm 1), .string (bnm 2), .string (bnm 3), .string (bnm 4), .string (bnm 5), .string (bnm 6), .string (bnm 7)] 9 (0, 0))
theorem NmB.at {g : Nat} {w : World} (h : NmB g w) (i : Nat) (hi : i < 8) : w.cell? ⟨g, i, none⟩ = some (.string (bnm i)) := by
  rw [cell_of_row w g i _ _ (0, 0) h]
  rcases i with _ | _ | _ | _ | _ | _ | _ | _ | k
  all_goals first | rfl | omega
theorem NmB.ext {g : Nat} {w w' : World} (h : NmB g w) (e : Ext w w') : NmB g w' := (e.block g (lt_of_get h)).trans h
structure SL (w : World) (sb : Nat) (wr : World) (L : List KlV) (A : Option Addr) (n c : Nat) : Prop where
  lo : w.heap.size ≤ sb
  len : L.length = n
  blk : wr.heap[sb]? = some (.cells #[.slice A n c] 40 (0, 0))
  own : (ShKW w).Own (sb + 1) wr (.slice A n c) L
  ext : Ext w wr
theorem SL.ext' {w wr wq : World} {sb n c : Nat} {L : List KlV} {A : Option Addr} (h : SL w sb wr L A n c) (e : Ext wr wq) : SL w sb wq L A n c := ⟨h.lo, h.len, (e.block sb (lt_of_get h.blk)).trans h.blk, h.own.ext e, h.ext.trans e⟩
theorem SL.c0 {w wr : World} {sb n c : Nat} {L : List KlV} {A : Option Addr} (h : SL w sb wr L A n c) : wr.cell? ⟨sb, 0, none⟩ = some (.slice A n c) := by
  rw [cell_of_row wr sb 0 _ _ (0, 0) h.blk]; rfl
theorem SL.push {w wr w5 w6 : World} {sb n c n6 c6 : Nat} {L L6 : List KlV} {A A6 : Option Addr} (h : SL w sb wr L A n c) (e : Ext wr w5) (ho : (ShKW w).Own (sb + 1) w6 (.slice A6 n6 c6) L6) (hg : w5.grownBy w6 (Value.slice A n c).ownBlock) (hn : L6.length = n6) :
    w6.cell? ⟨sb, 0, none⟩ = some (.slice A n c) ∧ w6.frozen? ⟨sb, 0, none⟩ = false ∧ SL w sb (w6.setCell ⟨sb, 0, none⟩ (.slice A6 n6 c6)) L6 A6 n6 c6 ∧ ∀ g, NmB g wr → NmB g (w6.setCell ⟨sb, 0, none⟩ (.slice A6 n6 c6)) := by
  have h5 := h.ext' e
  have hlow : ∀ g, (Value.slice A n c).ownBlock = some g → sb + 1 ≤ g := fun g hg => h.own.low g hg
  have hb6 : w6.heap[sb]? = some (.cells #[.slice A n c] 40 (0, 0)) := (hg.block sb (lt_of_get h5.blk) (fun e2 => by have := hlow sb e2.symm; omega)).trans h5.blk
  refine ⟨by rw [cell_of_row w6 sb 0 _ _ (0, 0) hb6]; rfl, by simp [World.frozen?, hb6], ⟨h.lo, hn, heap_setCell_same w6 sb 0 _ _ _ hb6, ?_, ?_⟩, fun g hg0 => ?_⟩
  · refine ho.kept (set_grownK w6 sb 0 _) (fun g hg2 e2 => ?_) (fun _ _ h => h)
    injection e2 with e2
    have := ho.low g hg2
    omega
  · exact (h5.ext.grown hg (fun g hg2 => by have := hlow g hg2; have := h.lo; omega)).set_ (by show w.heap.size ≤ sb; exact h.lo) _
  · have h1 := hg0.ext e
    have h2 : NmB g w6 := (hg.block g (lt_of_get h1) (fun e2 => Shp.Own.ne h5.own h1 (show 9 ≠ 36 by decide) e2.symm)).trans h1
    have h3 := (set_grownK w6 sb 0 (.slice A6 n6 c6)).block g (lt_of_get h2) (fun e2 => by
      injection e2 with e2
      subst e2
      have h4 : w6.heap[g]? = _ := h2
      rw [hb6] at h4
      injection h4 with h4
      injection h4 with _ h4 _
      exact absurd h4 (by decide))
    exact h3.trans h2
def kv (k : Kl) : KlV := ⟨k, sl0, sl0, sl0, sl0⟩
def BL (k : Nat) : List KlV := (builtR.take k).map kv
theorem BL_len (k : Nat) (h : k ≤ 8) : (BL k).length = k := by
  unfold BL
  rw [List.length_map, List.length_take]
  have : builtR.length = 8 := rfl
  omega
theorem BL_snoc (k : Nat) (h : k < 8) : BL (k + 1) = BL k ++ [kv (gk builtR k)] := by
  rcases k with _ | _ | _ | _ | _ | _ | _ | _ | k
  all_goals first | rfl | omega
theorem gkR_eq (k : Nat) (h : k < 8) : gk builtR k = ⟨bnm k, (if k = 0 then ⟨#[]⟩ else if k = 1 then nObj else nThr), false, []⟩ := by
  rcases k with _ | _ | _ | _ | _ | _ | _ | _ | k
  all_goals first | rfl | omega
theorem ownKW_re {W w w' : World} {B : Nat} {v : Value} {L : List KlV} (h : (ShKW W).Own B w' v L) (hn : ∀ x ∈ L, NestK w x) : (ShKW w).Own B w' v L := ⟨h.1, hn⟩
set_option maxRecDepth 100000 in
theorem names_any (w : World) : Calls Tryd.prog 43 #[] w fun e w' => ∃ g, e = .returned (.slice (some ⟨g, 0, none⟩) 8 8) ∧ NmB g w' ∧ Ext w w' := by
  have HC : Hid (NmB w.heap.size (w.alloc (.cells #[.string (bnm 0), .string (bnm 1), .string (bnm 2), .string (bnm 3), .string (bnm 4), .string (bnm 5), .string (bnm 6), .string (bnm 7)] 9))) := Lib.hid (heap_alloc_new w _)
  go_enter Tryd.func43, Tryd.ntmps43
  go_wp2
  go_ret
  exact ⟨_, rfl, HC.out, (Ext.refl w).alloc _⟩
theorem rowKW2 {W0 w : World} {v : Value} {l : List KlV} (h : (ShKW W0).Row w v l) (e : Ext W0 w) : ShK.Row w v l := by
  obtain ⟨A, c, h1, h2, h3, h4, h6, h7⟩ := h
  exact ⟨A, c, h1, h2, h3, h4, h6, fun x hx => Shp.Row.ext (h7 x hx) e⟩
theorem some_own {W0 : World} {B : Nat} {w : World} {A : Option Addr} {n c : Nat} {l : List KlV} (h : (ShKW W0).Own B w (.slice A n c) l) (hl : 0 < l.length) : ∃ g, A = some ⟨g, 0, none⟩ := by
  rcases h.1.2 with ⟨h1, h2⟩ | ⟨g, cap, cur, h1, _⟩
  · omega
  · injection h1 with e1 e2 e3
    exact ⟨g, e1⟩
theorem find_range' {f : Nat → Flt} {e : ByteArray × Int} : ∀ (m a i : Nat), a ≤ i → i < a + m → (∀ j, a ≤ j → j < i → f j = none) → f i = some e → (List.range' a m).findSome? f = some e
  | 0, a, i, h1, h2, _, _ => by omega
  | m + 1, a, i, h1, h2, h3, h4 => by
    rw [List.range'_succ, List.findSome?_cons]
    by_cases ha : a = i
    · subst ha; rw [h4]
    · rw [h3 a (Nat.le_refl _) (by omega)]
      exact find_range' m (a + 1) i (by omega) (by omega) (fun j h5 h6 => h3 j (by omega) h6) h4
theorem first_flt {N : List Kl} {k i : Nat} {e : ByteArray × Int} {R : Flt} (hk : k < 5) (hR : R = restC N k) (hb : ∀ j, 8 ≤ j → j < i → fltC k N j = none) (h8 : 8 ≤ i) (hi : i < N.length) (h : fltC k N i = some e) : R = some e := by
  rw [hR, restC_step N k hk]
  unfold ownK
  rw [find_range' (N.length - 8) 8 i h8 (by omega) hb h]
  rfl
theorem next_flt {N : List Kl} {k : Nat} {R : Flt} (hk : k < 5) (hR : R = restC N k) (h : ∀ j, 8 ≤ j → j < N.length → fltC k N j = none) : R = restC N (k + 1) := by
  rw [hR, restC_step N k hk]
  have : (ownK N).findSome? (fltC k N) = none := List.findSome?_eq_none_iff.2 (fun x hx => by
    have := own_mem.1 hx
    exact h x this.1 this.2)
  rw [this]
  rfl
def RnAt (w : World) (l : List KlV) (K : List Kl) (e : Ending) (w' : World) : Prop := Ext w w' ∧ ((∃ nm er, newF K = some (nm, er) ∧ e = .returned (.tuple #[.pointer none, .string nm, .int .i64 er])) ∨
  (newF K = none ∧ ∃ s g n c r L, e = .returned (.tuple #[.pointer (some ⟨s, 0, none⟩), .string ⟨#[]⟩, .int .i64 0]) ∧ setZ nlt K = builtZ ++ r ∧ RfG s g n c r L w' ∧ w.heap.size ≤ s ∧ w.heap.size ≤ g ∧ ∀ x ∈ L, x ∈ BL 8 ∨ x ∈ l))
set_option maxRecDepth 100000 in
set_option maxHeartbeats 8000000 in
theorem rnew_at {w : World} {v : Value} {l : List KlV} (h : ShK.Row w v l) (hz : ∀ x ∈ l, KlOk x) (hl : l.length * 136 ≤ 140737488351232) : Calls Tryd.prog 13 #[v] w (RnAt w l (l.map (·.k))) := by
  obtain ⟨Al, cl, rfl, hcl, hml, -⟩ := h.cut
  have HR := Lib.hid h
  have HZ := Lib.hid hz
  obtain ⟨n, hn⟩ : ∃ n, l.length = n := ⟨_, rfl⟩
  have HN := Lib.hid hn
  rw [hn] at hcl HR hl ⊢
  unfold maxLen at hml
  obtain ⟨K, hK⟩ : ∃ K, l.map (·.k) = K := ⟨_, rfl⟩
  have HK := Lib.hid hK
  rw [hK]
  have HKL : Hid (K.length = n) := Lib.hid (by rw [← hK, List.length_map, hn])
  clear h hz hn hK
  by_cases h64 : 64 < n
  · have hz64 : (64 : Int) < (n : Int) := by omega
    have HF : Hid (newF K = some (⟨#[]⟩, 5)) := Lib.hid (by unfold newF; rw [if_pos (by rw [HKL.out]; exact h64)])
    go_enter Tryd.func13, Tryd.ntmps13
    go_wp2
    go_ret3
    exact ⟨Ext.refl _, .inl ⟨_, _, HF.out, rfl⟩⟩
  have hz64 : ¬ (64 : Int) < (n : Int) := by omega
  obtain ⟨sb, hsb⟩ : ∃ sb, w.heap.size = sb := ⟨_, rfl⟩
  have HSB := Lib.hid hsb
  obtain ⟨W1, hW1⟩ : ∃ W1, w.alloc (.cells #[.slice none 0 0] 40) = W1 := ⟨_, rfl⟩
  have HSL1 : Hid (SL w sb W1 (BL 0) none 0 0) := Lib.hid ⟨by omega, rfl, by rw [← hW1, ← hsb]; exact heap_alloc_new w _, Shp.Own.nil _ _ _, by rw [← hW1]; exact (Ext.refl w).alloc _⟩
  go_enter Tryd.func13, Tryd.ntmps13
  go_wp2_with fail
  try rw [hsb]
  try rw [hW1]
  clear hsb hW1
  refine (names_any _).mono ?_
  rintro e w2 ⟨gN, rfl, hNc, x2⟩
  have HNC := Lib.hid hNc
  have HSL2 := Lib.hid (HSL1.out.ext' x2)
  clear hNc x2 HSL1
  go_wp2_with fail
  go_loopw [7] (fun iv wr => ∃ (i : Nat) (A : Option Addr) (c : Nat), iv = .int .i64 i ∧ i ≤ 8 ∧ Hid (SL w sb wr (BL i) A i c) ∧ Hid (NmB gN wr)) (fun iv _ => 8 - (intOf iv).toNat)
  case atStart => exact ⟨0, none, 0, rfl, by omega, HSL2, HNC⟩
  case round =>
    obtain ⟨i, A, c, rfl, hi8, HSL, HNCr⟩ := hrel
    rename World => wr
    by_cases hlt : i < 8
    · have hltz : (i : Int) < 8 := by omega
      have y0 := HNCr.out.at i hlt
      rcases i with _ | _ | i0
      · obtain ⟨nm, hnm0⟩ : ∃ nm, bnm 0 = nm := ⟨_, rfl⟩
        rw [hnm0] at y0
        have HBL : Hid (BL (0 + 1) = BL 0 ++ [kv ⟨nm, ⟨#[]⟩, false, []⟩]) := Lib.hid (by rw [BL_snoc _ (by omega), gkR_eq _ (by omega)]; simp only [if_true]; rw [hnm0]; try rfl)
        go_upto_region 13 with fail
        obtain ⟨W5, hW5⟩ : ∃ W5, wr.alloc (.cells #[.slice none 0 0, .string nm, .string ⟨#[]⟩, .bool false, .slice none 0 0, .slice none 0 0, .slice none 0 0] 36) = W5 := ⟨_, rfl⟩
        rw [hW5]
        have hbq : W5.heap[wr.heap.size]? = some (.cells #[.slice none 0 0, .string nm, .string ⟨#[]⟩, .bool false, .slice none 0 0, .slice none 0 0, .slice none 0 0] 36 (0, 0)) := by rw [← hW5]; exact heap_alloc_new wr _
        have HX5 : Hid (Ext wr W5) := Lib.hid (by rw [← hW5]; exact (Ext.refl wr).alloc _)
        obtain ⟨q, hq⟩ : ∃ q, wr.heap.size = q := ⟨_, rfl⟩
        rw [hq] at hbq ⊢
        have HCE : Hid (∀ W, Ext W5 W → W.cell? ⟨q, 0, none⟩ = some (.slice none 0 0) ∧ W.cell? ⟨q, 1, none⟩ = some (.string nm) ∧ W.cell? ⟨q, 2, none⟩ = some (.string ⟨#[]⟩) ∧ W.cell? ⟨q, 3, none⟩ = some (.bool false) ∧ W.cell? ⟨q, 4, none⟩ = some (.slice none 0 0) ∧ W.cell? ⟨q, 5, none⟩ = some (.slice none 0 0) ∧ W.cell? ⟨q, 6, none⟩ = some (.slice none 0 0) ∧ W.cell? ⟨sb, 0, none⟩ = some (.slice A 0 c)) := Lib.hid fun W e => by
          have h1 := (e.block _ (lt_of_get hbq)).trans hbq
          refine ⟨?_, ?_, ?_, ?_, ?_, ?_, ?_, ((HSL.out.ext' HX5.out).ext' e).c0⟩
          all_goals
            rw [cell_of_row W q _ _ _ (0, 0) h1]
            rfl
        have x1 := (Ext.refl W5).drew
        have x2 := (Ext.refl W5).alloc (.cells #[.slice none 0 0, .string nm, .string ⟨#[]⟩, .bool false, .slice none 0 0, .slice none 0 0, .slice none 0 0] 36)
        obtain ⟨l0, l1, l2, l3, l4, l5, l6, l7⟩ := HCE.out W5.drew x1
        obtain ⟨k0, k1, k2, k3, k4, k5, k6, k7⟩ := HCE.out _ x2
        have HR5 : Hid ((ShKW w).Row (W5.alloc (.cells #[.slice none 0 0, .string nm, .string ⟨#[]⟩, .bool false, .slice none 0 0, .slice none 0 0, .slice none 0 0] 36)).drew (.slice (some ⟨W5.heap.size, 0, none⟩) 1 1) [kv ⟨nm, ⟨#[]⟩, false, []⟩]) := Lib.hid (Shp.Row.ext (Shp.Row.single (S := ShKW w) (x := kv ⟨nm, ⟨#[]⟩, false, []⟩) (T := 36) (heap_alloc_new W5 _) (Shp.Row.nil ShS w)) (Ext.refl _).drew)
        have HO5 := Lib.hid ((HSL.out.ext' (HX5.out.trans x2.drew)).own)
        have HLB : Hid ((BL 0).length = 0) := Lib.hid (BL_len _ (by omega))
        have HBD : Hid (((BL 0).length + [kv ⟨nm, ⟨#[]⟩, false, []⟩].length) * 136 ≤ 140737488355328) := Lib.hid (by rw [HLB.out, List.length_singleton]; omega)
        have HWS : Hid (sb + 1 ≤ (W5.alloc (.cells #[.slice none 0 0, .string nm, .string ⟨#[]⟩, .bool false, .slice none 0 0, .slice none 0 0, .slice none 0 0] 36)).drew.heap.size) := Lib.hid (by have h1 := lt_of_get (HSL.out.ext' (HX5.out.trans x2.drew)).blk; exact h1)
        have HNEST : Hid (NestK w (kv ⟨nm, ⟨#[]⟩, false, []⟩)) := Lib.hid (Shp.Row.nil ShS w)
        clear hW5 hbq hq hnm0
        go_wp2_with fail
        go_region_law (first
          | ((refine Shp.step_app (ShKW w) rfl _ _ (sb + 1) 22 (.agg klv0.vals) 136 rfl Tryd.underlying22 infoK sizeK (by omega) (.slice A 0 c) (BL 0) rfl HO5.out (.slice (some ⟨W5.heap.size, 0, none⟩) 1 1) [kv ⟨nm, ⟨#[]⟩, false, []⟩] rfl HR5.out (fun e he => by rw [List.mem_singleton.1 he]; exact HNEST.out) HBD.out HWS.out ?_); intro v6 w6 o6 g6 b6; clear b6; obtain ⟨A6, c6, e6, hc6, hm6⟩ := o6.slice; rw [← HBL.out, BL_len _ (by omega)] at e6; subst e6; rw [← HBL.out] at o6; obtain ⟨f1, f2, f3, f4⟩ := HSL.out.push (HX5.out.trans x2.drew) o6 g6 (BL_len _ (by omega)); have S6 := Lib.hid f3; have N6 := Lib.hid (f4 gN HNCr.out); clear o6 g6 f3 f4 hc6 hm6)
          | fail)
        all_goals
          clear l0 l1 l2 l3 l4 l5 l6 l7 k0 k1 k2 k3 k4 k5 k6 k7
          go_wp2_with fail
          go_roundw
          case rel => exact ⟨0 + 1, A6, c6, by go_num, by omega, S6, N6⟩
          case measure => first | (simp [intOf]; omega) | simp [intOf]
      · obtain ⟨nm, hnm1⟩ : ∃ nm, bnm 1 = nm := ⟨_, rfl⟩
        rw [hnm1] at y0
        have HBL : Hid (BL (1 + 1) = BL 1 ++ [kv ⟨nm, ⟨#[79, 98, 106, 101, 99, 116]⟩, false, []⟩]) := Lib.hid (by rw [BL_snoc _ (by omega), gkR_eq _ (by omega)]; simp only [show ¬ (1 : Nat) = 0 by omega, if_false, if_true]; rw [hnm1]; try rfl)
        go_upto_region 13 with fail
        obtain ⟨W5, hW5⟩ : ∃ W5, wr.alloc (.cells #[.slice none 0 0, .string nm, .string ⟨#[79, 98, 106, 101, 99, 116]⟩, .bool false, .slice none 0 0, .slice none 0 0, .slice none 0 0] 36) = W5 := ⟨_, rfl⟩
        rw [hW5]
        have hbq : W5.heap[wr.heap.size]? = some (.cells #[.slice none 0 0, .string nm, .string ⟨#[79, 98, 106, 101, 99, 116]⟩, .bool false, .slice none 0 0, .slice none 0 0, .slice none 0 0] 36 (0, 0)) := by rw [← hW5]; exact heap_alloc_new wr _
        have HX5 : Hid (Ext wr W5) := Lib.hid (by rw [← hW5]; exact (Ext.refl wr).alloc _)
        obtain ⟨q, hq⟩ : ∃ q, wr.heap.size = q := ⟨_, rfl⟩
        rw [hq] at hbq ⊢
        have HCE : Hid (∀ W, Ext W5 W → W.cell? ⟨q, 0, none⟩ = some (.slice none 0 0) ∧ W.cell? ⟨q, 1, none⟩ = some (.string nm) ∧ W.cell? ⟨q, 2, none⟩ = some (.string ⟨#[79, 98, 106, 101, 99, 116]⟩) ∧ W.cell? ⟨q, 3, none⟩ = some (.bool false) ∧ W.cell? ⟨q, 4, none⟩ = some (.slice none 0 0) ∧ W.cell? ⟨q, 5, none⟩ = some (.slice none 0 0) ∧ W.cell? ⟨q, 6, none⟩ = some (.slice none 0 0) ∧ W.cell? ⟨sb, 0, none⟩ = some (.slice A 1 c)) := Lib.hid fun W e => by
          have h1 := (e.block _ (lt_of_get hbq)).trans hbq
          refine ⟨?_, ?_, ?_, ?_, ?_, ?_, ?_, ((HSL.out.ext' HX5.out).ext' e).c0⟩
          all_goals
            rw [cell_of_row W q _ _ _ (0, 0) h1]
            rfl
        have x1 := (Ext.refl W5).drew
        have x2 := (Ext.refl W5).alloc (.cells #[.slice none 0 0, .string nm, .string ⟨#[79, 98, 106, 101, 99, 116]⟩, .bool false, .slice none 0 0, .slice none 0 0, .slice none 0 0] 36)
        obtain ⟨l0, l1, l2, l3, l4, l5, l6, l7⟩ := HCE.out W5.drew x1
        obtain ⟨k0, k1, k2, k3, k4, k5, k6, k7⟩ := HCE.out _ x2
        have HR5 : Hid ((ShKW w).Row (W5.alloc (.cells #[.slice none 0 0, .string nm, .string ⟨#[79, 98, 106, 101, 99, 116]⟩, .bool false, .slice none 0 0, .slice none 0 0, .slice none 0 0] 36)).drew (.slice (some ⟨W5.heap.size, 0, none⟩) 1 1) [kv ⟨nm, ⟨#[79, 98, 106, 101, 99, 116]⟩, false, []⟩]) := Lib.hid (Shp.Row.ext (Shp.Row.single (S := ShKW w) (x := kv ⟨nm, ⟨#[79, 98, 106, 101, 99, 116]⟩, false, []⟩) (T := 36) (heap_alloc_new W5 _) (Shp.Row.nil ShS w)) (Ext.refl _).drew)
        have HO5 := Lib.hid ((HSL.out.ext' (HX5.out.trans x2.drew)).own)
        have HLB : Hid ((BL 1).length = 1) := Lib.hid (BL_len _ (by omega))
        have HBD : Hid (((BL 1).length + [kv ⟨nm, ⟨#[79, 98, 106, 101, 99, 116]⟩, false, []⟩].length) * 136 ≤ 140737488355328) := Lib.hid (by rw [HLB.out, List.length_singleton]; omega)
        have HWS : Hid (sb + 1 ≤ (W5.alloc (.cells #[.slice none 0 0, .string nm, .string ⟨#[79, 98, 106, 101, 99, 116]⟩, .bool false, .slice none 0 0, .slice none 0 0, .slice none 0 0] 36)).drew.heap.size) := Lib.hid (by have h1 := lt_of_get (HSL.out.ext' (HX5.out.trans x2.drew)).blk; exact h1)
        have HNEST : Hid (NestK w (kv ⟨nm, ⟨#[79, 98, 106, 101, 99, 116]⟩, false, []⟩)) := Lib.hid (Shp.Row.nil ShS w)
        clear hW5 hbq hq hnm1
        go_wp2_with fail
        go_region_law (first
          | ((refine Shp.step_app (ShKW w) rfl _ _ (sb + 1) 22 (.agg klv0.vals) 136 rfl Tryd.underlying22 infoK sizeK (by omega) (.slice A 1 c) (BL 1) rfl HO5.out (.slice (some ⟨W5.heap.size, 0, none⟩) 1 1) [kv ⟨nm, ⟨#[79, 98, 106, 101, 99, 116]⟩, false, []⟩] rfl HR5.out (fun e he => by rw [List.mem_singleton.1 he]; exact HNEST.out) HBD.out HWS.out ?_); intro v6 w6 o6 g6 b6; clear b6; obtain ⟨A6, c6, e6, hc6, hm6⟩ := o6.slice; rw [← HBL.out, BL_len _ (by omega)] at e6; subst e6; rw [← HBL.out] at o6; obtain ⟨f1, f2, f3, f4⟩ := HSL.out.push (HX5.out.trans x2.drew) o6 g6 (BL_len _ (by omega)); have S6 := Lib.hid f3; have N6 := Lib.hid (f4 gN HNCr.out); clear o6 g6 f3 f4 hc6 hm6)
          | fail)
        all_goals
          clear l0 l1 l2 l3 l4 l5 l6 l7 k0 k1 k2 k3 k4 k5 k6 k7
          go_wp2_with fail
          go_roundw
          case rel => exact ⟨1 + 1, A6, c6, by go_num, by omega, S6, N6⟩
          case measure => first | (simp [intOf]; omega) | simp [intOf]
      · obtain ⟨i, hi⟩ : ∃ i, i0 + 2 = i := ⟨_, rfl⟩
        have hi0 : ¬ i = 0 := by omega
        have hi1 : ¬ i = 1 := by omega
        have hz0 : ¬ (i : Int) = 0 := by omega
        have hz1 : ¬ (i : Int) = 1 := by omega
        have hi2 : i0 + 1 + 1 = i := by omega
        rw [hi2] at y0 HSL hlt hltz hi8 ⊢
        clear hi hi2
        obtain ⟨nm, hnm⟩ : ∃ nm, bnm i = nm := ⟨_, rfl⟩
        rw [hnm] at y0
        have HBL : Hid (BL (i + 1) = BL i ++ [kv ⟨nm, ⟨#[84, 104, 114, 111, 119, 97, 98, 108, 101]⟩, false, []⟩]) := Lib.hid (by rw [BL_snoc _ (by omega), gkR_eq _ (by omega)]; simp only [if_neg hi0, if_neg hi1]; rw [hnm]; try rfl)
        go_upto_region 13 with fail
        obtain ⟨W5, hW5⟩ : ∃ W5, wr.alloc (.cells #[.slice none 0 0, .string nm, .string ⟨#[84, 104, 114, 111, 119, 97, 98, 108, 101]⟩, .bool false, .slice none 0 0, .slice none 0 0, .slice none 0 0] 36) = W5 := ⟨_, rfl⟩
        rw [hW5]
        have hbq : W5.heap[wr.heap.size]? = some (.cells #[.slice none 0 0, .string nm, .string ⟨#[84, 104, 114, 111, 119, 97, 98, 108, 101]⟩, .bool false, .slice none 0 0, .slice none 0 0, .slice none 0 0] 36 (0, 0)) := by rw [← hW5]; exact heap_alloc_new wr _
        have HX5 : Hid (Ext wr W5) := Lib.hid (by rw [← hW5]; exact (Ext.refl wr).alloc _)
        obtain ⟨q, hq⟩ : ∃ q, wr.heap.size = q := ⟨_, rfl⟩
        rw [hq] at hbq ⊢
        have HCE : Hid (∀ W, Ext W5 W → W.cell? ⟨q, 0, none⟩ = some (.slice none 0 0) ∧ W.cell? ⟨q, 1, none⟩ = some (.string nm) ∧ W.cell? ⟨q, 2, none⟩ = some (.string ⟨#[84, 104, 114, 111, 119, 97, 98, 108, 101]⟩) ∧ W.cell? ⟨q, 3, none⟩ = some (.bool false) ∧ W.cell? ⟨q, 4, none⟩ = some (.slice none 0 0) ∧ W.cell? ⟨q, 5, none⟩ = some (.slice none 0 0) ∧ W.cell? ⟨q, 6, none⟩ = some (.slice none 0 0) ∧ W.cell? ⟨sb, 0, none⟩ = some (.slice A i c)) := Lib.hid fun W e => by
          have h1 := (e.block _ (lt_of_get hbq)).trans hbq
          refine ⟨?_, ?_, ?_, ?_, ?_, ?_, ?_, ((HSL.out.ext' HX5.out).ext' e).c0⟩
          all_goals
            rw [cell_of_row W q _ _ _ (0, 0) h1]
            rfl
        have x1 := (Ext.refl W5).drew
        have x2 := (Ext.refl W5).alloc (.cells #[.slice none 0 0, .string nm, .string ⟨#[84, 104, 114, 111, 119, 97, 98, 108, 101]⟩, .bool false, .slice none 0 0, .slice none 0 0, .slice none 0 0] 36)
        obtain ⟨l0, l1, l2, l3, l4, l5, l6, l7⟩ := HCE.out W5.drew x1
        obtain ⟨k0, k1, k2, k3, k4, k5, k6, k7⟩ := HCE.out _ x2
        have HR5 : Hid ((ShKW w).Row (W5.alloc (.cells #[.slice none 0 0, .string nm, .string ⟨#[84, 104, 114, 111, 119, 97, 98, 108, 101]⟩, .bool false, .slice none 0 0, .slice none 0 0, .slice none 0 0] 36)).drew (.slice (some ⟨W5.heap.size, 0, none⟩) 1 1) [kv ⟨nm, ⟨#[84, 104, 114, 111, 119, 97, 98, 108, 101]⟩, false, []⟩]) := Lib.hid (Shp.Row.ext (Shp.Row.single (S := ShKW w) (x := kv ⟨nm, ⟨#[84, 104, 114, 111, 119, 97, 98, 108, 101]⟩, false, []⟩) (T := 36) (heap_alloc_new W5 _) (Shp.Row.nil ShS w)) (Ext.refl _).drew)
        have HO5 := Lib.hid ((HSL.out.ext' (HX5.out.trans x2.drew)).own)
        have HLB : Hid ((BL i).length = i) := Lib.hid (BL_len _ (by omega))
        have HBD : Hid (((BL i).length + [kv ⟨nm, ⟨#[84, 104, 114, 111, 119, 97, 98, 108, 101]⟩, false, []⟩].length) * 136 ≤ 140737488355328) := Lib.hid (by rw [HLB.out, List.length_singleton]; omega)
        have HWS : Hid (sb + 1 ≤ (W5.alloc (.cells #[.slice none 0 0, .string nm, .string ⟨#[84, 104, 114, 111, 119, 97, 98, 108, 101]⟩, .bool false, .slice none 0 0, .slice none 0 0, .slice none 0 0] 36)).drew.heap.size) := Lib.hid (by have h1 := lt_of_get (HSL.out.ext' (HX5.out.trans x2.drew)).blk; exact h1)
        have HNEST : Hid (NestK w (kv ⟨nm, ⟨#[84, 104, 114, 111, 119, 97, 98, 108, 101]⟩, false, []⟩)) := Lib.hid (Shp.Row.nil ShS w)
        clear hW5 hbq hq hnm
        go_wp2_with fail
        go_region_law (first
          | ((refine Shp.step_app (ShKW w) rfl _ _ (sb + 1) 22 (.agg klv0.vals) 136 rfl Tryd.underlying22 infoK sizeK (by omega) (.slice A i c) (BL i) rfl HO5.out (.slice (some ⟨W5.heap.size, 0, none⟩) 1 1) [kv ⟨nm, ⟨#[84, 104, 114, 111, 119, 97, 98, 108, 101]⟩, false, []⟩] rfl HR5.out (fun e he => by rw [List.mem_singleton.1 he]; exact HNEST.out) HBD.out HWS.out ?_); intro v6 w6 o6 g6 b6; clear b6; obtain ⟨A6, c6, e6, hc6, hm6⟩ := o6.slice; rw [← HBL.out, BL_len _ (by omega)] at e6; subst e6; rw [← HBL.out] at o6; obtain ⟨f1, f2, f3, f4⟩ := HSL.out.push (HX5.out.trans x2.drew) o6 g6 (BL_len _ (by omega)); have S6 := Lib.hid f3; have N6 := Lib.hid (f4 gN HNCr.out); clear o6 g6 f3 f4 hc6 hm6)
          | fail)
        all_goals
          clear l0 l1 l2 l3 l4 l5 l6 l7 k0 k1 k2 k3 k4 k5 k6 k7
          go_wp2_with fail
          go_roundw
          case rel => exact ⟨i + 1, A6, c6, by go_num, by omega, S6, N6⟩
          case measure => first | (simp [intOf]; omega) | simp [intOf]
    · have hi8' : i = 8 := by omega
      subst hi8'
      have hltz : ¬ (8 : Int) < 8 := by omega
      have x1 := (Ext.refl wr).drew
      have l7 : wr.drew.cell? ⟨sb, 0, none⟩ = some (.slice A 8 c) := (HSL.out.ext' x1).c0
      have HSO := Lib.hid (rsorted_any (HR.out.ext (HSL.out.ext.trans x1)) (by rw [HN.out]; omega))
      rw [HN.out] at HSO
      have HNE : Hid (∀ x ∈ sortZ cbK l, NestK w x) := Lib.hid fun x hx => HR.out.low x ((sortZ_perm cbK l).mem_iff.1 hx)
      have HSLen : Hid ((sortZ cbK l).length = n) := Lib.hid (by rw [(sortZ_perm cbK l).length_eq, HN.out])
      have HLF : Hid ((BL 8 ++ sortZ cbK l).length = 8 + n) := Lib.hid (by rw [List.length_append, BL_len 8 (by omega), HSLen.out])
      have HBD : Hid (((BL 8).length + (sortZ cbK l).length) * 136 ≤ 140737488355328) := Lib.hid (by rw [BL_len 8 (by omega), HSLen.out]; omega)
      clear hltz HNC HSL2
      have hltz : ¬ ((8 : Nat) : Int) < 8 := by omega
      go_upto_region 14 with fail
      go_cut [7] from 52 to 61 (fun iv wx => iv = .int .i64 ((8 : Nat) : Int) ∧ ∃ (A6 : Option Addr) (c6 : Nat), Hid (SL w sb wx (BL 8 ++ sortZ cbK l) A6 (8 + n) c6))
      case first =>
        go_wp2_with fail
        go_region_law (first
          | ((refine step_callL rfl 44 _ _ rfl #[.slice Al n cl] (by simp [go_sem]) (by simp [go_sem]) ?_); ((with_reducible refine HSO.out.mono ?_); rintro e y1 ⟨A9, c9, rfl, o9, x9⟩); have S9 := Lib.hid (HSL.out.ext' (x1.trans x9)); have X9 := Lib.hid (x1.trans x9); have k7 := S9.out.c0; have R9 := Lib.hid (ownKW_re o9 HNE.out).row; have O9 := Lib.hid S9.out.own; have W9 := Lib.hid (show sb + 1 ≤ y1.heap.size from lt_of_get S9.out.blk); clear o9 x9; refine ⟨_, rfl, ?_⟩)
          | ((refine Shp.step_app (ShKW w) rfl _ _ (sb + 1) 22 (.agg klv0.vals) 136 rfl Tryd.underlying22 infoK sizeK (by omega) (.slice A 8 c) (BL 8) rfl O9.out (.slice A9 n c9) (sortZ cbK l) rfl R9.out (fun e he => HNE.out e he) HBD.out W9.out ?_); intro v6 w6 o6 g6 b6; clear b6; obtain ⟨A6, c6, e6, hc6, hm6⟩ := o6.slice; rw [HLF.out] at e6; subst e6; obtain ⟨f1, f2, f3, -⟩ := HSL.out.push X9.out o6 g6 HLF.out; have S6 := Lib.hid f3; clear o6 g6 f3 hc6 hm6)
          | fail)
        all_goals
          go_wp2_with fail
          go_meet
          exact ⟨rfl, A6, c6, S6⟩
      case rest =>
        obtain ⟨rfl, A6, c6, S6⟩ := hcut
        rw [show ((8 : Nat) : Int) = 8 from rfl]
        clear l7 x1 hltz
        rename World => W6
        obtain ⟨m, hm⟩ : ∃ m, 8 + n = m := ⟨_, rfl⟩
        rw [hm] at S6
        have hm72 : m ≤ 72 := by omega
        have hm8 : 8 ≤ m := by omega
        obtain ⟨g, rfl⟩ := some_own S6.out.own (by rw [S6.out.len]; omega)
        have HX6 : Hid (Ext w W6) := Lib.hid S6.out.ext
        obtain ⟨r, hr⟩ : ∃ r, (sortZ cbK l).map (·.k) = r := ⟨_, rfl⟩
        have HRF : Hid (RfG sb g m c6 r (BL 8 ++ sortZ cbK l) W6) := Lib.hid ⟨S6.out.c0, lt_of_get S6.out.blk, rowKW2 S6.out.own.row S6.out.ext, by rw [List.map_append, hr]; rfl, hm72, fun x hx => by
          rcases List.mem_append.1 hx with hx | hx
          · have h1 : ∀ y ∈ BL 8, y.k.nm.size ≤ 140737488351232 ∧ y.k.sup.size ≤ 140737488351232 ∧ y.k.ifs = [] := by decide
            obtain ⟨h2, h3, h4⟩ := h1 x hx
            exact ⟨h2, h3, (by rw [h4]; intro y hy; cases hy), (by rw [h4]; simp)⟩
          · exact (HZ.out x ((sortZ_perm cbK l).mem_iff.1 hx)).k⟩
        have HWHO : Hid (w.heap.size ≤ sb ∧ w.heap.size ≤ g ∧ ∀ x ∈ BL 8 ++ sortZ cbK l, x ∈ BL 8 ∨ x ∈ l) := Lib.hid (by
          have h1 := S6.out.own.low g rfl
          have h2 := HSB.out
          exact ⟨by omega, by omega, fun x hx => (List.mem_append.1 hx).imp id (fun hx => (sortZ_perm cbK l).mem_iff.1 hx)⟩)
        have HSET : Hid (setZ nlt K = builtZ ++ r) := Lib.hid (by
          unfold setZ
          rw [← hr, ← HK.out, ← sortZ_mapG (fun x : KlV => x.k) (fun a b => nlt a.nm b.nm) l]
          rfl)
        have HNF : Hid (newF K = restC (builtZ ++ r) 0) := Lib.hid (by unfold newF; rw [if_neg (by rw [HKL.out]; exact h64), HSET.out, restC_zero])
        clear hm hr S6 HSO HNE HSLen HLF HBD HSL HNCr HR HZ HN HK HKL
        have HNL : Hid ((builtZ ++ r).length = m) := Lib.hid HRF.out.lenN
        obtain ⟨N, hN⟩ : ∃ N, builtZ ++ r = N := ⟨_, rfl⟩
        have HNN := Lib.hid hN
        rw [hN] at HSET HNF HNL
        have HGK : Hid (∀ i, 8 ≤ i → gk (builtR ++ r) i = gk N i) := Lib.hid fun i hi => by rw [← hN]; exact gkR r i hi
        have HFD : Hid (∀ nm W, Ext W6 W → Calls Tryd.prog 45 #[.slice (some ⟨g, 0, none⟩) m c6, .string nm] W fun e w' => e = .returned (.int .i64 (findZ N nm)) ∧ w' = W) := Lib.hid fun nm W e => by have h := (HRF.out.ext e).find nm; rwa [hN] at h
        have HAT : Hid (∀ i, i < m → ∃ x, x.k = gk (builtR ++ r) i ∧ x.vi.n = x.k.ifs.length ∧ ∀ W, Ext W6 W → W.cell? ⟨sb, 0, none⟩ = some (.slice (some ⟨g, 0, none⟩) m c6) ∧ AtK W g (i * 7) x ∧ NestK W x) := Lib.hid fun i hi => by
          obtain ⟨x, hx, hxk, hat⟩ := HRF.out.at i hi
          refine ⟨x, hxk, ?_, fun W e => ⟨(HRF.out.ext e).c0, hat W e⟩⟩
          obtain ⟨A9, c9, e9, -⟩ := (hat W6 (Ext.refl _)).2.cut
          injection e9
        have hmc : m ≤ c6 := HRF.out.cap
        obtain ⟨R, hR⟩ : ∃ R, newF K = R := ⟨_, rfl⟩
        have HRR := Lib.hid hR
        rw [hR] at HNF
        clear hN hR
        have HXS0 : Hid (Ext W6 W6) := Lib.hid (Ext.refl _)
        have HNF0 := HNF
        go_wp2_with fail
        go_loopw [9] (fun iv wr => ∃ i : Nat, iv = .int .i64 i ∧ 8 ≤ i ∧ i ≤ m ∧ Hid (∀ j, 8 ≤ j → j < i → fltC 0 N j = none) ∧ Hid (Ext W6 wr)) (fun iv _ => m - (intOf iv).toNat)
        case atStart => exact ⟨8, rfl, by omega, by omega, Lib.hid (fun j h1 h2 => by omega), HXS0⟩
        case round =>
          obtain ⟨i, rfl, hi8, him, HF, HX⟩ := hrel
          rename World => wr
          by_cases hlt : i < m
          · have hltz : (i : Int) < (m : Int) := by omega
            have hi0 : ¬ (i : Int) < 0 := by omega
            have HIN : Hid (i < N.length) := Lib.hid (by rw [HNL.out]; exact hlt)
            obtain ⟨x, hxk0, hvn, hat⟩ := HAT.out i hlt
            have hxk : x.k = gk N i := by rw [hxk0]; exact HGK.out i hi8
            have HXK := Lib.hid hxk
            have HAX := Lib.hid hat
            have e1 := (Ext.refl wr).drew
            have X1 := Lib.hid (HX.out.trans e1)
            obtain ⟨d0, ⟨-, d1, d2, d3, d4, -, -⟩, -⟩ := hat wr HX.out
            obtain ⟨t0, ⟨-, t1, t2, t3, t4, -, -⟩, -⟩ := hat wr.drew X1.out
            have HVN := Lib.hid hvn
            rw [hvn] at d4 t4
            clear hat hxk0 hxk hvn
            have hfl : fltC 0 N i = if findZ N x.k.nm = (i : Int) then none else some (x.k.nm, 92) := by rw [HXK.out]; rfl
            obtain ⟨nm, hnm⟩ : ∃ nm, x.k.nm = nm := ⟨_, rfl⟩
            rw [hnm] at hfl d1 t1
            obtain ⟨f, hf⟩ : ∃ f, findZ N nm = f := ⟨_, rfl⟩
            rw [hf] at hfl
            have hfd := HFD.out nm wr.drew X1.out
            rw [hf] at hfd
            have HFF := Lib.hid hfd
            clear hfd hf hnm
            go_wp2_with fail
            go_region_held3 (fun w' => w'.cell? ⟨sb, 0, none⟩ = some (.slice (some ⟨g, 0, none⟩) m c6) ∧ w'.cell? ⟨g, i * 7 + 1, none⟩ = some (.string nm)) (first | go_keep | with_reducible assumption | assumption) (first
              | (go_at_call 45; (with_reducible refine HFF.out.mono ?_); rintro e5 w5 ⟨rfl, rfl⟩))
            by_cases hfi : f = (i : Int)
            · have hne : (f != (i : Int)) = false := by simp [hfi]
              rw [if_pos hfi] at hfl
              have HF2 : Hid (∀ j, 8 ≤ j → j < i + 1 → fltC 0 N j = none) := Lib.hid fun j h1 h2 => by
                by_cases e : j = i
                · subst e; exact hfl
                · exact HF.out j h1 (by omega)
              clear hfl
              go_wp2_with fail
              go_roundw
              case rel => exact ⟨i + 1, by go_num, by omega, by omega, HF2, X1⟩
              case measure => first | (simp [intOf]; omega) | simp [intOf]
            · have hne : (f != (i : Int)) = true := by simp [hfi]
              rw [if_neg hfi] at hfl
              have HBAD := Lib.hid hfl
              have HXD := X1
              have u0 := t0
              clear hfl
              have HRE : Hid (R = some (nm, 92)) := Lib.hid (first_flt (by omega) HNF0.out HF.out hi8 HIN.out HBAD.out)
              have HXF : Hid (∀ q, Ext w (wr.drew.drewN q)) := Lib.hid fun q => HX6.out.trans ((HXD.out).drewN q)
              go_wp2_with fail
              go_quiet (fail)
              go_wp2
              go_ret3
              exact ⟨HXF.out _, .inl ⟨_, _, HRR.out.trans HRE.out, rfl⟩⟩
          · have hltz : ¬ (i : Int) < (m : Int) := by omega
            have HNF1 : Hid (R = restC N 1) := Lib.hid (next_flt (by omega) HNF0.out (fun j h1 h2 => HF.out j h1 (by rw [HNL.out] at h2; omega)))
            have HALL0 : Hid (∀ j, 8 ≤ j → j < N.length → fltC 0 N j = none) := Lib.hid (fun j h1 h2 => HF.out j h1 (by rw [HNL.out] at h2; omega))
            have HXS1 := HX
            obtain ⟨d0, -, -⟩ := (HAT.out 0 (by omega)).choose_spec.2.2 wr HX.out
            clear HF HX
            go_wp2_with fail
            go_loopw [10] (fun iv wr => ∃ i : Nat, iv = .int .i64 i ∧ 8 ≤ i ∧ i ≤ m ∧ Hid (∀ j, 8 ≤ j → j < i → fltC 1 N j = none) ∧ Hid (Ext W6 wr)) (fun iv _ => m - (intOf iv).toNat)
            case atStart => exact ⟨8, rfl, by omega, by omega, Lib.hid (fun j h1 h2 => by omega), HXS1⟩
            case round =>
              obtain ⟨i, rfl, hi8, him, HF, HX⟩ := hrel
              rename World => wr
              by_cases hlt : i < m
              · have hltz : (i : Int) < (m : Int) := by omega
                have hi0 : ¬ (i : Int) < 0 := by omega
                have HIN : Hid (i < N.length) := Lib.hid (by rw [HNL.out]; exact hlt)
                obtain ⟨x, hxk0, hvn, hat⟩ := HAT.out i hlt
                have hxk : x.k = gk N i := by rw [hxk0]; exact HGK.out i hi8
                have HXK := Lib.hid hxk
                have HAX := Lib.hid hat
                have e1 := (Ext.refl wr).drew
                have X1 := Lib.hid (HX.out.trans e1)
                obtain ⟨d0, ⟨-, d1, d2, d3, d4, -, -⟩, -⟩ := hat wr HX.out
                obtain ⟨t0, ⟨-, t1, t2, t3, t4, -, -⟩, -⟩ := hat wr.drew X1.out
                have HVN := Lib.hid hvn
                rw [hvn] at d4 t4
                clear hat hxk0 hxk hvn
                have hfl : fltC 1 N i = if findZ N x.k.sup < 0 then some (x.k.sup, 90) else (x.k.ifs.find? (fun y => decide (findZ N y < 0))).map (fun y => (y, 90)) := by rw [HXK.out]; rfl
                have HFL := Lib.hid hfl
                obtain ⟨su, hsu⟩ : ∃ su, x.k.sup = su := ⟨_, rfl⟩
                rw [hsu] at d2 t2 hfl
                have HSU := Lib.hid hsu
                obtain ⟨f, hf⟩ : ∃ f, findZ N su = f := ⟨_, rfl⟩
                have HFE := Lib.hid hf
                have hfd := HFD.out su wr.drew X1.out
                rw [hf] at hfd hfl
                have HFF := Lib.hid hfd
                clear hfd hf hsu
                go_wp2_with fail
                go_region_held3 (fun w' => w'.cell? ⟨sb, 0, none⟩ = some (.slice (some ⟨g, 0, none⟩) m c6) ∧ w'.cell? ⟨g, i * 7 + 2, none⟩ = some (.string su)) (first | go_keep | with_reducible assumption | assumption) (first
                  | (go_at_call 45; (with_reducible refine HFF.out.mono ?_); rintro e5 w5 ⟨rfl, rfl⟩))
                by_cases hf0 : f < 0
                · rw [if_pos hf0] at hfl
                  have HBAD := Lib.hid hfl
                  have HXD := X1
                  clear hfl
                  have HRE : Hid (R = some (su, 90)) := Lib.hid (first_flt (by omega) HNF1.out HF.out hi8 HIN.out HBAD.out)
                  have HXF : Hid (∀ q, Ext w (wr.drew.drewN q)) := Lib.hid fun q => HX6.out.trans ((HXD.out).drewN q)
                  go_wp2_with fail
                  go_quiet (fail)
                  go_wp2
                  go_ret3
                  exact ⟨HXF.out _, .inl ⟨_, _, HRR.out.trans HRE.out, rfl⟩⟩
                · rw [if_neg hf0] at hfl
                  have HFL2 := Lib.hid hfl
                  obtain ⟨q, hq⟩ : ∃ q, x.k.ifs.length = q := ⟨_, rfl⟩
                  have HQ := Lib.hid hq
                  rw [hq] at d4 t4
                  have HAW : Hid (∀ W, Ext W6 W → W.cell? ⟨sb, 0, none⟩ = some (.slice (some ⟨g, 0, none⟩) m c6) ∧ W.cell? ⟨g, i * 7 + 4, none⟩ = some (.slice x.vi.A q x.vi.c) ∧ ShS.Row W (.slice x.vi.A q x.vi.c) x.k.ifs) := Lib.hid fun W e => by
                    obtain ⟨h0, ⟨-, -, -, -, h4, -, -⟩, h5⟩ := HAX.out W e
                    rw [HVN.out, HQ.out] at h4
                    unfold NestK Sl.v at h5
                    rw [HVN.out, HQ.out] at h5
                    exact ⟨h0, h4, h5⟩
                  have hqb : q ≤ c6 + 9223372036854775807 := by
                    obtain ⟨A9, c9, e9, h9, h10, -⟩ := (HAW.out wr HX.out).2.2.cut
                    unfold maxLen at h10
                    injection e9
                    omega
                  have hqb2 : q ≤ 9223372036854775807 := by
                    obtain ⟨A9, c9, e9, h9, h10, -⟩ := (HAW.out wr HX.out).2.2.cut
                    unfold maxLen at h10
                    injection e9
                    omega
                  obtain ⟨vA, hvA⟩ : ∃ vA, x.vi.A = vA := ⟨_, rfl⟩
                  obtain ⟨vc, hvc⟩ : ∃ vc, x.vi.c = vc := ⟨_, rfl⟩
                  rw [hvA, hvc] at HAW
                  have u0 := t0
                  clear hfl hq hqb hvA hvc d4 t4
                  go_wp2_with fail
                  go_loopw [11] (fun kv wq => ∃ k : Nat, kv = .int .i64 k ∧ k ≤ q ∧ Hid (∀ y ∈ x.k.ifs.take k, decide (findZ N y < 0) = false) ∧ Hid (Ext W6 wq)) (fun kv _ => q - (intOf kv).toNat)
                  case atStart => exact ⟨0, rfl, by omega, Lib.hid (fun y hy => by simp at hy), X1⟩
                  case round =>
                    obtain ⟨k, rfl, hk, HJ, HXq⟩ := hrel
                    rename World => wq
                    clear d0 d1 d2 d3 t0 t1 t2 t3 u0 X1 e1
                    by_cases hlk : k < q
                    · have hlkz : (k : Int) < (q : Int) := by omega
                      have hk0 : ¬ (k : Int) < 0 := by omega
                      have hkl : k < x.k.ifs.length := by rw [HQ.out]; exact hlk
                      obtain ⟨d0, d4, hrow⟩ := HAW.out wq HXq.out
                      have e2 := (Ext.refl wq).drew
                      have X2 := Lib.hid (HXq.out.trans e2)
                      obtain ⟨t0, t4, -⟩ := HAW.out wq.drew X2.out
                      obtain ⟨bs, os, hA, hats⟩ := rowS_at hrow (by omega)
                      subst hA
                      obtain ⟨y, hy⟩ : ∃ y, x.k.ifs[k]? = some y := ⟨x.k.ifs[k], List.getElem?_eq_getElem hkl⟩
                      have hgs : gs x.k.ifs k = y := by unfold gs; rw [ShS.el_get hkl]; exact (List.getElem?_eq_some_iff.1 hy).2
                      have t5 := hats wq.drew e2 k hkl
                      have e3 := (Ext.refl wq.drew).drew
                      obtain ⟨s0, s4, -⟩ := HAW.out wq.drew.drew (X2.out.trans e3)
                      have s5 := hats wq.drew.drew (e2.trans e3) k hkl
                      rw [hgs] at t5 s5
                      obtain ⟨f2, hf2⟩ : ∃ f2, findZ N y = f2 := ⟨_, rfl⟩
                      have hfd := HFD.out y wq.drew X2.out
                      rw [hf2] at hfd
                      have HFF2 := Lib.hid hfd
                      have HFY := Lib.hid hf2
                      have HY := Lib.hid hy
                      clear hfd hf2 hy hgs hats hrow hkl
                      go_wp2_with fail
                      go_region_held3 (fun w' => w'.cell? ⟨sb, 0, none⟩ = some (.slice (some ⟨g, 0, none⟩) m c6) ∧ w'.cell? ⟨g, i * 7 + 4, none⟩ = some (.slice (some ⟨bs, os, none⟩) q vc) ∧ w'.cell? ⟨bs, os + k, none⟩ = some (.string y)) (first | go_keep | with_reducible assumption | assumption) (first
                        | (go_at_call 45; (with_reducible refine HFF2.out.mono ?_); rintro e5 w5 ⟨rfl, rfl⟩))
                      by_cases hg0 : f2 < 0
                      · have HBAD : Hid (fltC 1 N i = some (y, 90)) := Lib.hid (by
                          rw [HFL2.out, List.find?_eq_some_iff_append.2 ⟨by rw [HFY.out]; exact decide_eq_true hg0, x.k.ifs.take k, x.k.ifs.drop (k + 1), by rw [← (List.getElem?_eq_some_iff.1 HY.out).2, ← List.drop_eq_getElem_cons, List.take_append_drop], fun z hz => by rw [HJ.out z hz]; rfl⟩]
                          rfl)
                        have HXD := X2
                        have HRE : Hid (R = some (y, 90)) := Lib.hid (first_flt (by omega) HNF1.out HF.out hi8 HIN.out HBAD.out)
                        have HXF : Hid (Ext w wq.drew.drew) := Lib.hid (HX6.out.trans (X2.out.drew))
                        go_wp2_with fail
                        go_region_held3 (fun w' => w'.cell? ⟨sb, 0, none⟩ = some (.slice (some ⟨g, 0, none⟩) m c6) ∧ w'.cell? ⟨g, i * 7 + 4, none⟩ = some (.slice (some ⟨bs, os, none⟩) q vc) ∧ w'.cell? ⟨bs, os + k, none⟩ = some (.string y)) (first | go_keep | with_reducible assumption | assumption) (fail)
                        go_wp2
                        go_ret3
                        exact ⟨HXF.out, .inl ⟨_, _, HRR.out.trans HRE.out, rfl⟩⟩
                      · have HJ2 : Hid (∀ y ∈ x.k.ifs.take (k + 1), decide (findZ N y < 0) = false) := Lib.hid fun z hz => by
                          rw [List.take_add_one, HY.out] at hz
                          rcases List.mem_append.1 hz with hz | hz
                          · exact HJ.out z hz
                          · have hz : z = y := by simpa using hz
                            rw [hz, HFY.out]; exact decide_eq_false hg0
                        go_wp2_with fail
                        go_roundw
                        case rel => exact ⟨k + 1, by go_num, by omega, HJ2, X2⟩
                        case measure => first | (simp [intOf]; omega) | simp [intOf]
                    · have hlkz : ¬ (k : Int) < (q : Int) := by omega
                      have hok : fltC 1 N i = none := by
                        rw [HFL2.out, List.find?_eq_none.2 (fun z hz => by
                          have h := HJ.out z (by rw [List.take_of_length_le (by rw [HQ.out]; omega)]; exact hz)
                          rw [h]; simp)]
                        rfl
                      obtain ⟨d0, d4, -⟩ := HAW.out wq HXq.out
                      have HF2 : Hid (∀ j, 8 ≤ j → j < i + 1 → fltC 1 N j = none) := Lib.hid fun j h1 h2 => by
                        by_cases e : j = i
                        · subst e; exact hok
                        · exact HF.out j h1 (by omega)
                      clear hok
                      go_wp2_with fail
                      go_roundw
                      case rel => exact ⟨i + 1, by go_num, by omega, by omega, HF2, HXq⟩
                      case measure => first | (simp [intOf]; omega) | simp [intOf]
              · have hltz : ¬ (i : Int) < (m : Int) := by omega
                have HNF2 : Hid (R = restC N 2) := Lib.hid (next_flt (by omega) HNF1.out (fun j h1 h2 => HF.out j h1 (by rw [HNL.out] at h2; omega)))
                have HALL1 : Hid (∀ j, 8 ≤ j → j < N.length → fltC 1 N j = none) := Lib.hid (fun j h1 h2 => HF.out j h1 (by rw [HNL.out] at h2; omega))
                have HXS2 := HX
                obtain ⟨d0, -, -⟩ := (HAT.out 0 (by omega)).choose_spec.2.2 wr HX.out
                clear HF HX
                go_wp2_with fail
                go_loopw [12] (fun iv wr => ∃ i : Nat, iv = .int .i64 i ∧ 8 ≤ i ∧ i ≤ m ∧ Hid (∀ j, 8 ≤ j → j < i → fltC 2 N j = none) ∧ Hid (Ext W6 wr)) (fun iv _ => m - (intOf iv).toNat)
                case atStart => exact ⟨8, rfl, by omega, by omega, Lib.hid (fun j h1 h2 => by omega), HXS2⟩
                case round =>
                  obtain ⟨i, rfl, hi8, him, HF, HX⟩ := hrel
                  rename World => wr
                  by_cases hlt : i < m
                  · have hltz : (i : Int) < (m : Int) := by omega
                    have hi0 : ¬ (i : Int) < 0 := by omega
                    have HIN : Hid (i < N.length) := Lib.hid (by rw [HNL.out]; exact hlt)
                    obtain ⟨x, hxk0, hvn, hat⟩ := HAT.out i hlt
                    have hxk : x.k = gk N i := by rw [hxk0]; exact HGK.out i hi8
                    have HXK := Lib.hid hxk
                    have HAX := Lib.hid hat
                    have HVN := Lib.hid hvn
                    obtain ⟨d0, ⟨d1, d2, d3, d4, d5, d6, d7⟩, -⟩ := hat wr HX.out
                    have hbq := heap_alloc_new wr (.cells #[.slice x.vp.A x.vp.n x.vp.c, .string x.k.nm, .string x.k.sup, .bool x.k.inf, .slice x.vi.A x.vi.n x.vi.c, .slice x.vf.A x.vf.n x.vf.c, .slice x.vm.A x.vm.n x.vm.c] 36)
                    obtain ⟨W3, hW3⟩ : ∃ W3, wr.alloc (.cells #[.slice x.vp.A x.vp.n x.vp.c, .string x.k.nm, .string x.k.sup, .bool x.k.inf, .slice x.vi.A x.vi.n x.vi.c, .slice x.vf.A x.vf.n x.vf.c, .slice x.vm.A x.vm.n x.vm.c] 36) = W3 := ⟨_, rfl⟩
                    rw [hW3] at hbq
                    have X3 : Hid (Ext W6 W3) := Lib.hid (by rw [← hW3]; exact HX.out.alloc _)
                    obtain ⟨qb, hqb⟩ : ∃ qb, wr.heap.size = qb := ⟨_, rfl⟩
                    rw [hqb] at hbq
                    have HQB : Hid (∀ W, Ext W3 W → W.cell? ⟨qb, 1, none⟩ = some (.string x.k.nm) ∧ W.cell? ⟨qb, 2, none⟩ = some (.string x.k.sup) ∧ W.cell? ⟨qb, 3, none⟩ = some (.bool x.k.inf) ∧ W.cell? ⟨qb, 4, none⟩ = some (.slice x.vi.A x.vi.n x.vi.c)) := Lib.hid fun W e => by
                      have h1 := (e.block _ (lt_of_get hbq)).trans hbq
                      refine ⟨?_, ?_, ?_, ?_⟩
                      all_goals
                        rw [cell_of_row W qb _ _ _ (0, 0) h1]
                        rfl
                    have HXW : Hid (∀ W, Ext W3 W → Ext W6 W) := Lib.hid fun W e => X3.out.trans e
                    clear hxk0 hxk hvn hbq hat
                    go_upto_region 34 with fail
                    try rw [hqb]
                    try rw [hW3]
                    have hs2 := flt2_some (HALL1.out i hi8 HIN.out)
                    have hsk : 0 ≤ findZ N x.k.sup := by rw [HXK.out]; exact hs2.1
                    have hsl := findZ_lt N x.k.sup
                    rw [HNL.out] at hsl
                    obtain ⟨fz, hfz⟩ : ∃ fz : Nat, findZ N x.k.sup = fz := ⟨(findZ N x.k.sup).toNat, by omega⟩
                    have hfzm : fz < m := by omega
                    obtain ⟨y, hyk, -, haty⟩ := HAT.out fz hfzm
                    have hyi : y.k.inf = (gk N fz).inf := by rw [hyk, HNN.out.symm, infR]
                    have HAY := Lib.hid (fun W (e : Ext W6 W) => (haty W e).2.1.2.2.2.1)
                    have hfl : fltC 2 N i = if (gk N fz).inf || (x.k.inf && !decide (x.k.sup = nObj)) then some (x.k.nm, 90) else none := by
                      show flt3 N i = _
                      unfold flt3
                      rw [← HXK.out, hfz, Int.toNat_natCast]
                    rw [← hyi] at hfl
                    have HFQ : Hid (∀ W, Ext W6 W → Calls Tryd.prog 45 #[.slice (some ⟨g, 0, none⟩) m c6, .string x.k.sup] W fun e w' => e = .returned (.int .i64 (fz : Int)) ∧ ∃ n, w' = W.drewN n) := Lib.hid fun W e => (HFD.out x.k.sup W e).mono fun e' w' ⟨h1, h2⟩ => ⟨by rw [h1, hfz], 0, by rw [h2]; rfl⟩
                    obtain ⟨nm, hnm⟩ : ∃ nm, x.k.nm = nm := ⟨_, rfl⟩
                    obtain ⟨su, hsu⟩ : ∃ su, x.k.sup = su := ⟨_, rfl⟩
                    obtain ⟨ib, hib⟩ : ∃ ib, x.k.inf = ib := ⟨_, rfl⟩
                    obtain ⟨ia, hia⟩ : ∃ ia, y.k.inf = ia := ⟨_, rfl⟩
                    rw [hnm, hsu, hib] at HQB
                    rw [hnm, hsu, hib, hia] at hfl
                    rw [hsu] at HFQ
                    rw [hia] at HAY
                    have hfz0 : ¬ (fz : Int) < 0 := by omega
                    have hfzz : (fz : Int) < (m : Int) := by omega
                    have HFL := Lib.hid hfl
                    clear hs2 hsk hsl hfz hyk haty hyi hnm hsu hib hia hfl d0 d1 d2 d3 d4 d5 d6 d7 hW3 hqb
                    obtain ⟨z1, z2, z3, z4⟩ := HQB.out W3 (Ext.refl _)
                    have z5 := HAY.out W3 X3.out
                    have z0 := (HRF.out.ext X3.out).c0
                    have XQ : Hid (∀ k, Ext W6 (W3.drewN k)) := Lib.hid fun k => X3.out.drewN k
                    have ZQ : Hid (∀ k, (W3.drewN k).cell? ⟨qb, 1, none⟩ = some (.string nm)) := Lib.hid fun k => (HQB.out _ ((Ext.refl W3).drewN k)).1
                    have bad : fltC 2 N i = some (nm, 90) → Hid (R = some (nm, 90)) := fun h => Lib.hid (first_flt (by omega) HNF2.out HF.out hi8 HIN.out h)
                    have HBADF := Lib.hid bad
                    clear bad
                    cases ia
                    · cases ib
                      · go_quiet (first
                          | (go_at_call 45; refine Calls.quiet_of (HFQ.out _ ?_); exact X3.out.drewN _))
                        obtain ⟨Wq, hWq⟩ : ∃ Wq, W3.drewN nq = Wq := ⟨_, rfl⟩
                        have XW := Lib.hid (XQ.out nq)
                        have zz := ZQ.out nq
                        rw [hWq] at XW zz ⊢
                        clear hWq
                        have hok : fltC 2 N i = none := by rw [HFL.out]; simp
                        have HF2 : Hid (∀ j, 8 ≤ j → j < i + 1 → fltC 2 N j = none) := Lib.hid fun j h1 h2 => by
                          by_cases e : j = i
                          · subst e; exact hok
                          · exact HF.out j h1 (by omega)
                        clear hok
                        go_wp2_with fail
                        go_roundw
                        case rel => exact ⟨i + 1, by go_num, by omega, by omega, HF2, XW⟩
                        case measure => first | (simp [intOf]; omega) | simp [intOf]
                      · by_cases hso : su = nObj
                        · unfold nObj at hso
                          subst hso
                          go_quiet (first
                            | (go_at_call 45; refine Calls.quiet_of (HFQ.out _ ?_); exact X3.out.drewN _))
                          obtain ⟨Wq, hWq⟩ : ∃ Wq, W3.drewN nq = Wq := ⟨_, rfl⟩
                          have XW := Lib.hid (XQ.out nq)
                          have zz := ZQ.out nq
                          rw [hWq] at XW zz ⊢
                          clear hWq
                          have hok : fltC 2 N i = none := by rw [HFL.out]; simp [nObj]
                          have HF2 : Hid (∀ j, 8 ≤ j → j < i + 1 → fltC 2 N j = none) := Lib.hid fun j h1 h2 => by
                            by_cases e : j = i
                            · subst e; exact hok
                            · exact HF.out j h1 (by omega)
                          clear hok
                          go_wp2_with fail
                          go_roundw
                          case rel => exact ⟨i + 1, by go_num, by omega, by omega, HF2, XW⟩
                          case measure => first | (simp [intOf]; omega) | simp [intOf]
                        · have q1 : ¬ su.toList = [79, 98, 106, 101, 99, 116] := fun e => hso (ba_inj (e.trans (ByteArray.toList_mk [79, 98, 106, 101, 99, 116]).symm))
                          have q2 : (su.toList == [79, 98, 106, 101, 99, 116]) = false := by rw [beq_eq_false_iff_ne]; exact q1
                          have q3 : (su.toList != [79, 98, 106, 101, 99, 116]) = true := by simp [q1]
                          go_quiet (first
                            | (go_at_call 45; refine Calls.quiet_of (HFQ.out _ ?_); exact X3.out.drewN _))
                          obtain ⟨Wq, hWq⟩ : ∃ Wq, W3.drewN nq = Wq := ⟨_, rfl⟩
                          have XW := Lib.hid (XQ.out nq)
                          have zz := ZQ.out nq
                          rw [hWq] at XW zz ⊢
                          clear hWq
                          have HRE := HBADF.out (by rw [HFL.out]; simp [hso])
                          have HXF : Hid (∀ q, Ext w (Wq.drewN q)) := Lib.hid fun q => HX6.out.trans (XW.out.drewN q)
                          go_wp2_with fail
                          go_quiet (fail)
                          go_wp2
                          go_ret3
                          exact ⟨HXF.out _, .inl ⟨_, _, HRR.out.trans HRE.out, rfl⟩⟩
                    · go_quiet (first
                        | (go_at_call 45; refine Calls.quiet_of (HFQ.out _ ?_); exact X3.out.drewN _))
                      obtain ⟨Wq, hWq⟩ : ∃ Wq, W3.drewN nq = Wq := ⟨_, rfl⟩
                      have XW := Lib.hid (XQ.out nq)
                      have zz := ZQ.out nq
                      rw [hWq] at XW zz ⊢
                      clear hWq
                      have HRE := HBADF.out (by rw [HFL.out]; simp)
                      have HXF : Hid (∀ q, Ext w (Wq.drewN q)) := Lib.hid fun q => HX6.out.trans (XW.out.drewN q)
                      go_wp2_with fail
                      go_quiet (fail)
                      go_wp2
                      go_ret3
                      exact ⟨HXF.out _, .inl ⟨_, _, HRR.out.trans HRE.out, rfl⟩⟩
                  · have hltz : ¬ (i : Int) < (m : Int) := by omega
                    have HNF3 : Hid (R = restC N 3) := Lib.hid (next_flt (by omega) HNF2.out (fun j h1 h2 => HF.out j h1 (by rw [HNL.out] at h2; omega)))
                    have HALL2 : Hid (∀ j, 8 ≤ j → j < N.length → fltC 2 N j = none) := Lib.hid (fun j h1 h2 => HF.out j h1 (by rw [HNL.out] at h2; omega))
                    have HXS3 := HX
                    obtain ⟨d0, -, -⟩ := (HAT.out 0 (by omega)).choose_spec.2.2 wr HX.out
                    clear HF HX
                    go_wp2_with fail
                    go_loopw [14] (fun iv wr => ∃ i : Nat, iv = .int .i64 i ∧ 8 ≤ i ∧ i ≤ m ∧ Hid (∀ j, 8 ≤ j → j < i → fltC 3 N j = none) ∧ Hid (Ext W6 wr)) (fun iv _ => m - (intOf iv).toNat)
                    case atStart => exact ⟨8, rfl, by omega, by omega, Lib.hid (fun j h1 h2 => by omega), HXS3⟩
                    case round =>
                      obtain ⟨i, rfl, hi8, him, HF, HX⟩ := hrel
                      rename World => wr
                      by_cases hlt : i < m
                      · have hltz : (i : Int) < (m : Int) := by omega
                        have hi0 : ¬ (i : Int) < 0 := by omega
                        have HIN : Hid (i < N.length) := Lib.hid (by rw [HNL.out]; exact hlt)
                        obtain ⟨x, hxk0, hvn, hat⟩ := HAT.out i hlt
                        have hxk : x.k = gk N i := by rw [hxk0]; exact HGK.out i hi8
                        have HXK := Lib.hid hxk
                        have HAX := Lib.hid hat
                        have HVN := Lib.hid hvn
                        obtain ⟨d0, ⟨d1, d2, d3, d4, d5, d6, d7⟩, -⟩ := hat wr HX.out
                        have hbq := heap_alloc_new wr (.cells #[.slice x.vp.A x.vp.n x.vp.c, .string x.k.nm, .string x.k.sup, .bool x.k.inf, .slice x.vi.A x.vi.n x.vi.c, .slice x.vf.A x.vf.n x.vf.c, .slice x.vm.A x.vm.n x.vm.c] 36)
                        obtain ⟨W3, hW3⟩ : ∃ W3, wr.alloc (.cells #[.slice x.vp.A x.vp.n x.vp.c, .string x.k.nm, .string x.k.sup, .bool x.k.inf, .slice x.vi.A x.vi.n x.vi.c, .slice x.vf.A x.vf.n x.vf.c, .slice x.vm.A x.vm.n x.vm.c] 36) = W3 := ⟨_, rfl⟩
                        rw [hW3] at hbq
                        have X3 : Hid (Ext W6 W3) := Lib.hid (by rw [← hW3]; exact HX.out.alloc _)
                        obtain ⟨qb, hqb⟩ : ∃ qb, wr.heap.size = qb := ⟨_, rfl⟩
                        rw [hqb] at hbq
                        have HQB : Hid (∀ W, Ext W3 W → W.cell? ⟨qb, 1, none⟩ = some (.string x.k.nm) ∧ W.cell? ⟨qb, 2, none⟩ = some (.string x.k.sup) ∧ W.cell? ⟨qb, 3, none⟩ = some (.bool x.k.inf) ∧ W.cell? ⟨qb, 4, none⟩ = some (.slice x.vi.A x.vi.n x.vi.c)) := Lib.hid fun W e => by
                          have h1 := (e.block _ (lt_of_get hbq)).trans hbq
                          refine ⟨?_, ?_, ?_, ?_⟩
                          all_goals
                            rw [cell_of_row W qb _ _ _ (0, 0) h1]
                            rfl
                        have HXW : Hid (∀ W, Ext W3 W → Ext W6 W) := Lib.hid fun W e => X3.out.trans e
                        clear hxk0 hxk hvn hbq hat
                        go_upto_region 40 with fail
                        try rw [hqb]
                        try rw [hW3]
                        obtain ⟨q, hq⟩ : ∃ q, x.k.ifs.length = q := ⟨_, rfl⟩
                        have HQ := Lib.hid hq
                        obtain ⟨vA, hvA⟩ : ∃ vA, x.vi.A = vA := ⟨_, rfl⟩
                        obtain ⟨vc, hvc⟩ : ∃ vc, x.vi.c = vc := ⟨_, rfl⟩
                        have HBC : Hid (∀ W, Ext W3 W → W.cell? ⟨qb, 1, none⟩ = some (.string x.k.nm) ∧ W.cell? ⟨qb, 4, none⟩ = some (.slice vA q vc) ∧ W.cell? ⟨sb, 0, none⟩ = some (.slice (some ⟨g, 0, none⟩) m c6) ∧ ShS.Row W (.slice vA q vc) x.k.ifs) := Lib.hid fun W e => by
                          obtain ⟨h1, -, -, h4⟩ := HQB.out W e
                          have h0 := (HAX.out W (X3.out.trans e)).1
                          have h5 := (HAX.out W (X3.out.trans e)).2.2
                          unfold NestK Sl.v at h5
                          rw [HVN.out, HQ.out, hvA, hvc] at h5
                          rw [HVN.out, HQ.out, hvA, hvc] at h4
                          exact ⟨h1, h4, h0, h5⟩
                        have hqb2 : q ≤ 9223372036854775807 := by
                          obtain ⟨A9, c9, e9, h9, h10, -⟩ := (HBC.out W3 (Ext.refl _)).2.2.2.cut
                          unfold maxLen at h10
                          injection e9
                          omega
                        have hs2 := flt2_some (HALL1.out i hi8 HIN.out)
                        have HKN : Hid (∀ y ∈ x.k.ifs, ∃ fz : Nat, findZ N y = fz ∧ fz < m) := Lib.hid fun y hy => by
                          have h1 := hs2.2 y (by rw [← HXK.out]; exact hy)
                          have h2 := findZ_lt N y
                          rw [HNL.out] at h2
                          exact ⟨(findZ N y).toNat, by omega, by omega⟩
                        have HFL : Hid (fltC 3 N i = if bad4 N [] x.k.ifs then some (x.k.nm, 90) else none) := Lib.hid (by rw [HXK.out]; rfl)
                        clear hs2 hq hvA hvc d0 d1 d2 d3 d4 d5 d6 d7 hW3 hqb HQB
                        obtain ⟨nm, hnm⟩ : ∃ nm, x.k.nm = nm := ⟨_, rfl⟩
                        rw [hnm] at HBC HFL
                        clear hnm
                        have bad : bad4 N [] x.k.ifs = true → Hid (R = some (nm, 90)) := fun h => Lib.hid (first_flt (by omega) HNF3.out HF.out hi8 HIN.out (by rw [HFL.out, h]; rfl))
                        have HBADF := Lib.hid bad
                        clear bad
                        obtain ⟨z1, z4, z0, -⟩ := HBC.out W3 (Ext.refl _)
                        go_wp2_with fail
                        go_loopw [16] (fun kv wq => ∃ k : Nat, kv = .int .i64 k ∧ k ≤ q ∧ Hid (bad4 N [] x.k.ifs = bad4 N (x.k.ifs.take k) (x.k.ifs.drop k)) ∧ Hid (Ext W3 wq)) (fun kv _ => q - (intOf kv).toNat)
                        case atStart => exact ⟨0, rfl, by omega, Lib.hid (by simp), Lib.hid (Ext.refl _)⟩
                        case round =>
                          obtain ⟨k, rfl, hk, HBK, HXq⟩ := hrel
                          rename World => wq
                          clear z1 z4 z0
                          obtain ⟨z1, z4, z0, hrow⟩ := HBC.out wq HXq.out
                          by_cases hlk : k < q
                          · have hlkz : (k : Int) < (q : Int) := by omega
                            have hk0 : ¬ (k : Int) < 0 := by omega
                            have hkl : k < x.k.ifs.length := by rw [HQ.out]; exact hlk
                            obtain ⟨bs, os, hA, hats⟩ := rowS_at hrow (by omega)
                            subst hA
                            obtain ⟨y, hy⟩ : ∃ y, x.k.ifs[k]? = some y := ⟨x.k.ifs[k], List.getElem?_eq_getElem hkl⟩
                            have HSY : Hid (∀ W, Ext wq W → ∀ j z, x.k.ifs[j]? = some z → W.cell? ⟨bs, os + j, none⟩ = some (.string z)) := Lib.hid fun W e j z hz => by
                              have h := hats W e j (List.getElem?_eq_some_iff.1 hz).1
                              rw [show gs x.k.ifs j = z by unfold gs; rw [ShS.el_get (List.getElem?_eq_some_iff.1 hz).1]; exact (List.getElem?_eq_some_iff.1 hz).2] at h
                              exact h
                            have HY := Lib.hid hy
                            have HST := Lib.hid (bad4_step (N := N) (l := []) hy)
                            clear hats hrow hkl hy
                            go_wp2_with fail
                            go_loopw [17] (fun jv wj => ∃ j : Nat, jv = .int .i64 j ∧ j ≤ k ∧ Hid (∀ z ∈ x.k.ifs.take j, ¬ z = y) ∧ Hid (Ext wq wj)) (fun jv _ => k - (intOf jv).toNat)
                            case atStart => exact ⟨0, rfl, by omega, Lib.hid (fun z hz => by simp at hz), Lib.hid (Ext.refl _)⟩
                            case round =>
                              obtain ⟨j, rfl, hj, HJ, HXj⟩ := hrel
                              rename World => wj
                              clear z1 z4 z0
                              obtain ⟨z1, z4, z0, -⟩ := HBC.out wj (HXq.out.trans HXj.out)
                              have s1 := HSY.out wj HXj.out k y HY.out
                              by_cases hlj : j < k
                              · have hljz : (j : Int) < (k : Int) := by omega
                                have hjq : (j : Int) < (q : Int) := by omega
                                have hj0 : ¬ (j : Int) < 0 := by omega
                                obtain ⟨z, hz⟩ : ∃ z, x.k.ifs[j]? = some z := ⟨x.k.ifs[j]'(by rw [HQ.out]; omega), List.getElem?_eq_getElem _⟩
                                have s2 := HSY.out wj HXj.out j z hz
                                have HZJ := Lib.hid hz
                                have XJ : Hid (∀ q, Ext wq (wj.drewN q)) := Lib.hid fun q => HXj.out.drewN q
                                clear hz
                                by_cases hzy : z = y
                                · subst hzy
                                  have HRE := HBADF.out (by
                                    rw [HBK.out, HST.out]
                                    have : (x.k.ifs.take k).any (fun y => decide (y = z)) = true := List.any_eq_true.2 ⟨z, List.mem_iff_getElem?.2 ⟨j, by rw [List.getElem?_take, if_pos hlj]; exact HZJ.out⟩, by simp⟩
                                    rw [this]; rfl)
                                  go_wp2_with fail
                                  go_quiet (fail)
                                  obtain ⟨Wq, hWq⟩ : ∃ Wq, wj.drewN nq = Wq := ⟨_, rfl⟩
                                  have XW := Lib.hid (XJ.out nq)
                                  rw [hWq] at XW ⊢
                                  have zz := (HBC.out Wq (HXq.out.trans XW.out)).1
                                  have HXF : Hid (∀ q, Ext w (Wq.drewN q)) := Lib.hid fun q => HX6.out.trans ((X3.out.trans (HXq.out.trans XW.out)).drewN q)
                                  clear hWq
                                  go_wp2_with fail
                                  go_quiet (fail)
                                  go_wp2
                                  go_ret3
                                  exact ⟨HXF.out _, .inl ⟨_, _, HRR.out.trans HRE.out, rfl⟩⟩
                                · have q1 := ba_ne' hzy
                                  have q2 := ba_ne hzy
                                  have HJ2 : Hid (∀ z ∈ x.k.ifs.take (j + 1), ¬ z = y) := Lib.hid fun z' hz' => by
                                    rw [List.take_add_one, HZJ.out] at hz'
                                    rcases List.mem_append.1 hz' with hz' | hz'
                                    · exact HJ.out z' hz'
                                    · have hz' : z' = z := by simpa using hz'
                                      rw [hz']; exact hzy
                                  clear hzy
                                  go_wp2_with fail
                                  go_quiet (fail)
                                  go_wp2_with fail
                                  go_roundw
                                  case rel => exact ⟨j + 1, by go_num, by omega, HJ2, Lib.hid (XJ.out _)⟩
                                  case measure => first | (simp [intOf]; omega) | simp [intOf]
                              · have hljz : ¬ (j : Int) < (k : Int) := by omega
                                have hjk : j = k := by omega
                                subst hjk
                                obtain ⟨fz, hfz, hfzm⟩ := HKN.out y (List.mem_of_getElem? HY.out)
                                obtain ⟨yc, hyk, -, haty⟩ := HAT.out fz hfzm
                                have HAY := Lib.hid (fun W (e : Ext W6 W) => (haty W e).2.1.2.2.2.1)
                                have hyi : yc.k.inf = (gk N fz).inf := by rw [hyk, HNN.out.symm, infR]
                                have hany : (x.k.ifs.take j).any (fun z => decide (z = y)) = false := by
                                  rw [List.any_eq_false]
                                  intro z hz
                                  simp [HJ.out z hz]
                                have hst : bad4 N [] x.k.ifs = (!yc.k.inf || bad4 N (x.k.ifs.take (j + 1)) (x.k.ifs.drop (j + 1))) := by
                                  rw [HBK.out, HST.out, hany, hfz, Int.toNat_natCast, hyi]; rfl
                                have HFQ : Hid (∀ W, Ext W6 W → Calls Tryd.prog 45 #[.slice (some ⟨g, 0, none⟩) m c6, .string y] W fun e w' => e = .returned (.int .i64 (fz : Int)) ∧ ∃ n, w' = W.drewN n) := Lib.hid fun W e => (HFD.out y W e).mono fun e' w' ⟨h1, h2⟩ => ⟨by rw [h1, hfz], 0, by rw [h2]; rfl⟩
                                obtain ⟨ia, hia⟩ : ∃ ia, yc.k.inf = ia := ⟨_, rfl⟩
                                rw [hia] at hst HAY
                                have HSTT := Lib.hid hst
                                have XJ3 : Hid (Ext W6 wj) := Lib.hid (X3.out.trans (HXq.out.trans HXj.out))
                                have z5 := HAY.out wj XJ3.out
                                have hfz0 : ¬ (fz : Int) < 0 := by omega
                                have hfzz : (fz : Int) < (m : Int) := by omega
                                have XJ : Hid (∀ q, Ext wq (wj.drewN q)) := Lib.hid fun q => HXj.out.drewN q
                                clear hfz hyk haty hyi hany hst hia
                                go_upto_region 48 with fail
                                cases ia
                                · have HRE := HBADF.out (by rw [HSTT.out]; rfl)
                                  go_quiet (first
                                    | (go_at_call 45; refine Calls.quiet_of (HFQ.out _ ?_); exact XJ3.out.drewN _))
                                  obtain ⟨Wq, hWq⟩ : ∃ Wq, wj.drewN nq = Wq := ⟨_, rfl⟩
                                  have XW := Lib.hid (XJ.out nq)
                                  rw [hWq] at XW ⊢
                                  have zz := (HBC.out Wq (HXq.out.trans XW.out)).1
                                  have HXF : Hid (∀ q, Ext w (Wq.drewN q)) := Lib.hid fun q => HX6.out.trans ((X3.out.trans (HXq.out.trans XW.out)).drewN q)
                                  clear hWq
                                  go_wp2_with fail
                                  go_quiet (fail)
                                  go_wp2
                                  go_ret3
                                  exact ⟨HXF.out _, .inl ⟨_, _, HRR.out.trans HRE.out, rfl⟩⟩
                                · have HBK2 : Hid (bad4 N [] x.k.ifs = bad4 N (x.k.ifs.take (j + 1)) (x.k.ifs.drop (j + 1))) := Lib.hid (by rw [HSTT.out]; rfl)
                                  go_quiet (first
                                    | (go_at_call 45; refine Calls.quiet_of (HFQ.out _ ?_); exact XJ3.out.drewN _))
                                  go_wp2_with fail
                                  go_roundw
                                  case rel => exact ⟨j + 1, by go_num, by omega, HBK2, Lib.hid (HXq.out.trans (XJ.out _))⟩
                                  case measure => first | (simp [intOf]; omega) | simp [intOf]
                          · have hlkz : ¬ (k : Int) < (q : Int) := by omega
                            have hok : fltC 3 N i = none := by
                              rw [HFL.out, HBK.out, List.drop_of_length_le (by rw [HQ.out]; omega)]
                              rfl
                            have XE : Hid (Ext W6 wq) := Lib.hid (X3.out.trans HXq.out)
                            have HF2 : Hid (∀ j, 8 ≤ j → j < i + 1 → fltC 3 N j = none) := Lib.hid fun j h1 h2 => by
                              by_cases e : j = i
                              · subst e; exact hok
                              · exact HF.out j h1 (by omega)
                            clear hok
                            go_wp2_with fail
                            go_roundw
                            case rel => exact ⟨i + 1, by go_num, by omega, by omega, HF2, XE⟩
                            case measure => first | (simp [intOf]; omega) | simp [intOf]
                      · have hltz : ¬ (i : Int) < (m : Int) := by omega
                        have HNF4 : Hid (R = restC N 4) := Lib.hid (next_flt (by omega) HNF3.out (fun j h1 h2 => HF.out j h1 (by rw [HNL.out] at h2; omega)))
                        have HALL3 : Hid (∀ j, 8 ≤ j → j < N.length → fltC 3 N j = none) := Lib.hid (fun j h1 h2 => HF.out j h1 (by rw [HNL.out] at h2; omega))
                        have HXS4 := HX
                        obtain ⟨d0, -, -⟩ := (HAT.out 0 (by omega)).choose_spec.2.2 wr HX.out
                        clear HF HX
                        go_wp2_with fail
                        go_loopw [18] (fun iv wr => ∃ i : Nat, iv = .int .i64 i ∧ 8 ≤ i ∧ i ≤ m ∧ Hid (∀ j, 8 ≤ j → j < i → fltC 4 N j = none) ∧ Hid (Ext W6 wr)) (fun iv _ => m - (intOf iv).toNat)
                        case atStart => exact ⟨8, rfl, by omega, by omega, Lib.hid (fun j h1 h2 => by omega), HXS4⟩
                        case round =>
                          obtain ⟨i, rfl, hi8, him, HF, HX⟩ := hrel
                          rename World => wr
                          by_cases hlt : i < m
                          · have hltz : (i : Int) < (m : Int) := by omega
                            have hi0 : ¬ (i : Int) < 0 := by omega
                            have HIN : Hid (i < N.length) := Lib.hid (by rw [HNL.out]; exact hlt)
                            obtain ⟨x, hxk0, -, hat⟩ := HAT.out i hlt
                            have hxk : x.k = gk N i := by rw [hxk0]; exact HGK.out i hi8
                            have hrg := rring_any (HRF.out.ext HX.out) (fun j h1 h2 => by rw [HNN.out] at h2 ⊢; exact HALL1.out j h1 h2) i hlt
                            have hfl : fltC 4 N i = if ringF (grK N).ups m i then some (x.k.nm, 91) else none := by rw [hxk, ← HNL.out]; rfl
                            rw [HNN.out] at hrg
                            obtain ⟨rb, hrb⟩ : ∃ rb, ringF (grK N).ups m i = rb := ⟨_, rfl⟩
                            rw [hrb] at hrg hfl
                            have HRG := Lib.hid hrg
                            have HFL := Lib.hid hfl
                            have HC := Lib.hid (fun W (e : Ext W6 W) => And.intro (hat W e).1 (hat W e).2.1.2.1)
                            obtain ⟨nm, hnm⟩ : ∃ nm, x.k.nm = nm := ⟨_, rfl⟩
                            rw [hnm] at HFL HC
                            obtain ⟨d0, d1⟩ := HC.out wr HX.out
                            clear hxk0 hxk hat hrg hfl hrb hnm
                            go_wp2_with fail
                            refine HRG.out.mono ?_
                            rintro e w5 ⟨rfl, x5⟩
                            have X5 := Lib.hid (HX.out.trans x5)
                            obtain ⟨t0, t1⟩ := HC.out w5 X5.out
                            clear x5 d0 d1
                            cases rb
                            · have hok : fltC 4 N i = none := by rw [HFL.out]; rfl
                              have HF2 : Hid (∀ j, 8 ≤ j → j < i + 1 → fltC 4 N j = none) := Lib.hid fun j h1 h2 => by
                                by_cases e : j = i
                                · subst e; exact hok
                                · exact HF.out j h1 (by omega)
                              clear hok
                              go_wp2_with fail
                              go_roundw
                              case rel => exact ⟨i + 1, by go_num, by omega, by omega, HF2, X5⟩
                              case measure => first | (simp [intOf]; omega) | simp [intOf]
                            · have HRE : Hid (R = some (nm, 91)) := Lib.hid (first_flt (by omega) HNF4.out HF.out hi8 HIN.out (by rw [HFL.out]; rfl))
                              have HXF : Hid (∀ q, Ext w (w5.drewN q)) := Lib.hid fun q => HX6.out.trans (X5.out.drewN q)
                              go_wp2_with fail
                              go_quiet (fail)
                              go_wp2
                              go_ret3
                              exact ⟨HXF.out _, .inl ⟨_, _, HRR.out.trans HRE.out, rfl⟩⟩
                          · have hltz : ¬ (i : Int) < (m : Int) := by omega
                            have HNF5 : Hid (R = restC N 5) := Lib.hid (next_flt (by omega) HNF4.out (fun j h1 h2 => HF.out j h1 (by rw [HNL.out] at h2; omega)))
                            have HALL4 : Hid (∀ j, 8 ≤ j → j < N.length → fltC 4 N j = none) := Lib.hid (fun j h1 h2 => HF.out j h1 (by rw [HNL.out] at h2; omega))
                            have HXS5 := HX
                            obtain ⟨d0, -, -⟩ := (HAT.out 0 (by omega)).choose_spec.2.2 wr HX.out
                            clear HF HX
                            have HR0 : Hid (newF K = none) := Lib.hid (HRR.out.trans (HNF5.out.trans (restC_end N)))
                            go_wp2_with fail
                            go_ret3
                            exact ⟨HX6.out.trans HXS5.out, .inr ⟨HR0.out, _, _, _, _, _, _, rfl, HSET.out.trans HNN.out.symm, HRF.out.ext HXS5.out, HWHO.out⟩⟩
end Go.Proofs.YtkkfkjjmmdpafaaDoor
