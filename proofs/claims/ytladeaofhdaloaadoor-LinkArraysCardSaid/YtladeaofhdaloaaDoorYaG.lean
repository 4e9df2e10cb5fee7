/- Several texts of this proof, one behind the other. -/
import Derived.Test.YtladeaofhdaloaaDoorYaD
import Derived.Test.YtladeaofhdaloaaDoorYaF
import Derived.Test.YtladeaofhdaloaaDoorShelf5
import Derived.Test.YtladeaofhdaloaaDoorProg
import Derived.Deep.RegionHeld3
import Derived.Lib.SliceRun
import Derived.Maps.Own
namespace Go.Proofs.YtladeaofhdaloaaDoor
open Go.RowKit
set_option linter.unusedVariables false

set_option maxRecDepth 100000 in
theorem sclone_any (s : ByteArray) (w : World) (hs : s.size ≤ 140737488351232) : Calls Tryd.prog 51 #[.string s] w fun e w' => e = .returned (.string s) ∧ Ext w w' := by
  go_enter Tryd.func51, Tryd.ntmps51
  go_wp2_with fail
  refine (Tryd.stringslite_Clone s _ (by omega)).mono ?_
  rintro e w1 ⟨rfl, h1⟩
  have h1 : Ext w w1 := h1
  go_wp2
  go_ret
  exact ⟨rfl, h1⟩
set_option maxRecDepth 100000 in
theorem eachC_nil (w : World) (f : Value) : Calls Tryd.prog 75 #[.slice none 0 0, f] w fun e w' => e = .returned (.slice none 0 0) ∧ w' = w := by
  have hq := Lib.run_eql_slice_nil (P := Tryd.prog) w 31 98 none 0 0 0 0 Tryd.underlying31
  go_enter Tryd.func75, Tryd.ntmps75
  go_wp2
  go_ret
  exact ⟨rfl, rfl⟩
set_option maxRecDepth 100000 in
theorem eachF_nil (w : World) (f : Value) : Calls Tryd.prog 78 #[.slice none 0 0, f] w fun e w' => e = .returned (.slice none 0 0) ∧ w' = w := by
  have hq := Lib.run_eql_slice_nil (P := Tryd.prog) w 33 103 none 0 0 0 0 Tryd.underlying33
  go_enter Tryd.func78, Tryd.ntmps78
  go_wp2
  go_ret
  exact ⟨rfl, rfl⟩
set_option maxRecDepth 100000 in
theorem eachM_nil (w : World) (f : Value) : Calls Tryd.prog 80 #[.slice none 0 0, f] w fun e w' => e = .returned (.slice none 0 0) ∧ w' = w := by
  have hq := Lib.run_eql_slice_nil (P := Tryd.prog) w 34 112 none 0 0 0 0 Tryd.underlying34
  go_enter Tryd.func80, Tryd.ntmps80
  go_wp2
  go_ret
  exact ⟨rfl, rfl⟩
theorem Shp.Own.base' {α : Type} {S : Shp α} {B B' : Nat} {w : World} {v : Value} {l : List α} (h : S.Own B w v l) (hB : B' ≤ B) (hn : ∀ x, S.nestO B w x → S.nestO B' w x := by exact fun _ h => h) : S.Own B' w v l := by
  obtain ⟨⟨h1, h2⟩, hf⟩ := h
  refine ⟨⟨h1, ?_⟩, fun x hx => hn x (hf x hx)⟩
  rcases h2 with h2 | ⟨g, cap, cur, hv, hb, hr⟩
  · exact .inl h2
  · exact .inr ⟨g, cap, cur, hv, by omega, hr⟩
theorem infoS : (Tryd.prog.info? 9).map (fun i => (i.zero, i.size, i.bytes)) = some (some (.string ⟨#[]⟩), ShS.n, 16) := by kernel_rfl
theorem rep_set {α : Type} {l : List α} {z x : α} {k n : Nat} (h : l[k]? = some x) (hn : l.length = n) : (l.take k ++ List.replicate (n - k) z).set k x = l.take (k + 1) ++ List.replicate (n - (k + 1)) z := by
  obtain ⟨hk, rfl⟩ := List.getElem?_eq_some_iff.1 h
  have hl : (l.take k).length = k := by simp; omega
  rw [List.take_succ_eq_append_getElem hk, show n - k = (n - (k + 1)) + 1 by omega, List.replicate_succ, List.set_append_right _ _ (by omega), hl, Nat.sub_self, List.set_cons_zero, List.append_assoc]
  rfl
set_option maxRecDepth 100000 in
set_option maxHeartbeats 4000000 in
theorem eachS_any {w : World} {v : Value} {l : List ByteArray} (h : ShS.Row w v l) (hz : ∀ x ∈ l, x.size ≤ 140737488351232) (hl : l.length * 16 ≤ 140737488351232) :
    Calls Tryd.prog 77 #[v, .func (.func 51) #[] #[]] w fun e w' => ∃ A' n' c', e = .returned (.slice A' n' c') ∧ ShS.Own w.heap.size w' (.slice A' n' c') l ∧ Ext w w' := by
  obtain ⟨A, c, rfl, hc, hm, hn⟩ := h.cut
  rcases A with _ | ad
  · have hc0 := hn rfl
    subst hc0
    have hl0 : l = [] := List.eq_nil_of_length_eq_zero (by omega)
    subst hl0
    clear h hz hl hc hm hn
    have hq := Lib.run_eql_slice_nil (P := Tryd.prog) w 32 9 none 0 0 0 0 Tryd.underlying32
    go_enter Tryd.func77, Tryd.ntmps77
    go_wp2
    go_ret
    exact ⟨none, 0, 0, rfl, Shp.Own.nil _ _ _, Ext.refl _⟩
  · have HR := Lib.hid h
    have HZ := Lib.hid hz
    obtain ⟨n, hnl⟩ : ∃ n, l.length = n := ⟨_, rfl⟩
    have HN := Lib.hid hnl
    rw [hnl] at hc HR hl ⊢
    unfold maxLen at hm
    clear h hz hn hnl
    have hq := Lib.run_eql_slice_nil (P := Tryd.prog) w 32 9 (some ad) n c 0 0 Tryd.underlying32
    go_enter Tryd.func77, Tryd.ntmps77
    go_wp2_with (at_make; refine ShS.wpList_make _ rfl _ _ w.heap.size 32 _ 16 rfl Tryd.underlying32 infoS rfl (fun _ => trivial) _ _ _ _ n rfl rfl rfl rfl (by omega) (by decide) (Nat.le_refl _) ?_; intro w1 ho1 hg1)
    have HO1 : Hid (ShS.Own w.heap.size w1 (.slice (some ⟨w.heap.size, 0, none⟩) n n) (l.take 0 ++ List.replicate (n - 0) ShS.zero)) := Lib.hid (by simpa using ho1)
    have HX1 := Lib.hid ((Ext.refl w).grown hg1 (fun g h => by cases h))
    clear ho1 hg1
    obtain ⟨b0, hb0⟩ : ∃ b0, w.heap.size = b0 := ⟨_, rfl⟩
    have HB0 := Lib.hid hb0
    rw [hb0] at HO1 ⊢
    clear hb0
    go_loopw [15] (fun iv wr => ∃ k : Nat, iv = .int .i64 k ∧ k ≤ n ∧ Hid (ShS.Own b0 wr (.slice (some ⟨b0, 0, none⟩) n n) (l.take k ++ List.replicate (n - k) ShS.zero)) ∧ Hid (Ext w wr)) (fun iv _ => n - (intOf iv).toNat)
    case atStart => exact ⟨0, rfl, by omega, HO1, HX1⟩
    case round =>
      obtain ⟨k, rfl, hk, HO, HX⟩ := hrel
      rename World => wr
      clear HO1 HX1
      by_cases hlt : k < n
      · have hltz : (k : Int) < (n : Int) := by omega
        have hkl : k < l.length := by have := HN.out; omega
        obtain ⟨b, o, hA, hat⟩ := rowS_at HR.out (by omega)
        injection hA with hA
        subst hA
        have y0 := hat wr HX.out k hkl
        obtain ⟨x, hx⟩ : ∃ x, l[k]? = some x := ⟨l[k], List.getElem?_eq_getElem hkl⟩
        have hgs : gs l k = x := by unfold gs; rw [ShS.el_get hkl]; exact (List.getElem?_eq_some_iff.1 hx).2
        rw [hgs] at y0
        have HC := Lib.hid (sclone_any x wr (HZ.out x (List.mem_of_getElem? hx)))
        have HSET := Lib.hid (rep_set (z := ShS.zero) hx HN.out)
        have hlen : (l.take k ++ List.replicate (n - k) ShS.zero).length = n := by have := HN.out; simp; omega
        have HLEN := Lib.hid hlen
        clear hat hkl hx hgs hlen
        go_wp2_with fail
        refine HC.out.mono ?_
        rintro e0 w5 ⟨rfl, x5⟩
        have O5 := HO.out.ext x5
        have hfr : w5.frozen? ⟨b0, k, none⟩ = false := by
          obtain ⟨c5, z5, h5⟩ := Shp.Own.typed O5 b0 rfl
          rcases O5.1.2 with ⟨e1, _⟩ | ⟨g, cap, cur, e1, _, hg, _⟩
          · cases e1
          · injection e1 with e1
            injection e1 with e1
            injection e1 with e1
            subst e1
            simp [World.frozen?, hg]
        have hce : ∃ u, w5.cell? ⟨b0, k, none⟩ = some u := by
          obtain ⟨b, o, hA, hat⟩ := rowS_at O5.row (by rw [HLEN.out]; omega)
          injection hA with hA
          injection hA with h1 h2
          subst h1 h2
          have := hat w5 (Ext.refl _) k (by rw [HLEN.out]; exact hlt)
          rw [Nat.zero_add] at this
          exact ⟨_, this⟩
        obtain ⟨uu, hce⟩ := hce
        have O6 := O5.setCell k 0 (by rw [HLEN.out]; exact hlt) (by decide) (.string x) x (by simp [ShS, flat]) trivial
        rw [HSET.out, show k * ShS.n + 0 = k by rw [show ShS.n = 1 from rfl]; omega] at O6
        have HO6 := Lib.hid O6
        have HX6 := Lib.hid ((HX.out.trans x5).set_ (p := ⟨b0, k, none⟩) (by show w.heap.size ≤ b0; rw [HB0.out]; exact Nat.le_refl _) (.string x))
        clear O5 O6 x5 HC HSET y0
        go_wp2_with fail
        go_roundw
        case rel => exact ⟨k + 1, by go_num, by omega, HO6, HX6⟩
        case measure => first | (simp [intOf]; omega) | simp [intOf]
      · have hltz : ¬ (k : Int) < (n : Int) := by omega
        go_wp2
        go_ret
        have h1 := HO.out
        have h2 := HN.out
        rw [List.take_of_length_le (by omega), show n - k = 0 by omega] at h1
        exact ⟨some ⟨b0, 0, none⟩, n, n, rfl, by rw [HB0.out]; simpa using h1, HX.out⟩
def sets7 (w : World) (b : Nat) (v0 v1 v2 v3 v4 v5 v6 : Value) : World := ((((((w.setCell ⟨b, 0, none⟩ v0).setCell ⟨b, 1, none⟩ v1).setCell ⟨b, 2, none⟩ v2).setCell ⟨b, 3, none⟩ v3).setCell ⟨b, 4, none⟩ v4).setCell ⟨b, 5, none⟩ v5).setCell ⟨b, 6, none⟩ v6
theorem sets7_heap {w : World} {b : Nat} {T : TypeId} {u0 u1 u2 u3 u4 u5 u6 : Value} (h : w.heap[b]? = some (.cells #[u0, u1, u2, u3, u4, u5, u6] T (0, 0))) (v0 v1 v2 v3 v4 v5 v6 : Value) : (sets7 w b v0 v1 v2 v3 v4 v5 v6).heap[b]? = some (.cells #[v0, v1, v2, v3, v4, v5, v6] T (0, 0)) := by
  have h0 : (w.setCell ⟨b, 0, none⟩ v0).heap[b]? = some (.cells #[v0, u1, u2, u3, u4, u5, u6] T (0, 0)) := heap_setCell_same w b 0 _ _ v0 h
  have h1 : ((w.setCell ⟨b, 0, none⟩ v0).setCell ⟨b, 1, none⟩ v1).heap[b]? = some (.cells #[v0, v1, u2, u3, u4, u5, u6] T (0, 0)) := heap_setCell_same _ b 1 _ _ v1 h0
  have h2 := heap_setCell_same _ b 2 _ _ v2 h1
  simp only [List.setIfInBounds_toArray, List.set_cons_succ, List.set_cons_zero] at h2
  have h3 := heap_setCell_same _ b 3 _ _ v3 h2
  simp only [List.setIfInBounds_toArray, List.set_cons_succ, List.set_cons_zero] at h3
  have h4 := heap_setCell_same _ b 4 _ _ v4 h3
  simp only [List.setIfInBounds_toArray, List.set_cons_succ, List.set_cons_zero] at h4
  have h5 := heap_setCell_same _ b 5 _ _ v5 h4
  simp only [List.setIfInBounds_toArray, List.set_cons_succ, List.set_cons_zero] at h5
  have h6 := heap_setCell_same _ b 6 _ _ v6 h5
  simp only [List.setIfInBounds_toArray, List.set_cons_succ, List.set_cons_zero] at h6
  exact h6
theorem sets7_grown {a w : World} {b : Nat} (h : a.grownBy w (some b)) (v0 v1 v2 v3 v4 v5 v6 : Value) : a.grownBy (sets7 w b v0 v1 v2 v3 v4 v5 v6) (some b) :=
  only_set (only_set (only_set (only_set (only_set (only_set (only_set h _ _) _ _) _ _) _ _) _ _) _ _) _ _
set_option maxRecDepth 100000 in
set_option maxHeartbeats 4000000 in
theorem own_any {w : World} (k : Kl) (A : Option Addr) (n c : Nat) (h : ShS.Row w (.slice A n c) k.ifs) (hn : k.nm.size ≤ 140737488351232) (hs : k.sup.size ≤ 140737488351232) (hz : ∀ x ∈ k.ifs, x.size ≤ 140737488351232) (hl : k.ifs.length * 16 ≤ 140737488351232) :
    Calls Tryd.prog 49 #[.agg #[.slice none 0 0, .string k.nm, .string k.sup, .bool k.inf, .slice A n c, .slice none 0 0, .slice none 0 0]] w fun e w' => ∃ A' n' c', e = .returned (.agg #[.slice none 0 0, .string k.nm, .string k.sup, .bool k.inf, .slice A' n' c', .slice none 0 0, .slice none 0 0]) ∧ ShS.Own w.heap.size w' (.slice A' n' c') k.ifs ∧ Ext w w' := by
  obtain ⟨nm, sup, inf, ifs⟩ := k
  simp only at h hn hs hz hl
  obtain ⟨b0, hb0⟩ : ∃ b0, w.heap.size = b0 := ⟨_, rfl⟩
  have HB0 := Lib.hid hb0
  have H1 := Lib.hid (fun W => sclone_any nm W hn)
  have H2 := Lib.hid (fun W => sclone_any sup W hs)
  have H3 := Lib.hid (fun W (e : Ext w W) => eachS_any (h.ext e) hz hl)
  have H4 := Lib.hid (fun W => eachC_nil W (.func (.func 76) #[] #[]))
  have H5 := Lib.hid (fun W => eachF_nil W (.func (.func 79) #[] #[]))
  have H6 := Lib.hid (fun W => eachM_nil W (.func (.func 81) #[] #[]))
  obtain ⟨W, hW⟩ : ∃ W, ((w.alloc (.cells #[.slice none 0 0, .string nm, .string sup, .bool inf, .slice A n c, .slice none 0 0, .slice none 0 0] 36)).alloc (.cells #[.slice none 0 0, .string ⟨#[]⟩, .string ⟨#[]⟩, .bool false, .slice none 0 0, .slice none 0 0, .slice none 0 0] 36)) = W := ⟨_, rfl⟩
  have hp : W.heap[b0]? = some (.cells #[.slice none 0 0, .string nm, .string sup, .bool inf, .slice A n c, .slice none 0 0, .slice none 0 0] 36 (0, 0)) := by
    rw [← hW, ← hb0, heap_alloc_old _ _ (by simp)]
    exact heap_alloc_new w _
  have hr : W.heap[b0 + 1]? = some (.cells #[.slice none 0 0, .string ⟨#[]⟩, .string ⟨#[]⟩, .bool false, .slice none 0 0, .slice none 0 0, .slice none 0 0] 36 (0, 0)) := by
    rw [← hW, ← hb0]
    have := heap_alloc_new (w.alloc (.cells #[.slice none 0 0, .string nm, .string sup, .bool inf, .slice A n c, .slice none 0 0, .slice none 0 0] 36)) (.cells #[.slice none 0 0, .string ⟨#[]⟩, .string ⟨#[]⟩, .bool false, .slice none 0 0, .slice none 0 0, .slice none 0 0] 36)
    simpa using this
  have HX : Hid (Ext w W) := Lib.hid (by rw [← hW]; exact ((Ext.refl w).alloc _).alloc _)
  have HS : Hid (∀ W', Ext W W' → (W'.cell? ⟨b0, 0, none⟩ = some (.slice none 0 0) ∧ W'.cell? ⟨b0, 1, none⟩ = some (.string nm) ∧ W'.cell? ⟨b0, 2, none⟩ = some (.string sup) ∧ W'.cell? ⟨b0, 3, none⟩ = some (.bool inf) ∧ W'.cell? ⟨b0, 4, none⟩ = some (.slice A n c) ∧ W'.cell? ⟨b0, 5, none⟩ = some (.slice none 0 0) ∧ W'.cell? ⟨b0, 6, none⟩ = some (.slice none 0 0))) := Lib.hid fun W' e => by
    have h1 := (e.block _ (lt_of_get hp)).trans hp
    refine ⟨?_, ?_, ?_, ?_, ?_, ?_, ?_⟩
    all_goals
      rw [cell_of_row W' b0 _ _ _ (0, 0) h1]
      rfl
  have HR : Hid (∀ W', Ext W W' → (W'.cell? ⟨b0 + 1, 0, none⟩ = some (.slice none 0 0) ∧ W'.cell? ⟨b0 + 1, 1, none⟩ = some (.string ⟨#[]⟩) ∧ W'.cell? ⟨b0 + 1, 2, none⟩ = some (.string ⟨#[]⟩) ∧ W'.cell? ⟨b0 + 1, 3, none⟩ = some (.bool false) ∧ W'.cell? ⟨b0 + 1, 4, none⟩ = some (.slice none 0 0) ∧ W'.cell? ⟨b0 + 1, 5, none⟩ = some (.slice none 0 0) ∧ W'.cell? ⟨b0 + 1, 6, none⟩ = some (.slice none 0 0) ∧ ∀ j, W'.frozen? ⟨b0 + 1, j, none⟩ = false)) := Lib.hid fun W' e => by
    have h1 := (e.block _ (lt_of_get hr)).trans hr
    refine ⟨?_, ?_, ?_, ?_, ?_, ?_, ?_, fun j => by simp [World.frozen?, h1]⟩
    all_goals
      rw [cell_of_row W' (b0 + 1) _ _ _ (0, 0) h1]
      rfl
  have HRB : Hid (∀ W', Ext W W' → W'.heap[b0 + 1]? = some (.cells #[.slice none 0 0, .string ⟨#[]⟩, .string ⟨#[]⟩, .bool false, .slice none 0 0, .slice none 0 0, .slice none 0 0] 36 (0, 0))) := Lib.hid fun W' e => (e.block _ (lt_of_get hr)).trans hr
  have e1 := (Ext.refl W).drew
  have f1 := HS.out _ e1
  clear h hn hs hz hl hp hr
  go_enter Tryd.func49, Tryd.ntmps49
  go_wp2_with fail
  try rw [hW]
  clear hW hb0
  go_region_held3 (fun w' => w'.cell? ⟨b0, 0, none⟩ = some (.slice none 0 0) ∧ w'.cell? ⟨b0, 1, none⟩ = some (.string nm) ∧ w'.cell? ⟨b0, 2, none⟩ = some (.string sup) ∧ w'.cell? ⟨b0, 3, none⟩ = some (.bool inf) ∧ w'.cell? ⟨b0, 4, none⟩ = some (.slice A n c) ∧ w'.cell? ⟨b0, 5, none⟩ = some (.slice none 0 0) ∧ w'.cell? ⟨b0, 6, none⟩ = some (.slice none 0 0)) (first | go_keep | with_reducible assumption | assumption) (first
    | (go_at_call 75; (with_reducible refine (H4.out _).mono ?_); rintro e2 w2 ⟨rfl, rfl⟩)
    | (go_at_call 51; (with_reducible refine (H1.out _).mono ?_); rintro e2 w2 ⟨rfl, x2⟩; have X2 := Lib.hid (e1.trans x2); have f2 := HS.out w2 X2.out)
    | (go_at_call 51; (with_reducible refine (H2.out _).mono ?_); rintro e2 w3 ⟨rfl, x3⟩; have X3 := Lib.hid (X2.out.trans x3); have f3 := HS.out w3 X3.out)
    | (go_at_call 77; (with_reducible refine (H3.out w3 (HX.out.trans X3.out)).mono ?_); rintro e2 w4 ⟨A4, n4, c4, rfl, o4, x4⟩; have X4 := Lib.hid (X3.out.trans x4); have O4 := Lib.hid o4; have f4 := HS.out w4 X4.out; have r4 := HR.out w4 X4.out)
    | (go_at_call 78; (with_reducible refine (H5.out _).mono ?_); rintro e2 w5 ⟨rfl, rfl⟩)
    | (go_at_call 80; (with_reducible refine (H6.out _).mono ?_); rintro e2 w6 ⟨rfl, rfl⟩))
  rename World => w6
  have hH := sets7_heap (HRB.out w6 X4.out) (.slice none 0 0) (.string nm) (.string sup) (.bool inf) (.slice A4 n4 c4) (.slice none 0 0) (.slice none 0 0)
  have hG := sets7_grown (World.grownBy.refl w6 (some (b0 + 1))) (.slice none 0 0) (.string nm) (.string sup) (.bool inf) (.slice A4 n4 c4) (.slice none 0 0) (.slice none 0 0)
  have hO : ShS.Own w.heap.size (sets7 w6 (b0 + 1) (.slice none 0 0) (.string nm) (.string sup) (.bool inf) (.slice A4 n4 c4) (.slice none 0 0) (.slice none 0 0)) (.slice A4 n4 c4) ifs := by
    have h1 := O4.out.base' (show w.heap.size ≤ w3.heap.size from (HX.out.trans X3.out).size)
    refine h1.kept hG (fun g hv e => ?_) (fun _ _ h => h)
    injection e with e
    subst e
    obtain ⟨c5, z5, h5⟩ := Shp.Own.typed h1 _ hv
    have h6 := HRB.out w6 X4.out
    rw [h6] at h5
    injection h5 with h5
    injection h5 with _ h5 _
    exact absurd h5 (by decide)
  have hE : Ext w (sets7 w6 (b0 + 1) (.slice none 0 0) (.string nm) (.string sup) (.bool inf) (.slice A4 n4 c4) (.slice none 0 0) (.slice none 0 0)) := (HX.out.trans X4.out).grown hG (fun g e => by injection e with e; rw [← e, HB0.out]; omega)
  obtain ⟨Wz, hWz⟩ : ∃ Wz, sets7 w6 (b0 + 1) (.slice none 0 0) (.string nm) (.string sup) (.bool inf) (.slice A4 n4 c4) (.slice none 0 0) (.slice none 0 0) = Wz := ⟨_, rfl⟩
  rw [hWz] at hH hO hE
  unfold sets7 at hWz
  rw [hWz]
  have HZ := Lib.hid (And.intro hO hE)
  have y0 : Wz.cell? ⟨b0 + 1, 0, none⟩ = some (.slice none 0 0) := by rw [cell_of_row Wz _ 0 _ _ (0, 0) hH]; rfl
  have y1 : Wz.cell? ⟨b0 + 1, 1, none⟩ = some (.string nm) := by rw [cell_of_row Wz _ 1 _ _ (0, 0) hH]; rfl
  have y2 : Wz.cell? ⟨b0 + 1, 2, none⟩ = some (.string sup) := by rw [cell_of_row Wz _ 2 _ _ (0, 0) hH]; rfl
  have y3 : Wz.cell? ⟨b0 + 1, 3, none⟩ = some (.bool inf) := by rw [cell_of_row Wz _ 3 _ _ (0, 0) hH]; rfl
  have y4 : Wz.cell? ⟨b0 + 1, 4, none⟩ = some (.slice A4 n4 c4) := by rw [cell_of_row Wz _ 4 _ _ (0, 0) hH]; rfl
  have y5 : Wz.cell? ⟨b0 + 1, 5, none⟩ = some (.slice none 0 0) := by rw [cell_of_row Wz _ 5 _ _ (0, 0) hH]; rfl
  have y6 : Wz.cell? ⟨b0 + 1, 6, none⟩ = some (.slice none 0 0) := by rw [cell_of_row Wz _ 6 _ _ (0, 0) hH]; rfl
  clear hH hG hO hE hWz f1 f2 f3 f4 r4
  go_wp2
  refine bodyPost_ret (v := .agg #[.slice none 0 0, .string nm, .string sup, .bool inf, .slice A4 n4 c4, .slice none 0 0, .slice none 0 0]) (by simp [results, Tryd.results49, go_sem, y0, y1, y2, y3, y4, y5, y6]; try rfl) rfl ?_
  exact ⟨A4, n4, c4, rfl, HZ.out.1, HZ.out.2⟩
end Go.Proofs.YtladeaofhdaloaaDoor
namespace Go.Proofs.YtladeaofhdaloaaDoor
open Go.RowKit
set_option linter.unusedVariables false

set_option maxRecDepth 100000 in
theorem supB_any (w : World) (i : Int) : Calls Tryd.prog 62 #[.int .i64 i] w fun e w' => e = .returned (.int .i64 (if i = 0 then -1 else if i = 1 then 0 else 1)) ∧ w' = w := by
  by_cases h0 : i = 0
  · subst h0
    go_enter Tryd.func62, Tryd.ntmps62
    go_wp2
    go_ret
    exact ⟨rfl, rfl⟩
  by_cases h1 : i = 1
  · subst h1
    go_enter Tryd.func62, Tryd.ntmps62
    go_wp2
    go_ret
    exact ⟨rfl, rfl⟩
  rw [if_neg h0, if_neg h1]
  go_enter Tryd.func62, Tryd.ntmps62
  go_wp2
  go_ret
  exact ⟨rfl, rfl⟩
theorem infoK : (Tryd.prog.info? 36).map (fun i => (i.zero, i.size, i.bytes)) = some (some (.agg klv0.vals), 7, 136) := by kernel_rfl
theorem Shp.Own.made {α : Type} (S : Shp α) (B : Nat) (w : World) (hB : B ≤ w.heap.size) : S.Own B (w.alloc (.cells #[] S.T)) (.slice (some ⟨w.heap.size, 0, none⟩) 0 0) [] := by
  exact ⟨World.ownsRow_made w #[] 0 hB (by simp [maxLen]) (by simp), fun _ h => by cases h⟩
set_option maxRecDepth 100000 in
theorem cloneK_any {w : World} {v : Value} {l : List KlV} (h : ShK.Row w v l) (hl : l.length ≤ 64) :
    Calls Tryd.prog 63 #[v] w fun e w' => ∃ A' c', e = .returned (.slice A' l.length c') ∧ (ShKW w).Own w.heap.size w' (.slice A' l.length c') l ∧ Ext w w' := by
  obtain ⟨A, c, rfl, hc, hm, hn⟩ := h.cut
  rcases A with _ | ad
  · have hc0 := hn rfl
    subst hc0
    have hl0 : l = [] := List.eq_nil_of_length_eq_zero (by omega)
    subst hl0
    clear h hl hc hm hn
    have hq := Lib.run_eql_slice_nil (P := Tryd.prog) w 22 36 none 0 0 0 0 Tryd.underlying22
    go_enter Tryd.func63, Tryd.ntmps63
    go_wp2
    go_ret
    exact ⟨none, 0, rfl, Shp.Own.nil _ _ _, Ext.refl _⟩
  · have HR := Lib.hid (rowKW h)
    obtain ⟨n, hnl⟩ : ∃ n, l.length = n := ⟨_, rfl⟩
    have HN := Lib.hid hnl
    rw [hnl] at hc HR hl ⊢
    unfold maxLen at hm
    clear h hn hnl
    have hq := Lib.run_eql_slice_nil (P := Tryd.prog) w 22 36 (some ad) n c 0 0 Tryd.underlying22
    go_enter Tryd.func63, Tryd.ntmps63
    go_wp2_with (at_builtin; go_loud (refine Shp.wpList_app (ShKW w) _ rfl _ _ w.heap.size 22 (.agg klv0.vals) 136 rfl Tryd.underlying22 infoK (by kernel_rfl) (by omega) _ [] rfl (Shp.Own.made (ShKW w) _ _ (Nat.le_refl _)) _ l rfl ?hh (fun x hx => HR.out.low x hx) (by have := HN.out; simp only [List.length_nil]; omega) (by simp) ?_))
    case hh => exact HR.out.ext ((Ext.refl _).alloc _)
    intro v' w' ho hg _
    obtain ⟨A4, c4, e4, hc4, hm4⟩ := ho.slice
    subst e4
    rw [HN.out] at ho
    have HO := Lib.hid ho
    have HG := Lib.hid (((Ext.refl w).alloc _).grown hg (fun g hg => by simp [Value.ownBlock] at hg; omega))
    clear ho hg
    rw [HN.out]
    go_wp2
    go_ret
    exact ⟨_, _, rfl, HO.out, HG.out⟩
end Go.Proofs.YtladeaofhdaloaaDoor
namespace Go.Proofs.YtladeaofhdaloaaDoor
open Go.RowKit Go.Maps
set_option linter.unusedVariables false

structure SzOk (ns : List Nd) : Prop where
  nm : ∀ x ∈ ns, x.k.nm.size ≤ 140737488351232
  sup : ∀ x ∈ ns, x.k.sup.size ≤ 140737488351232
  ifs : ∀ x ∈ ns, ∀ y ∈ x.k.ifs, y.size ≤ 140737488351232
abbrev kls (ns : List Nd) : List Kl := ns.map (·.k)
def Told (ns : List Nd) : Prop := ∀ (i : Nat) (x : Nd), ns[i]? = some x → x.su = supI (kls ns) i ∧ x.is = ifsI (kls ns) i
theorem gk_of {ns : List Nd} {i : Nat} {x : Nd} (h : ns[i]? = some x) : gk (kls ns) i = x.k := by
  unfold gk kls
  rw [List.getD_eq_getElem?_getD, List.getElem?_map, h]
  rfl
def fv (f : Flt) : Value := match f with
  | none => .tuple #[.string ⟨#[]⟩, .int .i64 0]
  | some (n, e) => .tuple #[.string n, .int .i64 e]
section
variable {s m g n c : Nat} {w : World} {ns : List Nd}
set_option maxRecDepth 100000 in
set_option maxHeartbeats 4000000 in
theorem twice_any (h : SetG s m g n c w ns) (hz : SzOk ns) (i : Nat) (x : Nd) (hx : ns[i]? = some x) (h72 : n ≤ 72) :
    Calls Tryd.prog 67 #[.pointer (some ⟨s, 0, none⟩), .int .i64 i] w fun e w' => e = .returned (fv (flt1 (kls ns) i)) ∧ w' = w := by
  obtain ⟨_, x1, _⟩ := h.node i x hx
  have hi : i < n := by rw [h.len]; exact (List.getElem?_eq_some_iff.1 hx).1
  have HN := Lib.hid (node_in h i hi h72)
  have HM := Lib.hid (named_any h x.k.nm (hz.nm x (List.mem_of_getElem? hx)))
  have HE : Hid (flt1 (kls ns) i = if (!decide (findZ (kls ns) x.k.nm = (i : Int))) then some (x.k.nm, 92) else none) := Lib.hid (by unfold flt1; rw [gk_of hx]; by_cases e : findZ (kls ns) x.k.nm = (i : Int) <;> simp [e])
  obtain ⟨f, hf⟩ : ∃ f, findZ (kls ns) x.k.nm = f := ⟨_, rfl⟩
  rw [hf] at HE
  rw [show findZ (ns.map (·.k)) x.k.nm = f from hf] at HM
  have HF := Lib.hid (fun bb => fails_at (w := w) (g := g) (i * 11) x.k.nm bb 92 x1)
  obtain ⟨R, hR⟩ : ∃ R, flt1 (kls ns) i = R := ⟨_, rfl⟩
  rw [hR] at HE ⊢
  obtain ⟨nm, hnm⟩ : ∃ nm, x.k.nm = nm := ⟨_, rfl⟩
  rw [hnm] at x1 HM HF HE
  clear h hx hz hf hR hnm
  by_cases e : f = (i : Int)
  · have HE2 : Hid (R = none) := Lib.hid (by rw [HE.out]; simp [e])
    subst e
    clear HE
    go_enter Tryd.func67, Tryd.ntmps67
    go_wp2_with fail
    refine HN.out.mono ?_
    rintro e0 w' ⟨rfl, rfl⟩
    go_wp2_with fail
    refine HM.out.mono ?_
    rintro e0 w' ⟨rfl, rfl⟩
    go_wp2_with fail
    refine (HF.out false).mono ?_
    rintro e0 w' ⟨rfl, rfl⟩
    go_wp2
    go_ret2
    exact ⟨by rw [HE2.out]; rfl, rfl⟩
  · have eb : (f != (i : Int)) = true := by rw [bne_iff_ne]; exact e
    have HE2 : Hid (R = some (nm, 92)) := Lib.hid (by rw [HE.out]; simp [e])
    clear HE e
    go_enter Tryd.func67, Tryd.ntmps67
    go_wp2_with fail
    refine HN.out.mono ?_
    rintro e0 w' ⟨rfl, rfl⟩
    go_wp2_with fail
    refine HM.out.mono ?_
    rintro e0 w' ⟨rfl, rfl⟩
    go_wp2_with fail
    refine (HF.out true).mono ?_
    rintro e0 w' ⟨rfl, rfl⟩
    go_wp2
    go_ret2
    exact ⟨by rw [HE2.out]; rfl, rfl⟩
structure NdR (w : World) (x : Nd) : Prop where
  vs : Row w .i64 x.vs.v x.is
  vi : ShS.Row w x.vi.v x.k.ifs
theorem idx_find (N : List Kl) : ∀ (l : List ByteArray) (k : Nat), (l.find? (fun x => decide (findZ N x < 0)) = none ∧ idxI (-1) (l.map (findZ N)) k = -1) ∨ (∃ y j, l.find? (fun x => decide (findZ N x < 0)) = some y ∧ idxI (-1) (l.map (findZ N)) k = ((k + j : Nat) : Int) ∧ l[j]? = some y)
  | [], k => .inl ⟨rfl, rfl⟩
  | y :: l, k => by
    rw [List.map_cons, idxI, List.find?_cons]
    by_cases e : findZ N y < 0
    · have e1 : findZ N y = -1 := by
        rcases findZ_cases N y with ⟨h1, _⟩ | ⟨j, _, h1, _⟩
        · exact h1
        · omega
      exact .inr ⟨y, 0, by simp [e], by rw [e1]; simp, rfl⟩
    · have e1 : ¬ (-1 : Int) = findZ N y := by omega
      rw [if_neg e1]
      rcases idx_find N l (k + 1) with ⟨h1, h2⟩ | ⟨z, j, h1, h2, h3⟩
      · exact .inl ⟨by simp [e, h1], h2⟩
      · exact .inr ⟨z, j + 1, by simp [e, h1], by rw [h2]; congr 1; omega, by simpa using h3⟩
set_option maxRecDepth 100000 in
set_option maxHeartbeats 4000000 in
theorem unknown_any (h : SetG s m g n c w ns) (ht : Told ns) (i : Nat) (h8 : 8 ≤ i) (x : Nd) (hx : ns[i]? = some x) (hr : NdR w x) (h72 : n ≤ 72) :
    Calls Tryd.prog 68 #[.pointer (some ⟨s, 0, none⟩), .int .i64 i] w fun e w' => e = .returned (fv (flt2 (kls ns) i)) ∧ w' = w := by
  obtain ⟨_, _, x2, _, x4, x7, x8, _⟩ := h.node i x hx
  have hi : i < n := by rw [h.len]; exact (List.getElem?_eq_some_iff.1 hx).1
  have HN := Lib.hid (node_in h i hi h72)
  obtain ⟨t1, t2⟩ := ht i x hx
  have hsu : x.su = findZ (kls ns) x.k.sup := by rw [t1, supI_own (by omega), gk_of hx]
  have his : x.is = x.k.ifs.map (findZ (kls ns)) := by rw [t2]; unfold ifsI; rw [gk_of hx]
  have HI := Lib.hid (index_any hr.vs (-1))
  have hfl : flt2 (kls ns) i = if x.su < 0 then some (x.k.sup, 90) else (x.k.ifs.find? (fun y => decide (findZ (kls ns) y < 0))).map (fun y => (y, 90)) := by unfold flt2; rw [gk_of hx, hsu]
  have hm1 : x.su < 0 → x.su = -1 := fun hh => by
    rcases findZ_cases (kls ns) x.k.sup with ⟨h1, _⟩ | ⟨j, _, h1, _⟩
    · rw [hsu]; exact h1
    · omega
  have hix := idx_find (kls ns) x.k.ifs 0
  rw [← his] at hix
  obtain ⟨R, hR⟩ : ∃ R, flt2 (kls ns) i = R := ⟨_, rfl⟩
  rw [hR] at hfl ⊢
  have HFL := Lib.hid hfl
  have HVI := Lib.hid hr.vi
  unfold Sl.v at HI
  clear h hx t1 t2 hsu his hfl hR hr
  by_cases e : x.su < 0
  · have e1 := hm1 e
    have HE : Hid (R = some (x.k.sup, 90)) := Lib.hid (by rw [HFL.out, if_pos e])
    rw [e1] at x7
    clear hm1 e e1 hix HFL
    go_enter Tryd.func68, Tryd.ntmps68
    go_wp2_with fail
    refine HN.out.mono ?_
    rintro e0 w' ⟨rfl, rfl⟩
    go_wp2
    go_ret2
    exact ⟨by rw [HE.out]; rfl, rfl⟩
  · have e1 : (x.su == -1) = false := by rw [beq_eq_false_iff_ne]; omega
    obtain ⟨su, hsu⟩ : ∃ su, x.su = su := ⟨_, rfl⟩
    rw [hsu] at x7 e1
    rcases hix with ⟨h1, h2⟩ | ⟨y, j, h1, h2, h3⟩
    · have HE : Hid (R = none) := Lib.hid (by rw [HFL.out, if_neg e, h1]; rfl)
      rw [h2] at HI
      clear hm1 e h1 h2 HFL hsu
      go_enter Tryd.func68, Tryd.ntmps68
      go_wp2_with fail
      refine HN.out.mono ?_
      rintro e0 w' ⟨rfl, rfl⟩
      go_wp2_with fail
      refine HI.out.mono ?_
      rintro e0 w' ⟨rfl, rfl⟩
      go_wp2
      go_ret2
      exact ⟨by rw [HE.out]; rfl, rfl⟩
    · have HE : Hid (R = some (y, 90)) := Lib.hid (by rw [HFL.out, if_neg e, h1]; rfl)
      rw [h2, Nat.zero_add] at HI
      obtain ⟨hj, hj2⟩ := List.getElem?_eq_some_iff.1 h3
      have hvi := HVI.out
      unfold Sl.v at hvi
      obtain ⟨bI, oI, hA, hat⟩ := rowS_at hvi (by omega)
      have y0 := hat w (Ext.refl w) j hj
      have ey : gs x.k.ifs j = y := by unfold gs; rw [ShS.el_get hj, hj2]
      rw [ey] at y0
      obtain ⟨A', c', e5, e6, _⟩ := hvi.cut
      injection e5 with _ e5 _
      have hjl : (j : Int) < (x.vi.n : Int) := by omega
      rw [hA] at x4
      have j0 : ¬ (j : Int) < 0 := by omega
      clear hm1 e h1 h2 HFL hsu h3 hj hj2 hvi hat ey e5 e6 hA HVI
      go_enter Tryd.func68, Tryd.ntmps68
      go_wp2_with fail
      refine HN.out.mono ?_
      rintro e0 w' ⟨rfl, rfl⟩
      go_wp2_with fail
      refine HI.out.mono ?_
      rintro e0 w' ⟨rfl, rfl⟩
      go_wp2
      go_ret2
      exact ⟨by rw [HE.out]; rfl, rfl⟩
set_option maxRecDepth 100000 in
set_option maxHeartbeats 4000000 in
theorem superUnfit_any (h : SetG s m g n c w ns) (ht : Told ns) (r : List Kl) (hb : kls ns = builtZ ++ r) (i : Nat) (h8 : 8 ≤ i) (x : Nd) (hx : ns[i]? = some x) (h2 : flt2 (kls ns) i = none) (h72 : n ≤ 72) :
    Calls Tryd.prog 69 #[.pointer (some ⟨s, 0, none⟩), .int .i64 i] w fun e w' => e = .returned (fv (flt3 (kls ns) i)) ∧ w' = w := by
  obtain ⟨_, x1, _, x3, _, x7, _, _⟩ := h.node i x hx
  have hi : i < n := by rw [h.len]; exact (List.getElem?_eq_some_iff.1 hx).1
  have HN := Lib.hid (node_in h i hi h72)
  obtain ⟨t1, -⟩ := ht i x hx
  have hsu : x.su = findZ (kls ns) x.k.sup := by rw [t1, supI_own (by omega), gk_of hx]
  have hnn : ¬ findZ (kls ns) x.k.sup < 0 := by
    unfold flt2 at h2
    rw [gk_of hx] at h2
    split at h2
    · cases h2
    · assumption
  obtain ⟨j, hj, hj2, hj3⟩ := findZ_nn hnn
  obtain ⟨z, hzj⟩ : ∃ z, ns[j]? = some z := ⟨ns[j]'(by simpa [kls] using hj), List.getElem?_eq_getElem _⟩
  have HI := Lib.hid (isIface_in h j z hzj h72)
  have hob : (x.k.sup = nObj) ↔ j = 0 := by
    constructor
    · intro e
      have := find_obj r
      rw [← hb, ← e, hj2] at this
      omega
    · intro e
      subst e
      rw [← hj3, hb]
      rfl
  have hfl : flt3 (kls ns) i = if (z.k.inf || (x.k.inf && !decide (j = 0))) then some (x.k.nm, 90) else none := by
    unfold flt3
    rw [gk_of hx, hj2, Int.toNat_natCast, gk_of hzj]
    by_cases e : j = 0
    · simp [e, hob.2 e]
    · have : ¬ x.k.sup = nObj := fun h => e (hob.1 h)
      simp [e, this]
  have HF := Lib.hid (fun bb => fails_at (w := w) (g := g) (i * 11) x.k.nm bb 90 x1)
  obtain ⟨R, hR⟩ : ∃ R, flt3 (kls ns) i = R := ⟨_, rfl⟩
  rw [hR] at hfl ⊢
  have HFL := Lib.hid hfl
  rw [hsu, hj2] at x7
  clear h hx t1 hsu hfl hR hob hj3 hj2 hj hzj hnn h2 hb
  obtain ⟨zi, hzi⟩ : ∃ zi, z.k.inf = zi := ⟨_, rfl⟩
  obtain ⟨xi, hxi⟩ : ∃ xi, x.k.inf = xi := ⟨_, rfl⟩
  obtain ⟨nm, hnm⟩ : ∃ nm, x.k.nm = nm := ⟨_, rfl⟩
  rw [hzi] at HI HFL
  rw [hxi] at x3 HFL
  rw [hnm] at x1 HF HFL
  clear hzi hxi hnm
  cases zi
  case true =>
    go_enter Tryd.func69, Tryd.ntmps69
    go_wp2_with fail
    refine HN.out.mono ?_
    rintro e0 w' ⟨rfl, rfl⟩
    go_wp2_with fail
    refine HI.out.mono ?_
    rintro e0 w' ⟨rfl, rfl⟩
    go_wp2_with fail
    refine (HF.out true).mono ?_
    rintro e0 w' ⟨rfl, rfl⟩
    go_wp2
    go_ret2
    exact ⟨by rw [HFL.out]; rfl, rfl⟩
  case false =>
    cases xi
    case false =>
      go_enter Tryd.func69, Tryd.ntmps69
      go_wp2_with fail
      refine HN.out.mono ?_
      rintro e0 w' ⟨rfl, rfl⟩
      go_wp2_with fail
      refine HI.out.mono ?_
      rintro e0 w' ⟨rfl, rfl⟩
      go_wp2_with fail
      refine (HF.out false).mono ?_
      rintro e0 w' ⟨rfl, rfl⟩
      go_wp2
      go_ret2
      exact ⟨by rw [HFL.out]; rfl, rfl⟩
    case true =>
      by_cases ej : j = 0
      · subst ej
        go_enter Tryd.func69, Tryd.ntmps69
        go_wp2_with fail
        refine HN.out.mono ?_
        rintro e0 w' ⟨rfl, rfl⟩
        go_wp2_with fail
        refine HI.out.mono ?_
        rintro e0 w' ⟨rfl, rfl⟩
        go_wp2_with fail
        refine (HF.out false).mono ?_
        rintro e0 w' ⟨rfl, rfl⟩
        go_wp2
        go_ret2
        exact ⟨by rw [HFL.out]; rfl, rfl⟩
      · have ejb : ((j : Int) != 0) = true := by rw [bne_iff_ne]; omega
        have HFL2 : Hid (R = some (nm, 90)) := Lib.hid (by rw [HFL.out]; simp [ej])
        clear HFL ej
        go_enter Tryd.func69, Tryd.ntmps69
        go_wp2_with fail
        refine HN.out.mono ?_
        rintro e0 w' ⟨rfl, rfl⟩
        go_wp2_with fail
        refine HI.out.mono ?_
        rintro e0 w' ⟨rfl, rfl⟩
        go_wp2_with fail
        refine (HF.out true).mono ?_
        rintro e0 w' ⟨rfl, rfl⟩
        go_wp2
        go_ret2
        exact ⟨by rw [HFL2.out]; rfl, rfl⟩
end
end Go.Proofs.YtladeaofhdaloaaDoor
namespace Go.Proofs.YtladeaofhdaloaaDoor
open Go.RowKit Go.Maps Go.WideMaps
set_option linter.unusedVariables false

def bnm (i : Nat) : ByteArray := (gk builtZ i).nm
def Blt (w : World) : Prop := 0 < w.heap.size ∧ ∀ i, i < 8 → w.cell? ⟨0, i, none⟩ = some (.string (bnm i))
theorem Blt.ext {w w' : World} (h : Blt w) (e : Ext w w') : Blt w' := ⟨Nat.lt_of_lt_of_le h.1 e.size, fun i hi => (e.cell (p := ⟨_, i, none⟩) h.1).trans (h.2 i hi)⟩
def Raw (ns : List Nd) : Prop := ∀ i x, ns[i]? = some x → x.is = [] ∧ x.vs = sl0 ∧ x.ab = [] ∧ x.va = sl0 ∧ x.ln = 0 ∧ (i < 8 → x.su = supI [] i)
theorem Raw.nil : Raw [] := fun i x h => by simp at h
theorem Raw.snoc {ns : List Nd} {nd : Nd} (h : Raw ns) (h1 : nd.is = [] ∧ nd.vs = sl0 ∧ nd.ab = [] ∧ nd.va = sl0 ∧ nd.ln = 0 ∧ (ns.length < 8 → nd.su = supI [] ns.length)) : Raw (ns ++ [nd]) := fun i x hx => by
  rcases Nat.lt_or_ge i ns.length with hi | hi
  · rw [List.getElem?_append_left hi] at hx
    exact h i x hx
  · rw [List.getElem?_append_right hi] at hx
    have h0 : i - ns.length = 0 := by
      have := (List.getElem?_eq_some_iff.1 hx).1
      simp at this
      omega
    rw [h0] at hx
    simp only [List.getElem?_cons_zero, Option.some.injEq] at hx
    subst hx
    have : i = ns.length := by omega
    subst this
    exact h1
theorem SetAt.new (w : World) : SetAt w.heap.size (w.heap.size + 1) w.heap.size sl0 (.map []) ((w.alloc (.map #[] 0)).alloc (.cells #[.slice none 0 0, .map (some w.heap.size)] 69)) [] := by
  have hs : (w.alloc (.map #[] 0)).heap.size = w.heap.size + 1 := by simp
  refine ⟨by omega, by omega, ?_, Shp.Own.nil _ _ _, ?_, numOk_nil, fun x hx => by cases hx⟩
  · have := heap_alloc_new (w.alloc (.map #[] 0)) (.cells #[.slice none 0 0, .map (some w.heap.size)] 69)
    rw [hs] at this
    exact this
  · exact (World.ownsMap_made w _ _ _).alloc _
theorem NdOk.bare {B : Nat} (w : World) (nm : ByteArray) (su : Int) : NdOk B w ⟨⟨nm, ⟨#[]⟩, false, []⟩, sl0, su, [], sl0, [], sl0, 0⟩ := ⟨Shp.Own.nil _ _ _, Own.nil _ _ _ _, Own.nil _ _ _ _⟩
theorem idx8 (W : World) (k : Nat) (hk : k < 8) : (Instr.index 86 (.agg #[.string (bnm 0), .string (bnm 1), .string (bnm 2), .string (bnm 3), .string (bnm 4), .string (bnm 5), .string (bnm 6), .string (bnm 7)]) (.int .i64 k)).run Tryd.prog W = .ok (.string (bnm k)) W := by
  rcases k with _ | _ | _ | _ | _ | _ | _ | _ | k
  · simp [Instr.index, go_sem]
  · simp [Instr.index, go_sem]
  · simp [Instr.index, go_sem]
  · simp [Instr.index, go_sem]
  · simp [Instr.index, go_sem]
  · simp [Instr.index, go_sem]
  · simp [Instr.index, go_sem]
  · simp [Instr.index, go_sem]
  · omega
theorem bnm_size (i : Nat) (h : i < 8) : (bnm i).size ≤ 9 := by
  rcases i with _ | _ | _ | _ | _ | _ | _ | _ | k
  all_goals first | decide | omega
theorem built_snoc (k : Nat) (h : k < 8) : builtZ.take (k + 1) = builtZ.take k ++ [⟨bnm k, ⟨#[]⟩, false, []⟩] := by
  rcases k with _ | _ | _ | _ | _ | _ | _ | _ | k
  all_goals first | rfl | omega
end Go.Proofs.YtladeaofhdaloaaDoor
