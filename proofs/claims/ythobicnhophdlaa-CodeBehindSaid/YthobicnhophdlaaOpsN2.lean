/- The project's reader: plain, signed, place. -/
import Derived.Test.YthobicnhophdlaaOpsN
import Derived.Deep.RegionWith
import Derived.Deep.RegionHeld3
import Derived.Deep.RegionLaw
namespace Go.Proofs.Ythobicnhophdlaa
open Go.RowKit
set_option linter.unusedVariables false

theorem PRet.back {w0 w : World} {o : Obj} {g : Nat} {a : Int} {r : Int × List Int × Bool} {e : Ending} {w' : World} (h : PRet w0 (w.alloc o) g a r e w') : PRet w0 w g a r e w' :=
  ⟨h.1, h.2.1, grown_trans (((Ext.refl w).alloc o).grow _) h.2.2⟩
theorem rdN_bound {st : Bool} {s : Nat} {sg : Bool} {l : List Int} {en : Bool} (hs : Siz s sg) (hb : ∀ c ∈ l, B8 c) : -2147483648 ≤ (rdN st s sg (l, en)).1 ∧ (rdN st s sg (l, en)).1 ≤ 2147483647 := by
  unfold rdN
  split
  · simp
  · exact pk_bound hs hb
theorem plain_any (w0 w : World) (g : Nat) (l : List Int) (v : Value) (a : Int) (en : Bool) (s : Nat) (hg : PR w g v a en) (hr : Row w0 .u8 v l) (hx : Ext w0 w) (hg0 : w0.heap.size ≤ g) (hs : Siz s false) :
    Calls Try.prog 38 #[.pointer (some ⟨g, 0, none⟩), .int .i64 s] w (PRet w0 w g a (rdN true s false (l, en))) := by
  have HG := Lib.hid hg
  have HR := Lib.hid hr
  have hc : (w.alloc (.cells #[.int .i64 s] 3)).cell? ⟨w.heap.size, 0, none⟩ = some (.int .i64 s) := by
    rw [cell_of_row _ w.heap.size 0 _ _ (0, 0) (heap_alloc_new w _)]
    rfl
  have HC := Lib.hid hc
  clear hg hr hc
  go_enter Try.func38, Try.ntmps38
  go_wp2_with (go_at_call 52; refine (take_plain w0 _ g w.heap.size l v a en s (HG.out.ext ((Ext.refl w).alloc _)) HR.out (hx.alloc _) hg0 HC.out hs).mono ?_; rintro e w1 h1; obtain ⟨rfl, h2, h3⟩ := h1.back)
  go_ret
  exact ⟨rfl, h2, h3⟩
theorem signed_any (w0 w : World) (g : Nat) (l : List Int) (v : Value) (a : Int) (en : Bool) (s : Nat) (hg : PR w g v a en) (hr : Row w0 .u8 v l) (hx : Ext w0 w) (hg0 : w0.heap.size ≤ g) (hs : Siz s true) :
    Calls Try.prog 39 #[.pointer (some ⟨g, 0, none⟩), .int .i64 s] w (PRet w0 w g a (rdN true s true (l, en))) := by
  have HG := Lib.hid hg
  have HR := Lib.hid hr
  have hc : (w.alloc (.cells #[.int .i64 s] 3)).cell? ⟨w.heap.size, 0, none⟩ = some (.int .i64 s) := by
    rw [cell_of_row _ w.heap.size 0 _ _ (0, 0) (heap_alloc_new w _)]
    rfl
  have HC := Lib.hid hc
  clear hg hr hc
  go_enter Try.func39, Try.ntmps39
  go_wp2_with (go_at_call 52; refine (take_signed w0 _ g w.heap.size l v a en s (HG.out.ext ((Ext.refl w).alloc _)) HR.out (hx.alloc _) hg0 HC.out hs).mono ?_; rintro e w1 h1; obtain ⟨rfl, h2, h3⟩ := h1.back)
  go_ret
  exact ⟨rfl, h2, h3⟩
theorem place_any (w0 w : World) (g : Nat) (l : List Int) (v : Value) (a : Int) (en : Bool) (hg : PR w g v a en) (hr : Row w0 .u8 v l) (hx : Ext w0 w) (hg0 : w0.heap.size ≤ g) (ha : 0 ≤ a ∧ a < 8192) :
    Calls Try.prog 40 #[.pointer (some ⟨g, 0, none⟩)] w (PRet w0 w g a (a + (rdN true 2 true (l, en)).1, (rdN true 2 true (l, en)).2)) := by
  have hb := rdN_bound (st := true) (en := en) (s := 2) (sg := true) (by unfold Siz; simp) (bytes_of hr)
  have hw := fun n => signed_any w0 (w.drewN n) g l v a en 2 (hg.drew n) hr (hx.drewN n) hg0 (by unfold Siz; simp)
  obtain ⟨d0, d1, d2, f0, f1, f2⟩ := hg.cells
  obtain ⟨r, hr2⟩ : ∃ r, rdN true 2 true (l, en) = r := ⟨_, rfl⟩
  rw [hr2] at hb ⊢
  simp only [hr2] at hw
  obtain ⟨x, l', en'⟩ := r
  simp only at hb ⊢
  have HW := Lib.hid hw
  have hwr : IntKind.i64.wrap (a + x) = a + x := by rw [IntKind.wrap_i64]; omega
  clear hw hr2 hg hr d0 d2 f0 f1 f2
  go_enter Try.func40, Try.ntmps40
  go_wp2
  go_region_with ((go_at_call 39; refine (HW.out _).mono ?_; rintro e w1 ⟨rfl, ⟨v1, hp1, hr1⟩, hg1⟩; have y1 := hp1.cells.2.1))
  all_goals
    go_wp2
    go_ret
    exact ⟨rfl, ⟨v1, hp1, hr1⟩, grown_trans (((Ext.refl w).drewN _).grow _) hg1⟩
end Go.Proofs.Ythobicnhophdlaa
