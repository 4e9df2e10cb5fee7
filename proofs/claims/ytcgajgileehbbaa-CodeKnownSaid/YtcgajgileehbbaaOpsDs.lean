/- The document's reader at work on an instruction: numbers off its bytes; one state for all blocks. -/
import Derived.Test.YtcgajgileehbbaaOpsDe
import Derived.Test.YtcgajgileehbbaaOpsD
namespace Go.Proofs.Ytcgajgileehbbaa
open Go.RowKit
set_option linter.unusedVariables false

/-- The document's reader in block g: what is left of the bytes, whether they ended. -/
def DR (w : World) (g : Nat) (v : Value) (b : List Int) (q : List Int × Bool) : Prop := ∃ a : Nat, NR w g v a q.2 ∧ a ≤ b.length ∧ b.drop a = q.1
theorem DR.lt {w : World} {g : Nat} {v : Value} {b : List Int} {q : List Int × Bool} (h : DR w g v b q) : g < w.heap.size := by obtain ⟨a, h, -⟩ := h; exact h.lt
theorem DR.ext {w w' : World} {g : Nat} {v : Value} {b : List Int} {q : List Int × Bool} (h : DR w g v b q) (e : Ext w w') : DR w' g v b q := by obtain ⟨a, h, r⟩ := h; exact ⟨a, h.ext e, r⟩
theorem DR.same {w w' : World} {g : Nat} {v : Value} {b : List Int} {q : List Int × Bool} (h : DR w g v b q) (e : w'.heap[g]? = w.heap[g]?) : DR w' g v b q := by obtain ⟨a, h, r⟩ := h; exact ⟨a, e.trans h, r⟩
theorem DR.blk {w : World} {g : Nat} {v : Value} {b : List Int} {q : List Int × Bool} (h : DR w g v b q) : ∃ c, w.heap[g]? = some (.cells c 90 (0, 0)) := by obtain ⟨a, h, -⟩ := h; exact ⟨_, h⟩
/-- What a call of the reader's leaves. -/
def DRet (w : World) (g : Nat) (v : Value) (b : List Int) (r : Int × List Int × Bool) (e : Ending) (w' : World) : Prop := e = .returned (.int .i64 r.1) ∧ DR w' g v b r.2 ∧ w.grownBy w' (some g)
theorem nr_cast {w : World} {g : Nat} {v : Value} {a s : Nat} {sh : Bool} (h : NR w g v ((a : Int) + s) sh) : NR w g v ((a + s : Nat) : Int) sh := by rwa [Int.natCast_add]
theorem rnum_any (w0 w : World) (g : Nat) (b : List Int) (v : Value) (q : List Int × Bool) (s : Nat) (sg : Bool) (hs : Siz s sg) (h : DR w g v b q) (hr : Row w0 .u8 v b) (hb : b.length ≤ 140737488355328) (hx : Ext w0 w) (hg : w0.heap.size ≤ g) :
    Calls Try.prog 58 #[.pointer (some ⟨g, 0, none⟩), .int .i64 s, .bool sg] w (DRet w g v b (rdN false s sg q)) := by
  obtain ⟨a, hn, hab, hd⟩ := h
  obtain ⟨l, sh⟩ := q
  simp only at hn hd ⊢
  subst hd
  by_cases hshort : b.length < a + s
  · have hl : (b.drop a).length < s := by rw [List.length_drop]; omega
    rw [rdN_short _ hl]
    refine (rnumber_short w0 w g b v a sh sg s hn hr hx (by have := hs.le; omega) (by omega) hshort).mono ?_
    rintro e w' ⟨rfl, h1, h2⟩
    exact ⟨rfl, ⟨a, h1, hab, rfl⟩, h2⟩
  · have hB := bytes_of hr
    have hb8 : ∀ j, j < b.length → B8 (gi b j) := fun j hj => hB _ (gi_mem hj)
    have e : rdN false s sg (b.drop a, sh) = (pk s sg (b.drop a), (b.drop a).drop s, sh) := by
      unfold rdN
      rw [if_neg (by simp; omega)]
    rw [e]
    have hle := hs.le
    have key : ∀ (x : Int) (e : Ending) (w' : World), x = pk s sg (b.drop a) → NRet w g v x ((a : Int) + s) sh e w' → DRet w g v b (pk s sg (b.drop a), (b.drop a).drop s, sh) e w' := by
      rintro x e w' rfl ⟨rfl, h1, h2⟩
      exact ⟨rfl, ⟨a + s, nr_cast h1, by omega, by rw [List.drop_drop]⟩, h2⟩
    rcases hs with ⟨rfl, rfl⟩ | ⟨rfl, rfl⟩ | ⟨rfl, rfl⟩ | ⟨rfl, rfl⟩ | ⟨rfl, rfl⟩
    · exact (rnumber_1f w0 w g b v a sh (gi b a) hn hr hx hg (by omega) rfl (hb8 a (by omega))).mono fun e w' h => key _ e w' (by rw [drop_at (by omega)]; rfl) h
    · exact (rnumber_1t w0 w g b v a sh (gi b a) hn hr hx hg (by omega) rfl (hb8 a (by omega))).mono fun e w' h => key _ e w' (by rw [drop_at (by omega)]; rfl) h
    · exact (rnumber_2f w0 w g b v a sh (gi b a) (gi b (a + 1)) hn hr hx hg (by omega) rfl (hb8 a (by omega)) rfl (hb8 _ (by omega))).mono fun e w' h => key _ e w' (by rw [drop_at (by omega), drop_at (by omega)]; rfl) h
    · exact (rnumber_2t w0 w g b v a sh (gi b a) (gi b (a + 1)) hn hr hx hg (by omega) rfl (hb8 a (by omega)) rfl (hb8 _ (by omega))).mono fun e w' h => key _ e w' (by rw [drop_at (by omega), drop_at (by omega)]; rfl) h
    · exact (rnumber_4t w0 w g b v a sh (gi b a) (gi b (a + 1)) (gi b (a + 2)) (gi b (a + 3)) hn hr hx hg (by omega) rfl (hb8 a (by omega)) rfl (hb8 _ (by omega)) rfl (hb8 _ (by omega)) rfl (hb8 _ (by omega))).mono fun e w' h => key _ e w' (by rw [drop_at (by omega), drop_at (by omega), drop_at (by omega), drop_at (by omega)]; rfl) h
/-- All blocks at once: the instruction, its two lists, the reader, the result's variable. -/
structure DS (w0 w : World) (h g c0 : Nat) (x : In) (v1 v2 v : Value) (b : List Int) (q : List Int × Bool) : Prop where
  xb : XP w h x v1 v2
  o1 : Own w0.heap.size w 3 .i64 v1 x.to
  o2 : Own w0.heap.size w 3 .i64 v2 x.ks
  ne : ∀ b, v1.ownBlock = some b → v2.ownBlock ≠ some b
  dr : DR w g v b q
  ext : Ext w0 w
  hg : w0.heap.size ≤ g
  hh : w0.heap.size ≤ h
  rc : XP w c0 i0 (.slice none 0 0) (.slice none 0 0)
  hc : c0 ≠ h
  hcc : w0.heap.size ≤ c0
section
variable {w0 w w' : World} {h g c0 : Nat} {x : In} {v1 v2 v : Value} {b : List Int} {q : List Int × Bool}
theorem DS.hg_ne (H : DS w0 w h g c0 x v1 v2 v b q) : h ≠ g := by obtain ⟨c, hb⟩ := H.dr.blk; exact blocks_ne H.xb hb (by decide)
theorem DS.cg_ne (H : DS w0 w h g c0 x v1 v2 v b q) : c0 ≠ g := by obtain ⟨c, hb⟩ := H.dr.blk; exact blocks_ne H.rc hb (by decide)
theorem DS.g1 (H : DS w0 w h g c0 x v1 v2 v b q) : v1.ownBlock ≠ some g := by obtain ⟨c, hb⟩ := H.dr.blk; exact own_ne H.o1 hb (by decide)
theorem DS.g2 (H : DS w0 w h g c0 x v1 v2 v b q) : v2.ownBlock ≠ some g := by obtain ⟨c, hb⟩ := H.dr.blk; exact own_ne H.o2 hb (by decide)
theorem DS.le (H : DS w0 w h g c0 x v1 v2 v b q) : w0.heap.size ≤ w.heap.size := H.ext.size
theorem DS.later (H : DS w0 w h g c0 x v1 v2 v b q) (e : Ext w w') : DS w0 w' h g c0 x v1 v2 v b q :=
  ⟨(e.block h (lt_of_get H.xb)).trans H.xb, H.o1.ext e, H.o2.ext e, H.ne, H.dr.ext e, H.ext.trans e, H.hg, H.hh, (e.block c0 (lt_of_get H.rc)).trans H.rc, H.hc, H.hcc⟩
theorem DS.drew (H : DS w0 w h g c0 x v1 v2 v b q) : DS w0 w.drew h g c0 x v1 v2 v b q := H.later (Ext.refl w).drew
theorem DS.alloc (H : DS w0 w h g c0 x v1 v2 v b q) (o : Obj) : DS w0 (w.alloc o) h g c0 x v1 v2 v b q := H.later ((Ext.refl w).alloc o)
/-- A call of the reader's. -/
theorem DS.read (H : DS w0 w h g c0 x v1 v2 v b q) {rr : Int × List Int × Bool} {e : Ending} (hp : DRet w g v b rr e w') : e = .returned (.int .i64 rr.1) ∧ DS w0 w' h g c0 x v1 v2 v b rr.2 := by
  obtain ⟨rfl, hp, hgr⟩ := hp
  have hs : Ext w0 w' := H.ext.grown hgr (fun g' hg' => by injection hg' with e; subst e; exact H.hg)
  exact ⟨rfl, (hgr.block h (lt_of_get H.xb) (fun e => H.hg_ne (by injection e))).trans H.xb, H.o1.kept hgr (fun b hb e => H.g1 (hb.trans e.symm)), H.o2.kept hgr (fun b hb e => H.g2 (hb.trans e.symm)), H.ne, hp, hs, H.hg, H.hh, (hgr.block c0 (lt_of_get H.rc) (fun e => H.cg_ne (by injection e))).trans H.rc, H.hc, H.hcc⟩
/-- What is behind an append onto the first list, stored. -/
theorem DS.app1 (H : DS w0 w h g c0 x v1 v2 v b q) {u : Value} {l : List Int} (ho : Own w0.heap.size w' 3 .i64 u l) (hgr : w.grownBy w' v1.ownBlock) (hb : u.ownBlock = v1.ownBlock ∨ u.ownBlock = some w.heap.size) :
    DS w0 (w'.setCell ⟨h, 4, none⟩ u) h g c0 ⟨x.a, x.o, x.n, x.m, l, x.ks⟩ u v2 v b q ∧ w'.cell? ⟨h, 4, none⟩ = some v1 ∧ w'.frozen? ⟨h, 4, none⟩ = false := by
  have n1 : v1.ownBlock ≠ some h := own_ne H.o1 H.xb (by decide)
  have n4 : v1.ownBlock ≠ some c0 := own_ne H.o1 H.rc (by decide)
  have rc' := (hgr.block c0 (lt_of_get H.rc) (fun e => n4 e.symm)).trans H.rc
  have xb' : XP w' h x v1 v2 := (hgr.block h (lt_of_get H.xb) (fun e => n1 e.symm)).trans H.xb
  have dr' := H.dr.same (hgr.block g H.dr.lt (fun e => H.g1 e.symm))
  have o2' : Own w0.heap.size w' 3 .i64 v2 x.ks := H.o2.kept hgr (fun b hb e => H.ne b e hb)
  have e' : Ext w0 w' := H.ext.grown hgr H.o1.low
  have hset : ∀ i, i ≠ h → (w'.setCell ⟨h, 4, none⟩ u).heap[i]? = w'.heap[i]? := fun i hi => Below.heap_setCell w' ⟨h, 4, none⟩ u i hi
  have hgrow : w'.grownBy (w'.setCell ⟨h, 4, none⟩ u) (some h) := only_set (World.grownBy.refl w' _) 4 u
  refine ⟨⟨xb'.set4 l u, ho.kept hgrow ?_, o2'.kept hgrow ?_, ?_, dr'.same (hset g (fun e => H.hg_ne e.symm)), e'.set_ H.hh u, H.hg, H.hh, (hset c0 H.hc).trans rc', H.hc, H.hcc⟩, xb'.cells.2.2.2.2.1, xb'.free 4⟩
  · intro b hb e
    injection e with e
    subst e
    exact own_ne ho xb' (by decide) hb
  · intro b hb e
    injection e with e
    subst e
    exact own_ne o2' xb' (by decide) hb
  · intro b hu hv
    rcases hb with hb | hb
    · exact H.ne b (hb ▸ hu) hv
    · rw [hb] at hu
      injection hu with hu
      subst hu
      have := H.o2.high _ hv
      omega
theorem DS.app2 (H : DS w0 w h g c0 x v1 v2 v b q) {u : Value} {l : List Int} (ho : Own w0.heap.size w' 3 .i64 u l) (hgr : w.grownBy w' v2.ownBlock) (hb : u.ownBlock = v2.ownBlock ∨ u.ownBlock = some w.heap.size) :
    DS w0 (w'.setCell ⟨h, 5, none⟩ u) h g c0 ⟨x.a, x.o, x.n, x.m, x.to, l⟩ v1 u v b q ∧ w'.cell? ⟨h, 5, none⟩ = some v2 ∧ w'.frozen? ⟨h, 5, none⟩ = false := by
  have n1 : v2.ownBlock ≠ some h := own_ne H.o2 H.xb (by decide)
  have n4 : v2.ownBlock ≠ some c0 := own_ne H.o2 H.rc (by decide)
  have rc' := (hgr.block c0 (lt_of_get H.rc) (fun e => n4 e.symm)).trans H.rc
  have xb' : XP w' h x v1 v2 := (hgr.block h (lt_of_get H.xb) (fun e => n1 e.symm)).trans H.xb
  have dr' := H.dr.same (hgr.block g H.dr.lt (fun e => H.g2 e.symm))
  have o1' : Own w0.heap.size w' 3 .i64 v1 x.to := H.o1.kept hgr (fun b hb e => H.ne b hb e)
  have e' : Ext w0 w' := H.ext.grown hgr H.o2.low
  have hset : ∀ i, i ≠ h → (w'.setCell ⟨h, 5, none⟩ u).heap[i]? = w'.heap[i]? := fun i hi => Below.heap_setCell w' ⟨h, 5, none⟩ u i hi
  have hgrow : w'.grownBy (w'.setCell ⟨h, 5, none⟩ u) (some h) := only_set (World.grownBy.refl w' _) 5 u
  refine ⟨⟨xb'.set5 l u, o1'.kept hgrow ?_, ho.kept hgrow ?_, ?_, dr'.same (hset g (fun e => H.hg_ne e.symm)), e'.set_ H.hh u, H.hg, H.hh, (hset c0 H.hc).trans rc', H.hc, H.hcc⟩, xb'.cells.2.2.2.2.2, xb'.free 5⟩
  · intro b hb e
    injection e with e
    subst e
    exact own_ne o1' xb' (by decide) hb
  · intro b hb e
    injection e with e
    subst e
    exact own_ne ho xb' (by decide) hb
  · intro b hu hv
    rcases hb with hb | hb
    · exact H.ne b hu (hb ▸ hv)
    · rw [hb] at hv
      injection hv with hv
      subst hv
      have := H.o1.high _ hu
      omega
/-- A field of the instruction's is set. -/
theorem DS.field (H : DS w0 w h g c0 x v1 v2 v b q) {y : In} {j : Nat} {u : Value} (hx : XP (w.setCell ⟨h, j, none⟩ u) h y v1 v2) (ht : y.to = x.to) (hk : y.ks = x.ks) : DS w0 (w.setCell ⟨h, j, none⟩ u) h g c0 y v1 v2 v b q := by
  have hset : ∀ i, i ≠ h → (w.setCell ⟨h, j, none⟩ u).heap[i]? = w.heap[i]? := fun i hi => Below.heap_setCell w ⟨h, j, none⟩ u i hi
  have hgrow : w.grownBy (w.setCell ⟨h, j, none⟩ u) (some h) := only_set (World.grownBy.refl w _) j u
  have k1 := H.o1.kept hgrow (fun b hb e => by
    injection e with e
    subst e
    exact own_ne H.o1 H.xb (by decide) hb)
  have k2 := H.o2.kept hgrow (fun b hb e => by
    injection e with e
    subst e
    exact own_ne H.o2 H.xb (by decide) hb)
  rw [← ht] at k1
  rw [← hk] at k2
  exact ⟨hx, k1, k2, H.ne, H.dr.same (hset g (fun e => H.hg_ne e.symm)), H.ext.set_ H.hh u, H.hg, H.hh, (hset c0 H.hc).trans H.rc, H.hc, H.hcc⟩
theorem DS.set2 (H : DS w0 w h g c0 x v1 v2 v b q) (n : Int) : DS w0 (w.setCell ⟨h, 2, none⟩ (.int .i64 n)) h g c0 ⟨x.a, x.o, n, x.m, x.to, x.ks⟩ v1 v2 v b q := H.field (H.xb.set2 n) rfl rfl
theorem DS.set3 (H : DS w0 w h g c0 x v1 v2 v b q) (n : Int) : DS w0 (w.setCell ⟨h, 3, none⟩ (.int .i64 n)) h g c0 ⟨x.a, x.o, x.n, n, x.to, x.ks⟩ v1 v2 v b q := H.field (H.xb.set3 n) rfl rfl
end
end Go.Proofs.Ytcgajgileehbbaa
