/- The interfaces that a class names, asked for; what stands right above a class. -/
import Derived.Test.YtladeaofhdaloaaDoorYaQ
namespace Go.Proofs.YtladeaofhdaloaaDoor
open Go.RowKit Go.Maps Go.WideMaps
set_option linter.unusedVariables false
section
variable {B s : Nat} {N : List Kl} {w : World}
theorem SetIs.gr (h : SetIs B s N w) (k : Nat) (hk : k < N.length) : supI N k = supV (grK N) k ∧ ifsI N k = ints ((grK N).ifs k) := by
  obtain ⟨m, g, c, D, ns, h1⟩ := h.get
  obtain ⟨r, hr⟩ := h.bl
  obtain ⟨x, hx, -, h3, h4⟩ := h1.tells k hk
  have h5 := told_gr (r := r) h1.told (h1.kl.trans hr) (by rw [h1.kl]; exact h.flt) k x hx
  rw [h1.kl] at h5
  exact ⟨h3.symm.trans h5.1, h4.symm.trans h5.2⟩
theorem SetIs.short (h : SetIs B s N w) (k : Nat) (hk : k < N.length) : (ifsI N k).length ≤ 1000000 := by
  obtain ⟨m, g, c, D, ns, h1⟩ := h.get
  obtain ⟨r, hr⟩ := h.bl
  obtain ⟨x, hx, -, h3, h4⟩ := h1.tells k hk
  have hf := fltZ_none.1 h.flt
  have := is_short (r := r) h1.told (h1.kl.trans hr) (by rw [h1.kl]; exact h.n72) (fun i h8 hi => by rw [h1.kl] at hi ⊢; exact (hf i h8 hi).2.1) (fun i h8 hi => by rw [h1.kl] at hi ⊢; exact (hf i h8 hi).2.2.2.1) x (List.mem_of_getElem? hx)
  rw [← h4]
  exact this
set_option maxRecDepth 100000 in
theorem ifs_in {m g n c : Nat} {D : DataW Unit} {ns : List Nd} (h : SetNew B s m g n c D N w ns) (h72 : n ≤ 72) (k : Nat) (hk : k < n) (hl : (ifsI N k).length ≤ 1000000) : Calls Tryd.prog 25 #[.pointer (some ⟨s, 0, none⟩), .int .i64 k] w fun e w' => ∃ v', e = .returned v' ∧ Own w.heap.size w' 3 .i64 v' (ifsI N k) ∧ Ext w w' := by
  obtain ⟨x, hx, -, -, h4⟩ := h.tells k hk
  obtain ⟨-, -, -, -, -, -, x8, -, -⟩ := h.set.get.node k x hx
  have hr : Row w .i64 (.slice x.vs.A x.vs.n x.vs.c) (ifsI N k) := by rw [← h4]; exact (h.set.ok x (List.mem_of_getElem? hx)).vs.row
  have HN := Lib.hid (node_in h.set.get k hk h72)
  have HC := Lib.hid (cloneI_any hr (by omega))
  clear h hx h4 hr
  go_enter Tryd.func25, Tryd.ntmps25
  go_wp2_with fail
  refine HN.out.mono ?_
  rintro e w' ⟨rfl, rfl⟩
  go_wp2_with fail
  refine HC.out.mono ?_
  rintro e w5 ⟨v', rfl, ho, x5⟩
  go_wp2
  go_ret
  exact ⟨_, rfl, ho, x5⟩
set_option maxRecDepth 100000 in
theorem ifs_out {m g n c : Nat} {ns : List Nd} (h : SetG s m g n c w ns) (h72 : n ≤ 72) (i : Int) (hi : i < 0 ∨ (n : Int) ≤ i) : Calls Tryd.prog 25 #[.pointer (some ⟨s, 0, none⟩), .int .i64 i] w fun e w' => ∃ v', e = .returned v' ∧ Own w.heap.size w' 3 .i64 v' [] ∧ Ext w w' := by
  have HN := Lib.hid (node_out h h72 i hi)
  have HC := Lib.hid (fun W => cloneI_any (l := []) (Own.nil 0 W 3 .i64).row (by simp))
  clear h hi
  go_enter Tryd.func25, Tryd.ntmps25
  go_wp2_with fail
  refine HN.out.mono ?_
  rintro e w1 ⟨b, rfl, hb, x1⟩
  obtain ⟨c1, c3, c7, c8, c9, c10⟩ := none_cells hb
  have HX := Lib.hid x1
  clear hb x1
  go_wp2_with fail
  refine (HC.out _).mono ?_
  rintro e w5 ⟨v', rfl, ho, x5⟩
  go_wp2
  go_ret
  exact ⟨_, rfl, ho.base HX.out.size, HX.out.trans x5⟩
theorem sIfs (h : SetIs B s N w) (i : Int) : Calls Tryd.prog 25 #[.pointer (some ⟨s, 0, none⟩), .int .i64 i] w fun e w' => ∃ v', e = .returned v' ∧ Own w.heap.size w' 3 .i64 v' (ifsZ N i) ∧ Ext w w' := by
  obtain ⟨m, g, c, D, ns, h1⟩ := h.get
  rcases in_cases N i with ⟨k, rfl, hk⟩ | hi
  · unfold ifsZ
    rw [inN_nat hk]
    exact ifs_in h1 h.n72 k hk (h.short k hk)
  · unfold ifsZ
    rw [inN_no hi]
    exact ifs_out h1.set.get h.n72 i hi
def upsI (N : List Kl) (k : Nat) : List Int := ifsI N k ++ (if 0 ≤ supI N k then [supI N k] else [])
theorem SetIs.ups_mem (h : SetIs B s N w) (k : Nat) (hk : k < N.length) (u : Int) : u ∈ upsI N k ↔ ∃ j : Nat, u = j ∧ j ∈ (grK N).ups k := by
  obtain ⟨h1, h2⟩ := h.gr k hk
  unfold upsI Gr.ups
  rw [h1, h2, List.mem_append]
  unfold supV ints
  constructor
  · rintro (hu | hu)
    · obtain ⟨j, hj, rfl⟩ := List.mem_map.1 hu
      exact ⟨j, rfl, List.mem_append.2 (.inr hj)⟩
    · cases hs : (grK N).sup k with
      | none => rw [hs] at hu; simp at hu
      | some j =>
        rw [hs] at hu
        simp at hu
        exact ⟨j, hu, List.mem_append.2 (.inl (by simp))⟩
  · rintro ⟨j, rfl, hj⟩
    rcases List.mem_append.1 hj with hj | hj
    · right
      have hs : (grK N).sup k = some j := by simpa using hj
      rw [hs]
      simp
    · exact .inl (List.mem_map.2 ⟨j, hj, rfl⟩)
theorem SetIs.ups_below (h : SetIs B s N w) (k : Nat) (hk : k < N.length) (u : Int) (hu : u ∈ upsI N k) : belowZ N k u = true := by
  obtain ⟨j, rfl, hj⟩ := (h.ups_mem k hk u).1 hu
  exact (below_iff hk j).2 (h.ok.ab_ups hk hj)
theorem SetIs.step (h : SetIs B s N w) (k : Nat) (hk : k < N.length) (y : Nat) : belowZ N k y = (decide (k = y) || decide (y = 0) || (upsI N k).any (fun u => belowZ N u y)) := by
  rw [Bool.eq_iff_iff, below_iff hk y, h.ok.ab_step hk]
  simp only [Bool.or_eq_true, decide_eq_true_eq, List.any_eq_true]
  constructor
  · rintro (e | e | ⟨u, hu, h1⟩)
    · exact .inl (.inl e)
    · exact .inl (.inr e)
    · exact .inr ⟨u, (h.ups_mem k hk u).2 ⟨u, rfl, hu⟩, (below_iff (h.ok.in_ _ _ hu) y).2 h1⟩
  · rintro ((e | e) | ⟨u, hu, h1⟩)
    · exact .inl e
    · exact .inr (.inl e)
    · obtain ⟨j, rfl, hj⟩ := (h.ups_mem k hk u).1 hu
      exact .inr (.inr ⟨j, hj, (below_iff (h.ok.in_ _ _ hj) y).1 h1⟩)
end
end Go.Proofs.YtladeaofhdaloaaDoor
