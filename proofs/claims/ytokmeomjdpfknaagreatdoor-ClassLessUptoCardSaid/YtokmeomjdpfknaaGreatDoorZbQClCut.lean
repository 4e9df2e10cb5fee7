/- One of a list of structs is taken out, in its place; a class that has fewer of all. (gen_clcut.py) -/
import Derived.Test.YtokmeomjdpfknaaGreatDoorZbQClCp
import Derived.Test.YtokmeomjdpfknaaGreatDoorZbAP
namespace Go.Proofs.YtokmeomjdpfknaaGreatDoor
open Go.RowKit
set_option linter.unusedVariables false

def cutAt {α : Type} (l : List α) (i : Nat) : List α := l.take i ++ l.drop (i + 1)
theorem cutAt_mem {α : Type} {l : List α} {i : Nat} {x : α} (h : x ∈ cutAt l i) : x ∈ l := by
  rcases List.mem_append.1 h with h | h
  · exact List.mem_of_mem_take h
  · exact List.mem_of_mem_drop h
theorem cutAt_len {α : Type} (l : List α) (i : Nat) : (cutAt l i).length ≤ l.length := by
  unfold cutAt
  rw [List.length_append, List.length_take, List.length_drop]
  omega
theorem cutAt_one {α : Type} {l : List α} {i : Nat} (h : i < l.length) : (cutAt l i).length = l.length - 1 := by
  unfold cutAt
  rw [List.length_append, List.length_take, List.length_drop]
  omega
theorem okCl_of {c : Cl} (h1 : checkC c.pool = 0) (h2 : nmB c.nm = true) (h3 : c.sup = .empty ∨ nmB c.sup = true) (h4 : c.ifs.length ≤ 64) (h5 : ∀ x ∈ c.ifs, nmB x = true) (h6 : c.fds.length ≤ 256) (h7 : ∀ x ∈ c.fds, okFd x = true) (h8 : c.mts.length ≤ 256) (h9 : ∀ x ∈ c.mts, okMe c.pool x = true) : okCl c = true := by
  unfold okCl
  simp only [Bool.and_eq_true, Bool.or_eq_true, decide_eq_true_eq, List.all_eq_true]
  exact ⟨h1, h2, h3, h4, h5, h6, h7, h8, h9⟩
def Few {α : Type} (m l : List α) : Prop := m.length ≤ l.length ∧ ∀ x ∈ m, x ∈ l
theorem Few.refl {α : Type} (l : List α) : Few l l := ⟨Nat.le_refl _, fun _ h => h⟩
theorem Few.cut {α : Type} (l : List α) (i : Nat) : Few (cutAt l i) l := ⟨cutAt_len l i, fun _ h => cutAt_mem h⟩
theorem okCl_few {c d : Cl} (h : okCl c = true) (hp : d.pool = c.pool) (hn : d.nm = c.nm) (hs : d.sup = c.sup) (h1 : Few d.ifs c.ifs) (h2 : Few d.fds c.fds) (h3 : Few d.mts c.mts) : okCl d = true := by
  obtain ⟨p1, p2, p3, p4, p5, p6, p7, p8, p9⟩ := okCl_parts h
  refine okCl_of (by rw [hp]; exact p1) (by rw [hn]; exact p2) (by rw [hs]; exact p3) (Nat.le_trans h1.1 p4) (fun x hx => p5 x (h1.2 x hx)) (Nat.le_trans h2.1 p6) (fun x hx => p7 x (h2.2 x hx)) (Nat.le_trans h3.1 p8) (fun x hx => ?_)
  rw [hp]
  exact p9 x (h3.2 x hx)
theorem room_few {c d : Cl} (h : ClRoom c) (hp : d.pool = c.pool) (hn : d.nm = c.nm) (hs : d.sup = c.sup) (h1 : Few d.ifs c.ifs) (h2 : Few d.fds c.fds) (h3 : Few d.mts c.mts) : ClRoom d :=
  ⟨by rw [hp]; exact h.pool, by rw [hn]; exact h.nm, by rw [hs]; exact h.sup, fun x hx => h.ifs x (h1.2 x hx), fun x hx => h.fds x (h2.2 x hx), fun x hx => h.mts x (h3.2 x hx)⟩
theorem Shp.Row.tail {α : Type} {S : Shp α} {w : World} {b o n c : Nat} {l : List α} (h : S.Row w (.slice (some ⟨b, o, none⟩) n c) l) (q : Nat) (hq : q ≤ l.length) : S.Row w (.slice (some ⟨b, o + q * S.n, none⟩) (n - q) (c - q)) (l.drop q) := by
  obtain ⟨A, c', h1, h2, h3, h4, h6, h7⟩ := h
  injection h1 with e1 e2 e3
  subst e1 e2 e3
  have hlen : (l.drop q).length = l.length - q := by simp
  refine ⟨_, _, by rw [hlen], by rw [hlen]; omega, by omega, (fun h => by cases h), fun hl => ?_, fun x hx => h7 x (List.mem_of_mem_drop hx)⟩
  rw [hlen] at hl
  obtain ⟨b', o', ha, hb, hc⟩ := h6 (by omega)
  injection ha with ha
  injection ha with ha1 ha2
  subst ha1 ha2
  refine ⟨b, o + q * S.n, rfl, hb, fun j hj => ?_⟩
  rw [hlen] at hj
  have e : S.el (l.drop q) j = S.el l (q + j) := by simp [Shp.el]
  rw [e, show o + q * S.n + j * S.n = o + (q + j) * S.n by rw [Nat.add_mul]; omega]
  exact hc (q + j) (by omega)
theorem Shp.Row.none_ {α : Type} {S : Shp α} {w : World} {A : Option Addr} {c : Nat} (ha : A = none → c = 0) (hc : c ≤ maxLen) : S.Row w (.slice A 0 c) [] :=
  ⟨A, c, rfl, Nat.zero_le _, hc, ha, fun h => by simp at h, fun _ h => by cases h⟩
theorem Shp.flat_take {α : Type} (S : Shp α) (l : List α) (i : Nat) (hi : i ≤ l.length) : (l.flatMap fun x => (S.vals x).toList).take (i * S.n) = (l.take i).flatMap fun x => (S.vals x).toList := by
  conv => lhs; rw [← List.take_append_drop i l, List.flatMap_append]
  have e : ((l.take i).flatMap fun x => (S.vals x).toList).length = i * S.n := by
    rw [S.flat_len, List.length_take, Nat.min_eq_left hi]
  rw [← e, List.take_left]
theorem Shp.Own.firsts {α : Type} {S : Shp α} {B : Nat} {w : World} {g n c : Nat} {l : List α} (h : S.Own B w (.slice (some ⟨g, 0, none⟩) n c) l) (i : Nat) (hi : i ≤ l.length) : S.Own B w (.slice (some ⟨g, 0, none⟩) i c) (l.take i) := by
  have hlen : (l.take i).length = i := by rw [List.length_take]; omega
  refine ⟨⟨by rw [S.flat_len], ?_⟩, fun x hx => h.2 x (List.mem_of_mem_take hx)⟩
  rw [hlen]
  rcases h.1.2 with ⟨e, _⟩ | ⟨g', cap, cur, e, hB, hg, h1, h2, h3, h4⟩
  · cases e
  · injection e with e1 e2 e3
    injection e1 with e1
    injection e1 with e1
    subst e1 e3
    refine .inr ⟨g, c, cur, rfl, hB, hg, by omega, h2, h3, ?_⟩
    rw [← S.flat_take l i hi, ← h4, List.take_take, Nat.min_eq_left (Nat.mul_le_mul_right _ hi)]
theorem cut_opsF {B : Nat} {w : World} {g n c : Nat} {l : List Fd} (h : ShF.Own B w (.slice (some ⟨g, 0, none⟩) n c) l) (i : Nat) (hi : i < l.length) :
    ∃ v2, (∀ W, (Instr.slice 24 (.slice (some ⟨g, 0, none⟩) n c) none (some (.int .i64 i)) none).run Tryz.prog W = .ok (.slice (some ⟨g, 0, none⟩) i c) W) ∧ (∀ W, (Instr.slice 24 (.slice (some ⟨g, 0, none⟩) n c) (some (.int .i64 ((i : Int) + 1))) none none).run Tryz.prog W = .ok v2 W) ∧ ShF.Row w v2 (l.drop (i + 1)) := by
  obtain ⟨A, c', e, hc, hm, -⟩ := h.row.cut
  injection e with e1 e2 e3
  subst e1 e2 e3
  have hr := h.row
  have k1 : ¬ c < i := by omega
  have k2 : ¬ l.length < i + 1 := by omega
  have k3 : i ≤ c := by omega
  have k4 : ¬ c = 0 := by omega
  have k5 : ¬ i + 1 = 0 := by omega
  have k6 : ((i : Int) + 1).toNat = i + 1 := by omega
  have k7 : ¬ (i : Int) + 1 < 0 := by omega
  have k8 : ¬ (l.length : Int) < (i : Int) + 1 := by omega
  by_cases hq : c = i + 1
  · have e : l.drop (i + 1) = [] := List.drop_eq_nil_iff.2 (by omega)
    have hl : l.length = i + 1 := by omega
    rw [e]
    clear e hr h
    subst hq
    rw [hl] at *
    have k10 : ¬ ((i : Int) + 1 < (i : Int)) := by omega
    have k11 : (0 ≤ (i : Int) + 1 ∧ (i : Int) + 1 ≤ (i : Int) + 1) = True := eq_true ⟨by omega, Int.le_refl _⟩
    exact ⟨.slice (some ⟨g, 0, none⟩) 0 0, fun W => by go_simp, fun W => by go_simp, Shp.Row.none_ (fun h => by cases h) (by simp [maxLen])⟩
  · have k9 : ¬ c = i + 1 := hq
    have k11 : (0 ≤ (i : Int) + 1 ∧ (i : Int) + 1 ≤ (l.length : Int)) = True := eq_true ⟨by omega, by omega⟩
    have ht := hr.tail (i + 1) (by omega)
    rw [Nat.zero_add] at ht
    clear h hr
    exact ⟨.slice (some ⟨g, (i + 1) * 4, none⟩) (l.length - (i + 1)) (c - (i + 1)), fun W => by go_simp, fun W => by go_simp, ht⟩
theorem cut_opsM {B : Nat} {w : World} {g n c : Nat} {l : List MeV} (h : ShM.Own B w (.slice (some ⟨g, 0, none⟩) n c) l) (i : Nat) (hi : i < l.length) :
    ∃ v2, (∀ W, (Instr.slice 25 (.slice (some ⟨g, 0, none⟩) n c) none (some (.int .i64 i)) none).run Tryz.prog W = .ok (.slice (some ⟨g, 0, none⟩) i c) W) ∧ (∀ W, (Instr.slice 25 (.slice (some ⟨g, 0, none⟩) n c) (some (.int .i64 ((i : Int) + 1))) none none).run Tryz.prog W = .ok v2 W) ∧ ShM.Row w v2 (l.drop (i + 1)) := by
  obtain ⟨A, c', e, hc, hm, -⟩ := h.row.cut
  injection e with e1 e2 e3
  subst e1 e2 e3
  have hr := h.row
  have k1 : ¬ c < i := by omega
  have k2 : ¬ l.length < i + 1 := by omega
  have k3 : i ≤ c := by omega
  have k4 : ¬ c = 0 := by omega
  have k5 : ¬ i + 1 = 0 := by omega
  have k6 : ((i : Int) + 1).toNat = i + 1 := by omega
  have k7 : ¬ (i : Int) + 1 < 0 := by omega
  have k8 : ¬ (l.length : Int) < (i : Int) + 1 := by omega
  by_cases hq : c = i + 1
  · have e : l.drop (i + 1) = [] := List.drop_eq_nil_iff.2 (by omega)
    have hl : l.length = i + 1 := by omega
    rw [e]
    clear e hr h
    subst hq
    rw [hl] at *
    have k10 : ¬ ((i : Int) + 1 < (i : Int)) := by omega
    have k11 : (0 ≤ (i : Int) + 1 ∧ (i : Int) + 1 ≤ (i : Int) + 1) = True := eq_true ⟨by omega, Int.le_refl _⟩
    exact ⟨.slice (some ⟨g, 0, none⟩) 0 0, fun W => by go_simp, fun W => by go_simp, Shp.Row.none_ (fun h => by cases h) (by simp [maxLen])⟩
  · have k9 : ¬ c = i + 1 := hq
    have k11 : (0 ≤ (i : Int) + 1 ∧ (i : Int) + 1 ≤ (l.length : Int)) = True := eq_true ⟨by omega, by omega⟩
    have ht := hr.tail (i + 1) (by omega)
    rw [Nat.zero_add] at ht
    clear h hr
    exact ⟨.slice (some ⟨g, (i + 1) * 10, none⟩) (l.length - (i + 1)) (c - (i + 1)), fun W => by go_simp, fun W => by go_simp, ht⟩
theorem cut_opsS {B : Nat} {w : World} {g n c : Nat} {l : List ByteArray} (h : ShS.Own B w (.slice (some ⟨g, 0, none⟩) n c) l) (i : Nat) (hi : i < l.length) :
    ∃ v2, (∀ W, (Instr.slice 23 (.slice (some ⟨g, 0, none⟩) n c) none (some (.int .i64 i)) none).run Tryz.prog W = .ok (.slice (some ⟨g, 0, none⟩) i c) W) ∧ (∀ W, (Instr.slice 23 (.slice (some ⟨g, 0, none⟩) n c) (some (.int .i64 ((i : Int) + 1))) none none).run Tryz.prog W = .ok v2 W) ∧ ShS.Row w v2 (l.drop (i + 1)) := by
  obtain ⟨A, c', e, hc, hm, -⟩ := h.row.cut
  injection e with e1 e2 e3
  subst e1 e2 e3
  have hr := h.row
  have k1 : ¬ c < i := by omega
  have k2 : ¬ l.length < i + 1 := by omega
  have k3 : i ≤ c := by omega
  have k4 : ¬ c = 0 := by omega
  have k5 : ¬ i + 1 = 0 := by omega
  have k6 : ((i : Int) + 1).toNat = i + 1 := by omega
  have k7 : ¬ (i : Int) + 1 < 0 := by omega
  have k8 : ¬ (l.length : Int) < (i : Int) + 1 := by omega
  by_cases hq : c = i + 1
  · have e : l.drop (i + 1) = [] := List.drop_eq_nil_iff.2 (by omega)
    have hl : l.length = i + 1 := by omega
    rw [e]
    clear e hr h
    subst hq
    rw [hl] at *
    have k10 : ¬ ((i : Int) + 1 < (i : Int)) := by omega
    have k11 : (0 ≤ (i : Int) + 1 ∧ (i : Int) + 1 ≤ (i : Int) + 1) = True := eq_true ⟨by omega, Int.le_refl _⟩
    exact ⟨.slice (some ⟨g, 0, none⟩) 0 0, fun W => by go_simp, fun W => by go_simp, Shp.Row.none_ (fun h => by cases h) (by simp [maxLen])⟩
  · have k9 : ¬ c = i + 1 := hq
    have k11 : (0 ≤ (i : Int) + 1 ∧ (i : Int) + 1 ≤ (l.length : Int)) = True := eq_true ⟨by omega, by omega⟩
    have ht := hr.tail (i + 1) (by omega)
    rw [Nat.zero_add] at ht
    clear h hr
    exact ⟨.slice (some ⟨g, (i + 1) * 1, none⟩) (l.length - (i + 1)) (c - (i + 1)), fun W => by go_simp, fun W => by go_simp, ht⟩
end Go.Proofs.YtokmeomjdpfknaaGreatDoor
