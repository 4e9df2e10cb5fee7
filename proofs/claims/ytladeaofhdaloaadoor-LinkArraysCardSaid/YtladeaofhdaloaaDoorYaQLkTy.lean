/- Types, asked of a set: may one be, does one stand below another one. -/
import Derived.Test.YtladeaofhdaloaaDoorYaQ
import Derived.Deep.RegionHeld3
namespace Go.Proofs.YtladeaofhdaloaaDoor
open Go.RowKit Go.Maps Go.WideMaps
set_option linter.unusedVariables false

theorem baL (s : ByteArray) : s.toList = s.data.toList := ByteArray.toList_mk s.data.toList
theorem ba_inj {s t : ByteArray} (h : s.toList = t.toList) : s = t := by
  rw [baL, baL] at h
  obtain ⟨⟨a⟩⟩ := s
  obtain ⟨⟨b⟩⟩ := t
  simp at h
  rw [h]
theorem ba_ne {s t : ByteArray} (h : ¬ s = t) : (s.toList == t.toList) = false := by
  rw [beq_eq_false_iff_ne]
  exact fun e => h (ba_inj e)
theorem ba_ne' {s t : ByteArray} (h : ¬ s = t) : ¬ s.toList = t.toList := fun e => h (ba_inj e)
def eqTy (k1 : Int) (s1 : ByteArray) (k2 : Int) (s2 : ByteArray) : Bool := decide (k1 = k2) && decide (s1 = s2)
theorem run_eqTy (k1 : Int) (s1 : ByteArray) (k2 : Int) (s2 : ByteArray) (W : World) : (binOp .eql 56 (.agg #[.int .i64 k1, .string s1]) (.agg #[.int .i64 k2, .string s2])).run Tryd.prog W = .ok (.bool (eqTy k1 s1 k2 s2)) W := by
  go_simp
  unfold eqTy
  by_cases h1 : k1 = k2
  · by_cases h2 : s1 = s2
    · subst h1 h2
      simp
    · have h3 := ba_ne' h2
      simp [h1, h2, h3]
  · simp [h1]
def mayZ (N : List Kl) (k : Int) (s : ByteArray) : Bool := if k = 3 ∨ k = 6 then decide (0 ≤ findZ N s) else if k = 1 ∨ k = 2 ∨ k = 4 ∨ k = 5 then decide (s = ⟨#[]⟩) else false
def refZ (N : List Kl) (k : Int) (s : ByteArray) : Bool := decide (3 ≤ k) && mayZ N k s
def belowTy (N : List Kl) (k1 : Int) (s1 : ByteArray) (k2 : Int) (s2 : ByteArray) : Bool := refZ N k1 s1 && (refZ N k2 s2 && (eqTy k1 s1 k2 s2 || (eqTy k2 s2 3 nObj || (decide (k1 = k2) && belowZ N (findZ N s1) (findZ N s2)))))
section
variable {B s : Nat} {N : List Kl} {w : World}
theorem sNamed (h : SetIs B s N w) (nm : ByteArray) (hz : nm.size ≤ 140737488351232) : Calls Tryd.prog 60 #[.pointer (some ⟨s, 0, none⟩), .string nm] w fun e w' => e = .returned (.int .i64 (findZ N nm)) ∧ w' = w := by
  obtain ⟨m, g, c, D, ns, h1⟩ := h.get
  have := named_any h1.set.get nm hz
  rw [show ns.map (·.k) = N from h1.kl] at this
  exact this
set_option maxRecDepth 100000 in
theorem sMay (h : SetIs B s N w) (k : Int) (nm : ByteArray) (hz : nm.size ≤ 140737488351232) : Calls Tryd.prog 36 #[.pointer (some ⟨s, 0, none⟩), .agg #[.int .i64 k, .string nm]] w fun e w' => e = .returned (.bool (mayZ N k nm)) ∧ Ext w w' := by
  have HNU := Lib.hid (fun W (e : Ext w W) => sNumber (h.ext e) nm hz)
  have HLE := Lib.hid (fun W (e : Ext w W) => sLen (h.ext e))
  have hn8 := h.n8
  obtain ⟨n, hn⟩ : ∃ n, N.length = n := ⟨_, rfl⟩
  rw [hn] at HLE hn8
  have hn0 : (0 : Int) < (n : Int) := by omega
  obtain ⟨f, hf⟩ : ∃ f, findZ N nm = f := ⟨_, rfl⟩
  rw [hf] at HNU
  have HF := Lib.hid hf
  clear h hz hn hf
  have HX := Lib.hid ((Ext.refl w).alloc (.cells #[.int .i64 k, .string nm] 56))
  have ref : k = 3 ∨ k = 6 → Calls Tryd.prog 36 #[.pointer (some ⟨s, 0, none⟩), .agg #[.int .i64 k, .string nm]] w fun e w' => e = .returned (.bool (mayZ N k nm)) ∧ Ext w w' := by
    intro hk
    have e : mayZ N k nm = decide (0 ≤ f) := by unfold mayZ; rw [if_pos hk, HF.out]
    rw [e]
    obtain ⟨u, hu⟩ : ∃ u : Int, (if f < 0 then 0 else f) = u := ⟨_, rfl⟩
    obtain ⟨b, hb⟩ : ∃ b : Bool, decide (0 ≤ f) = b := ⟨_, rfl⟩
    rw [hu, hb] at HNU
    rw [hb]
    clear e hu hb
    rcases hk with rfl | rfl
    all_goals
      go_enter Tryd.func36, Tryd.ntmps36
      go_wp2_with fail
      refine (HNU.out _ HX.out).mono ?_
      rintro e w5 ⟨rfl, rfl⟩
      go_wp2
      go_ret
      exact ⟨rfl, HX.out⟩
  have plain : k = 1 ∨ k = 2 ∨ k = 4 ∨ k = 5 → Calls Tryd.prog 36 #[.pointer (some ⟨s, 0, none⟩), .agg #[.int .i64 k, .string nm]] w fun e w' => e = .returned (.bool (mayZ N k nm)) ∧ Ext w w' := by
    intro hk
    by_cases hnm : nm = ⟨#[]⟩
    · have e : mayZ N k nm = true := by unfold mayZ; rw [if_neg (by omega), if_pos hk, decide_eq_true hnm]
      rw [e]
      clear e ref
      subst hnm
      rcases hk with rfl | rfl | rfl | rfl
      all_goals
        go_enter Tryd.func36, Tryd.ntmps36
        go_wp2_with fail
        refine (HLE.out _ HX.out).mono ?_
        rintro e w5 ⟨rfl, rfl⟩
        go_wp2
        go_ret
        exact ⟨by simp; omega, HX.out⟩
    · have e : mayZ N k nm = false := by unfold mayZ; rw [if_neg (by omega), if_pos hk, decide_eq_false hnm]
      rw [e]
      clear e ref
      have q1 : ¬ nm.toList = [] := fun e => hnm (ba_inj (e.trans (ByteArray.toList_mk []).symm))
      have q2 : (nm.toList == []) = false := by rw [beq_eq_false_iff_ne]; exact q1
      clear hnm
      rcases hk with rfl | rfl | rfl | rfl
      all_goals
        go_enter Tryd.func36, Tryd.ntmps36
        go_wp2
        go_ret
        exact ⟨rfl, HX.out⟩
  by_cases h1 : k = 3 ∨ k = 6
  · exact ref h1
  by_cases h2 : k = 1 ∨ k = 2 ∨ k = 4 ∨ k = 5
  · exact plain h2
  have e : mayZ N k nm = false := by unfold mayZ; rw [if_neg h1, if_neg h2]
  rw [e]
  clear e ref plain
  have k1 : ¬ k = 1 := by omega
  have k2 : ¬ k = 2 := by omega
  have k3 : ¬ k = 3 := by omega
  have k4 : ¬ k = 4 := by omega
  have k5 : ¬ k = 5 := by omega
  have k6 : ¬ k = 6 := by omega
  clear h1 h2
  go_enter Tryd.func36, Tryd.ntmps36
  go_wp2
  go_ret
  exact ⟨rfl, HX.out⟩
set_option maxRecDepth 100000 in
theorem sMayRef (h : SetIs B s N w) (k : Int) (nm : ByteArray) (hz : nm.size ≤ 140737488351232) : Calls Tryd.prog 59 #[.pointer (some ⟨s, 0, none⟩), .agg #[.int .i64 k, .string nm]] w fun e w' => e = .returned (.bool (refZ N k nm)) ∧ Ext w w' := by
  have HM := Lib.hid (fun W (e : Ext w W) => sMay (h.ext e) k nm hz)
  have HX := Lib.hid ((Ext.refl w).alloc (.cells #[.int .i64 k, .string nm] 56))
  unfold refZ
  by_cases h3 : 3 ≤ k
  · rw [decide_eq_true h3]
    obtain ⟨b, hb⟩ : ∃ b, mayZ N k nm = b := ⟨_, rfl⟩
    rw [hb] at HM ⊢
    clear h hz hb
    go_enter Tryd.func59, Tryd.ntmps59
    go_wp2_with fail
    refine (HM.out _ HX.out).mono ?_
    rintro e w5 ⟨rfl, x5⟩
    go_wp2
    go_ret
    exact ⟨rfl, HX.out.trans x5⟩
  · rw [decide_eq_false h3, Bool.false_and]
    clear h hz HM
    go_enter Tryd.func59, Tryd.ntmps59
    go_wp2
    go_ret
    exact ⟨rfl, HX.out⟩
end
end Go.Proofs.YtladeaofhdaloaaDoor
