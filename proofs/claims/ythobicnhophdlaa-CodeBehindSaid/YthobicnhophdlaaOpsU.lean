/- Whether an instruction may be, as the project tells it. -/
import Derived.Test.YthobicnhophdlaaOpsG
import Derived.Test.YthobicnhophdlaaOpsC
import Derived.LoopN
import Derived.Deep.RegionWith
import Derived.Deep.RegionLaw
namespace Go.Proofs.Ythobicnhophdlaa
open Go.RowKit
set_option linter.unusedVariables false

theorem all_no {l : List Int} {p : Int → Bool} {k : Nat} (h : k < l.length) (hp : p (gi l k) = false) : l.all p = false := by
  rw [List.all_eq_false]
  exact ⟨_, gi_mem h, by rw [hp]; simp⟩
theorem all_next {l : List Int} {p : Int → Bool} {k : Nat} (h : k < l.length) (ha : (l.take k).all p = true) (hp : p (gi l k) = true) : (l.take (k + 1)).all p = true := by
  rw [take_one h, List.all_append, ha]
  simp [hp]
set_option maxHeartbeats 2000000 in
theorem allPlaces_any (v : Value) (l : List Int) (w : World) (h : Row w .i64 v l) :
    Calls Try.prog 47 #[v] w fun e w' => e = .returned (.bool (l.all (inR 0 8191))) ∧ Ext w w' := by
  have HR := Lib.hid h
  obtain ⟨A1, c1, rfl, hc1, hm1, ha1, hf1, hg1⟩ := h
  unfold maxLen at hm1
  obtain ⟨n, hn⟩ : ∃ n, n = l.length := ⟨_, rfl⟩
  rw [← hn] at hc1 hg1 HR ⊢
  have Hn := Lib.hid hn
  clear hn ha1 hf1 hg1
  go_enter Try.func47, Try.ntmps47
  go_wp2
  go_loopw [7] (fun i wr => ∃ k : Nat, k ≤ n ∧ i = .int .i64 k ∧ Hid (Ext w wr) ∧ Hid ((l.take k).all (inR 0 8191) = true)) (fun i _ => n - (intOf i).toNat)
  case atStart => exact ⟨0, by omega, rfl, Lib.hid (Ext.refl w), Lib.hid rfl⟩
  case round =>
    obtain ⟨k, hk, rfl, HX, Ht⟩ := hrel
    by_cases hlt : k < n
    · obtain ⟨A2, k2, hq, -, -, -, -, hg2⟩ := HR.out.ext HX.out
      injection hq with hq1 hq2 hq3
      subst hq1
      clear hq2 hq3
      obtain ⟨b1, o1, rfl, hb1, hx1⟩ := hg2 (by have := Hn.out; omega)
      have y0 := hx1 k (by have := Hn.out; omega)
      clear hx1 hg2
      by_cases he : inR 0 8191 (gi l k) = true
      · have HE := Lib.hid he
        clear he
        go_wp2_with (first
          | (go_at_call 44; refine (places_any _).mono ?_; rintro e w1 ⟨rfl, rfl⟩)
          | (go_at_call 45; refine (has_any _ _ _ _).mono ?_; rintro e w2 ⟨rfl, x2⟩; rw [HE.out]))
        go_roundw
        case rel => exact ⟨k + 1, by omega, by go_num, Lib.hid ((HX.out.alloc _).trans x2), Lib.hid (all_next (by have := Hn.out; omega) Ht.out HE.out)⟩
        case measure => simp [intOf]; omega
      · have HE := Lib.hid (show inR 0 8191 (gi l k) = false by simpa using he)
        clear he
        go_wp2_with (first
          | (go_at_call 44; refine (places_any _).mono ?_; rintro e w1 ⟨rfl, rfl⟩)
          | (go_at_call 45; refine (has_any _ _ _ _).mono ?_; rintro e w2 ⟨rfl, x2⟩; rw [HE.out]))
        go_ret
        exact ⟨ret_bb (all_no (by have := Hn.out; omega) HE.out).symm, (HX.out.alloc _).trans x2⟩
    · obtain rfl : k = n := by omega
      go_wp2
      go_ret
      have := Ht.out
      rw [Hn.out, List.take_length] at this
      exact ⟨ret_bb this.symm, HX.out⟩
end Go.Proofs.Ythobicnhophdlaa
