/- The document's own take, walked: all ways together. -/
import Derived.Test.YtibcaienaejgpaaDescI
namespace Go.Proofs.Ytibcaienaejgpaa
open Go.RowKit
set_option linter.unusedVariables false

theorem byte_ne {c d : UInt8} {n : Int} (hd : (d.toNat : Int) = n) (h : ¬ c = d) : ((c.toNat : Int) == n) = false := by
  simp only [beq_eq_false_iff_ne, ne_eq]
  intro e
  exact h (UInt8.toNat_inj.1 (by omega))
theorem refTake_any (l : List UInt8) (hl : l.length ≤ 140737488351232) (w : World) : Calls Try.prog 45 #[.string (bs l)] w (TakeAns l w) := by
  match l, hl with
  | [], _ => exact take_nil w
  | c :: r, hl =>
    have hr : r.length ≤ 140737488351232 := by simp only [List.length_cons] at hl; omega
    by_cases h1 : c = 73
    · subst h1; exact take_73 r hr w
    by_cases h2 : c = 74
    · subst h2; exact take_74 r hr w
    by_cases h3 : c = 76
    · subst h3
      by_cases hm : semi r < r.length
      · cases hn : nameB (r.take (semi r))
        · exact take_L_bad r hr hm hn w
        · exact take_L_ok r hr hm hn w
      · exact take_L_none r hr (by have := semi_le r; omega) w
    by_cases h4 : c = 91
    · subst h4
      match r, hr with
      | [], _ => exact take_open w
      | d :: r, hr =>
        have hr2 : r.length ≤ 140737488351232 := by simp only [List.length_cons] at hr; omega
        by_cases h1 : d = 73
        · subst h1; exact take_a73 r hr2 w
        by_cases h2 : d = 74
        · subst h2; exact take_a74 r hr2 w
        by_cases h3 : d = 76
        · subst h3
          by_cases hm : semi r < r.length
          · cases hn : nameB (r.take (semi r))
            · exact take_aL_bad r hr2 hm hn w
            · exact take_aL_ok r hr2 hm hn w
          · exact take_aL_none r hr2 (by have := semi_le r; omega) w
        exact take_aodd d (byte_ne rfl h1) (byte_ne rfl h2) (byte_ne rfl h3) r hr2 w
    exact take_odd c (byte_ne rfl h1) (byte_ne rfl h2) (byte_ne rfl h3) (byte_ne rfl h4) r hr w
end Go.Proofs.Ytibcaienaejgpaa
