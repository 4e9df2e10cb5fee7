/- The walks of package leb that ops uses: a number in so many bytes, there and back. -/
import Derived.Test.YthobicnhophdlaaClone
import Derived.Test.YthobicnhophdlaaLebSpec
namespace Go.Proofs.Ythobicnhophdlaa
open Go.RowKit
set_option linter.unusedVariables false

theorem above_any (d wy : Int) (w : World) (h0 : 0 ≤ d) (h1 : d ≤ 255) (hw : wy = 1 ∨ wy = 2 ∨ wy = 3 ∨ wy = 4) :
    Calls Try.prog 60 #[.int .u8 d, .int .i64 wy] w fun e w' => e = .returned (.int .i64 (ab wy d)) ∧ w = w' := by
  rcases hw with rfl | rfl | rfl | rfl
  all_goals
    go_enter Try.func60, Try.ntmps60
    go_wp2
    go_ret
    refine ⟨congrArg (fun x : Int => Ending.returned (.int .i64 x)) ?_, rfl⟩
    simp [ab]
    try omega

/-- A row of bytes, and an error's number. -/
def RowErr (w : World) (l : List Int) (x : Int) (v : Value) (w' : World) : Prop := ∃ b, v = .tuple #[b, .int .i64 x] ∧ Own w.heap.size w' 5 .u8 b l



/-- A number, a row of bytes, an error's number. -/
def RowTake (w : World) (r : Int × List Int × Int) (v : Value) (w' : World) : Prop := ∃ b, v = .tuple #[.int .i64 r.1, b, .int .i64 r.2.2] ∧ Own w.heap.size w' 5 .u8 b r.2.1

theorem bg_step (j : Nat) (n : Int) : bg (j + 1) n = (n / 256 ^ j % 256) :: bg j n := rfl

theorem bf_step (acc : Int) {l : List Int} {k : Nat} (h : k < l.length) : bf acc (l.take (k + 1)) = IntKind.i64.wrap (bf acc (l.take k) * 256 + gi l k) := by
  rw [List.take_succ_eq_append_getElem h]
  unfold bf
  rw [List.foldl_append]
  simp [gi, h]

set_option maxHeartbeats 1000000 in
theorem takeBig_any (v : Value) (l : List Int) (size most wy : Int) (w : World) (h : Row w .u8 v l) (hr : l.length ≤ 140737488355328) (hsl : -9223372036854775808 ≤ size) (hsh : size ≤ 9223372036854775807) (hm : most = 7 ∨ most = 8) (hw : wy = 1 ∨ wy = 2 ∨ wy = 3 ∨ wy = 4) :
    Calls Try.prog 59 #[v, .int .i64 size, .int .i64 most, .int .i64 wy] w (Ret w (RowTake w (tB most wy l size))) := by
  by_cases h1 : size < 1 ∨ most < size
  · have e : tB most wy l size = (0, [], 2) := by unfold tB; rw [if_pos h1]
    rw [e]
    clear e
    by_cases h0 : size < 1
    · go_enter Try.func59, Try.ntmps59
      go_wp2_with fail
      refine wp_scope_again 0 (fun _ _ => False) (fun _ _ => 0) rfl (fun _ _ h => h.elim) ?_
      intro key
      clear key
      go_wp2
      simp only [Exit.jump]
      go_ret3
      exact Ret.mk ⟨_, rfl, Own.nil _ _ _ _⟩ (Ext.refl _)

    · have h2 : most < size := by omega
      clear h1
      go_enter Try.func59, Try.ntmps59
      go_wp2_with fail
      refine wp_scope_again 0 (fun _ _ => False) (fun _ _ => 0) rfl (fun _ _ h => h.elim) ?_
      intro key
      clear key
      go_wp2
      simp only [Exit.jump]
      go_ret3
      exact Ret.mk ⟨_, rfl, Own.nil _ _ _ _⟩ (Ext.refl _)

  · obtain ⟨s, rfl⟩ : ∃ s : Nat, size = (s : Int) := ⟨size.toNat, by omega⟩
    have hs1 : 1 ≤ s := by omega
    have hs2 : (s : Int) ≤ most := by omega
    by_cases h2 : l.length < s
    · have e : tB most wy l s = (0, [], 3) := by unfold tB; rw [if_neg h1, if_pos (by omega)]
      rw [e]
      clear e h1
      obtain ⟨A, c, rfl, g2, g3, g4, g5, g6⟩ := h
      clear g6 g4
      go_enter Try.func59, Try.ntmps59
      go_wp2_with fail
      refine wp_scope_again 0 (fun _ _ => False) (fun _ _ => 0) rfl (fun _ _ h => h.elim) ?_
      intro key
      clear key
      go_wp2
      simp only [Exit.jump]
      go_ret3
      exact Ret.mk ⟨_, rfl, Own.nil _ _ _ _⟩ (Ext.refl _)

    · have e : tB most wy l s = (bf (ab wy (gi l 0)) (l.take s), l.drop s, 0) := by unfold tB; rw [if_neg h1, if_neg (by omega), Int.toNat_natCast]
      rw [e]
      clear e h1
      have hrow := h
      obtain ⟨A, c, rfl, g2, g3, g4, g5, g6⟩ := h
      unfold maxLen at g3
      obtain ⟨b, o, rfl, hb, hx⟩ := g6 (by omega)
      have h0 := hx 0 (by omega)
      rw [Nat.add_zero] at h0
      have hf0 := g5.u8 (gi_mem (l := l) (j := 0) (by omega))
      have HX := Lib.hid hx
      have hsl : s ≤ l.length := by omega
      have htail := hrow.tail s hsl
      clear g6 g4 hx
      go_enter Try.func59, Try.ntmps59
      go_wp2_with fail
      refine wp_scope_again 0 (fun a' w' => ∃ (k : Nat) (x : Int) (u13 u14 u15 u16 u17 u18 u19 u20 u21 u22 u23 u24 u25 u26 u27 u28 u29 u30 u31 u32 u33 u34 u35 u36 u37 u38 u39 u40 u41 u42 u43 u44 u45 u46 : Value), a' = { tmps := #[.slice (some ⟨b, o, none⟩) l.length c, .int .i64 s, .int .i64 most, .int .i64 wy, undef, undef, undef, undef, .int .i64 0, .slice none 0 0, .int .i64 0, .int .i64 x, .int .i64 k, u13, u14, u15, u16, u17, u18, u19, u20, u21, u22, u23, u24, u25, u26, u27, u28, u29, u30, u31, u32, u33, u34, u35, u36, u37, u38, u39, u40, u41, u42, u43, u44, u45, u46], defers := [] } ∧ w = w' ∧ k < s ∧ Hid (x = bf (ab wy (gi l 0)) (l.take k))) (fun a' _ => 10 - (intOf (a'.tmps.getD 12 undef)).toNat) rfl ?_ ?_
      · rintro a' w' ⟨k, x, u13, u14, u15, u16, u17, u18, u19, u20, u21, u22, u23, u24, u25, u26, u27, u28, u29, u30, u31, u32, u33, u34, u35, u36, u37, u38, u39, u40, u41, u42, u43, u44, u45, u46, rfl, rfl, hk, HO⟩
        have hy := HX.out k (by omega)
        have hf := g5.u8 (gi_mem (l := l) (j := k) (by omega))
        have hsh := or_shift8 x (gi l k) (by omega) (by omega)
        have HN : Hid (wrap64 (x * 256 + gi l k) = bf (ab wy (gi l 0)) (l.take (k + 1))) := by
          rw [Hid, bf_step _ (by omega), ← HO.out, IntWalk.i64_left]
        rw [IntWalk.i64_left] at hsh
        clear h0 hf0
        by_cases hk1 : k + 1 < s
        · go_wp2
          go_step3
          refine ⟨rfl, ⟨k + 1, _, _, _, _, _, _, _, _, _, _, _, _, _, _, _, _, _, _, _, _, _, _, _, _, _, _, _, _, _, _, _, _, _, _, _, by go_num, rfl, hk1, HN⟩, by simp [intOf]; omega⟩
        · have hks : k + 1 = s := by omega
          have HKS := Lib.hid hks
          clear hks
          by_cases hcc : c = s
          · have hll : l.drop s = [] := List.drop_eq_nil_iff.2 (by omega)
            have HLL := Lib.hid hll
            subst hcc
            clear hll htail
            go_wp2_with (first
              | (go_at_call 61; refine (clone_any _ [] _ (by exact Row.zero _ _ _ (by omega) (by simp [maxLen])) (by simp)).mono ?_; rintro e w2 ⟨v2, rfl, ho2, he2⟩))
            simp only [Exit.jump]
            go_ret3
            refine Ret.mk ⟨_, congrArg (fun z : Int => Value.tuple #[.int .i64 z, _, _]) ?_, ?_⟩ he2
            · rw [← HKS.out]
              exact HN.out
            · rw [HLL.out]
              exact ho2
          · go_wp2_with (first
              | (go_at_call 61; refine (clone_any _ (l.drop s) _ (by exact htail) (by simp; omega)).mono ?_; rintro e w2 ⟨v2, rfl, ho2, he2⟩))
            simp only [Exit.jump]
            go_ret3
            refine Ret.mk ⟨_, congrArg (fun z : Int => Value.tuple #[.int .i64 z, _, _]) ?_, ?_⟩ he2
            · rw [← HKS.out]
              exact HN.out
            · exact ho2
      · intro key
        go_wp2_with (go_at_call 60; refine (above_any _ _ _ (by omega) (by omega) hw).mono ?_; rintro e w1 ⟨rfl, rfl⟩)
        rename_i K hK
        go_step3
        exact hK _ _ (key _ _ ⟨0, _, _, _, _, _, _, _, _, _, _, _, _, _, _, _, _, _, _, _, _, _, _, _, _, _, _, _, _, _, _, _, _, _, _, _, rfl, rfl, by omega, rfl⟩)
theorem TakeBig_any (v : Value) (l : List Int) (size : Int) (w : World) (h : Row w .u8 v l) (hr : l.length ≤ 140737488355328) (hsl : -9223372036854775808 ≤ size) (hsh : size ≤ 9223372036854775807) :
    Calls Try.prog 54 #[v, .int .i64 size] w (Ret w (RowTake w (tB 7 3 l size))) := by
  go_enter Try.func54, Try.ntmps54
  go_wp2_with (first
    | (go_at_call 59; refine (takeBig_any _ l size 7 3 _ h hr hsl hsh (by omega) (by omega)).mono ?_; rintro e w1 ⟨v1, rfl, ⟨b1, rfl, ho1⟩, he1⟩))
  go_ret3
  exact Ret.mk ⟨_, rfl, ho1⟩ he1
theorem TakeBigS_any (v : Value) (l : List Int) (size : Int) (w : World) (h : Row w .u8 v l) (hr : l.length ≤ 140737488355328) (hsl : -9223372036854775808 ≤ size) (hsh : size ≤ 9223372036854775807) :
    Calls Try.prog 56 #[v, .int .i64 size] w (Ret w (RowTake w (tB 8 4 l size))) := by
  go_enter Try.func56, Try.ntmps56
  go_wp2_with (first
    | (go_at_call 59; refine (takeBig_any _ l size 8 4 _ h hr hsl hsh (by omega) (by omega)).mono ?_; rintro e w1 ⟨v1, rfl, ⟨b1, rfl, ho1⟩, he1⟩))
  go_ret3
  exact Ret.mk ⟨_, rfl, ho1⟩ he1

end Go.Proofs.Ythobicnhophdlaa
