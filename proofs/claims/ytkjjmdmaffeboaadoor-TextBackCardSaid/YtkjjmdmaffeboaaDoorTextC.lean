/- The document's answer for texts, the leaves: a character's bytes. -/
import Derived.Test.YtkjjmdmaffeboaaDoorEq
import Derived.Test.YtkjjmdmaffeboaaDoorTextSpec
import Derived.Test.YtkjjmdmaffeboaaDoorTextBits
namespace Go.Proofs.YtkjjmdmaffeboaaDoor
open Go.RowKit
set_option linter.unusedVariables false

theorem Own.built (w : World) (l : List Int) (hf : Fit .u8 l) (hl : l.length ≤ 65536) :
    Own w.heap.size (w.alloc (.cells (l.map (Value.int .u8)).toArray 5)) 5 .u8 (.slice (some ⟨w.heap.size, 0, none⟩) l.length l.length) l :=
  ⟨⟨by simp, .inr ⟨w.heap.size, l.length, (l.map (Value.int .u8)).toArray, rfl, Nat.le_refl _, heap_alloc_new w _, Nat.le_refl _, by simp only [maxLen]; omega, by simp, by
    rw [Nat.mul_one]
    exact List.take_of_length_le (by simp)⟩⟩, hf⟩
theorem th_wf {c : Int} (h0 : 0 ≤ c) (h1 : c ≤ 65535) : Fit .u8 (th c) := by
  intro x hx
  simp only [th, List.mem_cons, List.not_mem_nil, or_false] at hx
  exact wf_u8 (by omega) (by omega)

theorem three_any (c : Int) (w : World) (h0 : 0 ≤ c) (h1 : c ≤ 65535) :
    Calls Tryd.prog 35 #[.int .i64 c] w (Ret w (fun v' w' => Own w.heap.size w' 5 .u8 v' (th c))) := by
  have b1 := b64_or224 (c / 4096) (by omega) (by omega)
  have b2 := b64_and63 (c / 64) (by omega) (by omega)
  have b3 := b64_or128 (c / 64 % 64) (by omega) (by omega)
  have b4 := b64_and63 c (by omega) (by omega)
  have b5 := b64_or128 (c % 64) (by omega) (by omega)
  have b6 : (224 + c / 4096) % 256 = 224 + c / 4096 := by omega
  have b7 : (128 + c / 64 % 64) % 256 = 128 + c / 64 % 64 := by omega
  have b8 : (128 + c % 64) % 256 = 128 + c % 64 := by omega
  go_enter Tryd.func35, Tryd.ntmps35
  go_wp2
  go_ret
  exact Ret.mk (Own.built w (th c) (th_wf h0 h1) (by simp [th])) ((Ext.refl _).alloc _)

theorem char_1 (c : Int) (w : World) (h0 : 1 ≤ c) (h1 : c ≤ 127) :
    Calls Tryd.prog 25 #[.int .i64 c] w (Ret w (fun v' w' => Own w.heap.size w' 5 .u8 v' [c])) := by
  have b6 : c % 256 = c := by omega
  go_enter Tryd.func25, Tryd.ntmps25
  go_wp2
  go_ret
  exact Ret.mk (Own.built w [c] (by intro x hx; simp only [List.mem_cons, List.not_mem_nil, or_false] at hx; exact wf_u8 (by omega) (by omega)) (by simp)) ((Ext.refl _).alloc _)
theorem char_2 (c : Int) (w : World) (h0 : 128 ≤ c) (h1 : c ≤ 2047) :
    Calls Tryd.prog 25 #[.int .i64 c] w (Ret w (fun v' w' => Own w.heap.size w' 5 .u8 v' [192 + c / 64, 128 + c % 64])) := by
  have b1 := b64_or192 (c / 64) (by omega) (by omega)
  have b4 := b64_and63 c (by omega) (by omega)
  have b5 := b64_or128 (c % 64) (by omega) (by omega)
  have b6 : (192 + c / 64) % 256 = 192 + c / 64 := by omega
  have b8 : (128 + c % 64) % 256 = 128 + c % 64 := by omega
  go_enter Tryd.func25, Tryd.ntmps25
  go_wp2
  go_ret
  exact Ret.mk (Own.built w [192 + c / 64, 128 + c % 64] (by intro x hx; simp only [List.mem_cons, List.not_mem_nil, or_false] at hx; exact wf_u8 (by omega) (by omega)) (by simp)) ((Ext.refl _).alloc _)
theorem char_0 (w : World) :
    Calls Tryd.prog 25 #[.int .i64 0] w (Ret w (fun v' w' => Own w.heap.size w' 5 .u8 v' [192, 128])) := by
  have b1 := b64_or192 0 (by omega) (by omega)
  have b5 := b64_or128 0 (by omega) (by omega)
  have b4 := b64_and63 0 (by omega) (by omega)
  go_enter Tryd.func25, Tryd.ntmps25
  go_wp2
  go_ret
  exact Ret.mk (Own.built w [192, 128] (by intro x hx; simp only [List.mem_cons, List.not_mem_nil, or_false] at hx; exact wf_u8 (by omega) (by omega)) (by simp)) ((Ext.refl _).alloc _)
theorem char_3 (c : Int) (w : World) (h0 : 2048 ≤ c) (h1 : c ≤ 65535) :
    Calls Tryd.prog 25 #[.int .i64 c] w (Ret w (fun v' w' => Own w.heap.size w' 5 .u8 v' (th c))) := by
  go_enter Tryd.func25, Tryd.ntmps25
  go_wp2_with (go_at_call 35; refine (three_any c _ (by omega) (by omega)).mono ?_; rintro e w1 ⟨v1, rfl, ho1, he1⟩)
  go_ret
  exact Ret.mk ho1 he1
set_option maxHeartbeats 400000 in
theorem char_6 (c : Int) (w : World) (h0 : 65536 ≤ c) (h1 : c ≤ 1114111) :
    Calls Tryd.prog 25 #[.int .i64 c] w (Ret w (fun v' w' => Own w.heap.size w' 5 .u8 v' (th (55296 + (c - 65536) / 1024) ++ th (56320 + (c - 65536) % 1024)))) := by
  have b1 := b64_or55296 ((c - 65536) / 1024) (by omega) (by omega)
  have b2 := b64_and1023 (c - 65536) (by omega) (by omega)
  have b3 := b64_or56320 ((c - 65536) % 1024) (by omega) (by omega)
  go_enter Tryd.func25, Tryd.ntmps25
  go_wp2_with fail
  refine (three_any (55296 + (c - 65536) / 1024) _ (by omega) (by omega)).mono ?_
  rintro e w1 ⟨v1, rfl, ho1, he1⟩
  go_wp2_with fail
  refine (three_any (56320 + (c - 65536) % 1024) _ (by omega) (by omega)).mono ?_
  rintro e w2 ⟨v2, rfl, ho2, he2⟩
  go_wp2_with (at_builtin; go_loud (refine wpList_app _ rfl _ _ w.heap.size 22 5 _ 1 .u8 rfl Tryd.underlying22 info8 rfl (by omega) v1 (th (55296 + (c - 65536) / 1024)) rfl (ho1.ext he2) v2 (th (56320 + (c - 65536) % 1024)) rfl ho2.row (by simp [th]) (by have := he1.size; have := he2.size; omega) ?_))
  intro v3 w3 ho3 hg3 _
  go_wp2
  go_ret
  exact Ret.mk ho3 ((he1.trans he2).grown hg3 ho1.low)
theorem char_any (c : Int) (w : World) (h0 : 0 ≤ c) (h1 : c ≤ 1114111) :
    Calls Tryd.prog 25 #[.int .i64 c] w (Ret w (fun v' w' => Own w.heap.size w' 5 .u8 v' (ch c))) := by
  by_cases a1 : 1 ≤ c ∧ c ≤ 127
  · rw [ch1 a1]; exact char_1 c w a1.1 a1.2
  · by_cases a2 : c ≤ 2047
    · rw [ch2 a1 a2]
      by_cases a0 : c = 0
      · subst a0; exact char_0 w
      · exact char_2 c w (by omega) a2
    · by_cases a3 : c ≤ 65535
      · rw [ch3 (by omega) a3]; exact char_3 c w (by omega) a3
      · rw [ch6 (by omega)]; exact char_6 c w (by omega) h1
end Go.Proofs.YtkjjmdmaffeboaaDoor
