/- OpsKnown: the chapter's numbers and examples, each instruction, both ends. Closed. -/
import Derived.Test.YtdjenhgngjmkjaaOOpen
import Derived.Test.YtdjenhgngjmkjaaOpsAw
import Derived.Test.YtdjenhgngjmkjaaOLTable
import Derived.Test.YtdjenhgngjmkjaaOLEncode
import Derived.Test.YtdjenhgngjmkjaaOLDecode
import Derived.Test.YtdjenhgngjmkjaaOLBack
import Derived.Test.YtdjenhgngjmkjaaOpsZ
import Derived.Deep.RegionLaw
import Derived.Deep.RegionHeld3
import Derived.Deep.CutRange
import Derived.Deep.CutBlock
import Derived.LoopN
import Derived.Laws.Concat
namespace Go.Proofs.Ytdjenhgngjmkjaa
open Go.ChangeShapes Go.WideShapes Go.ChangeAt Go.RowKit
open Go.ChangeMaps (open_string shut_string)
set_option linter.unusedVariables false
def bsz (l : ByteArray) : Nat := l.data.toList.length
theorem name_short (o : Int) : bsz (nameZ o) ≤ 1000 := by
  unfold nameZ
  split
  · rename_i h
    have : (List.range 90).all (fun k => decide (bsz (nmL.getD k ⟨#[]⟩) ≤ 1000)) = true := by decide +kernel
    have := List.all_eq_true.1 this o.toNat (by simp; omega)
    simpa using this
  · simp [bsz]
theorem bsz_size (l : ByteArray) : l.size = bsz l := rfl
theorem bsz_app (l m : ByteArray) : bsz (l ++ m) = bsz l + bsz m := by rw [← bsz_size, ← bsz_size, ← bsz_size, ByteArray.size_append]
/-- A run of the law OpsEncode; of OpsDecode. -/
def EncOk (W : World) (x : In) (v1 v2 : Value) : Prop := Calls Try.prog 4 #[.agg (x.vals v1 v2)] W fun e w' => e = .returned (.bool true) ∧ Ext W w'
theorem enc_ok {W : World} (x : In) (v1 v2 : Value) (h1 : Row W .i64 v1 x.to) (h2 : Row W .i64 v2 x.ks) (hb : B64 x.a ∧ B64 x.o ∧ B64 x.n ∧ B64 x.m) (l1 : x.to.length ≤ 100000) (l2 : x.ks.length ≤ 100000) :
    Calls Try.prog 4 #[.agg #[.int .i64 x.a, .int .i64 x.o, .int .i64 x.n, .int .i64 x.m, v1, v2]] W fun e w' => e = .returned (.bool true) ∧ Ext W w' :=
  opsEncode_walk W v1 v2 x h1 h2 hb ⟨by omega, by omega⟩
theorem enc0 {W : World} (a o n m : Int) (ha : B64 a) (ho : B64 o) (hn : B64 n) (hm : B64 m) :
    Calls Try.prog 4 #[.agg #[.int .i64 a, .int .i64 o, .int .i64 n, .int .i64 m, .slice none 0 0, .slice none 0 0]] W fun e w' => e = .returned (.bool true) ∧ Ext W w' :=
  enc_ok ⟨a, o, n, m, [], []⟩ _ _ (row_nil _ _) (row_nil _ _) ⟨ha, ho, hn, hm⟩ (by simp) (by simp)
theorem enc1 {W : World} (a o n m : Int) (v : Value) (l : List Int) (h : Row W .i64 v l) (hl : l.length ≤ 100000) (ha : B64 a) (ho : B64 o) (hn : B64 n) (hm : B64 m) :
    Calls Try.prog 4 #[.agg #[.int .i64 a, .int .i64 o, .int .i64 n, .int .i64 m, v, .slice none 0 0]] W fun e w' => e = .returned (.bool true) ∧ Ext W w' :=
  enc_ok ⟨a, o, n, m, l, []⟩ _ _ h (row_nil _ _) ⟨ha, ho, hn, hm⟩ hl (by simp)
theorem enc2 {W : World} (a o n m : Int) (v u : Value) (l k : List Int) (h : Row W .i64 v l) (hl : l.length ≤ 100000) (h2 : Row W .i64 u k) (hl2 : k.length ≤ 100000) (ha : B64 a) (ho : B64 o) (hn : B64 n) (hm : B64 m) :
    Calls Try.prog 4 #[.agg #[.int .i64 a, .int .i64 o, .int .i64 n, .int .i64 m, v, u]] W fun e w' => e = .returned (.bool true) ∧ Ext W w' :=
  enc_ok ⟨a, o, n, m, l, k⟩ _ _ h h2 ⟨ha, ho, hn, hm⟩ hl hl2
theorem back2 {W : World} (a o n m : Int) (v u : Value) (l k : List Int) (h : Row W .i64 v l) (hl : l.length ≤ 100000) (h2 : Row W .i64 u k) (hl2 : k.length ≤ 100000) (ha : B64 a) (ho : B64 o) (hn : B64 n) (hm : B64 m) :
    Calls Try.prog 6 #[.agg #[.int .i64 a, .int .i64 o, .int .i64 n, .int .i64 m, v, u], .slice none 0 0] W fun e w' => e = .returned (.bool true) ∧ Ext W w' :=
  opsBack_walk W v u ⟨a, o, n, m, l, k⟩ h h2 ⟨ha, ho, hn, hm⟩ ⟨by simp only; omega, by simp only; omega⟩ _ [] (row_nil _ _) (by simp)
theorem dec_ok {W : World} (v : Value) (l : List Int) (a : Int) (h : Row W .u8 v l) (hl : l.length ≤ 100000) (ha : B64 a) :
    Calls Try.prog 3 #[v, .int .i64 a] W fun e w' => e = .returned (.bool true) ∧ Ext W w' :=
  opsDecode_walk W v l h (by omega) a ha
/-- So many zeros, as cells of ints. -/
def ZCI (n : Nat) : Array Value := madeCells (Value.int .i64 0).cells (n * 1)
theorem run_zerosI (n : Nat) (h : n ≤ 1000000) (W : World) : (Instr.makeSlice 24 (.int .i64 n) (.int .i64 n)).run Try.prog W = .ok (.slice (some ⟨W.heap.size, 0, none⟩) n n) (W.alloc (.cells (ZCI n) 3)) := by
  obtain ⟨i, hi1, hi2, hi3, hi4⟩ := info_parts info64
  have hr := run_make (P := Try.prog) W 24 3 i (.int .i64 0) Try.underlying24 hi1 hi2 .i64 .i64 n n (by omega) (Int.le_refl _) (by rw [hi4]; omega) (by omega)
  rw [hi3, Int.toNat_natCast] at hr
  exact hr
theorem own_zerosI (B : Nat) (W : World) (n : Nat) (h : n ≤ 1000000) (hB : B ≤ W.heap.size) : Own B (W.alloc (.cells (ZCI n) 3)) 3 .i64 (.slice (some ⟨W.heap.size, 0, none⟩) n n) (List.replicate n 0) := by
  have e1 : (ZCI n).toList = (List.replicate n 0).map (Value.int .i64) := by
    rw [List.map_replicate]
    apply List.ext_getElem
    · simp [ZCI, madeCells]
    · intro j h1 h2
      simp [ZCI, madeCells, Value.cells, Nat.mod_one]
  have hs : (ZCI n).size = n := by simp [ZCI, size_madeCells]
  refine ⟨⟨by simp, .inr ⟨W.heap.size, n, ZCI n, by simp, hB, heap_alloc_new W _, by simp, by simp only [maxLen]; omega, by omega, ?_⟩⟩, fun x hx => ?_⟩
  · rw [List.length_replicate, Nat.mul_one, ← e1, List.take_of_length_le]
    simp [hs]
  · rw [List.eq_of_mem_replicate hx]
    decide
def ENDS : List Int := [-32769, -32768, -129, -128, -1, 0, 1, 127, 128, 255, 256, 32767, 32768, 65535, 65536]
theorem ends_b64 : ∀ j, j < 15 → -32769 ≤ gi ENDS j ∧ gi ENDS j ≤ 65536 := by decide
set_option maxRecDepth 100000 in
set_option maxHeartbeats 8000000 in
theorem opsKnown_walk (w : World) : Calls Try.prog 11 #[] w (fun e w' => e = .returned (.bool true) ∧ Ext w w') := by
  have HB := Lib.hid (show ∀ x : Int, -4294967296 ≤ x ∧ x ≤ 4294967296 → B64 x from fun x hx => ⟨by omega, by omega⟩)
  go_enter Try.func11, Try.ntmps11
  go_wp2_with fail
  go_loopw [1] (fun i wr => ∃ k : Nat, k ≤ 262 ∧ i = .int .i64 ((k : Int) - 2) ∧ Hid (Ext w wr)) (fun i _ => (260 - intOf i).toNat)
  case atStart => exact ⟨0, by omega, rfl, Lib.hid (Ext.refl w)⟩
  case round =>
    obtain ⟨k, hk, rfl, X0⟩ := hrel
    obtain ⟨op, hop⟩ : ∃ op : Int, (k : Int) - 2 = op := ⟨_, rfl⟩
    have HO := Lib.hid hop
    rw [hop]
    have ho1 : -2 ≤ op := by omega
    have ho2 : op ≤ 260 := by omega
    have HOB := Lib.hid (HB.out op (by omega))
    clear hop hk
    by_cases hlt : op < 260
    · obtain ⟨s, hs⟩ : ∃ s, s = nameZ op ++ ⟨#[120]⟩ := ⟨_, rfl⟩
      have hns := name_short op
      have hsz : bsz s ≤ 1001 := by rw [hs, bsz_app]; exact Nat.add_le_add hns (Nat.le_refl 1)
      have hadd : ∀ W, (Op.stringOp .add (nameZ op) ⟨#[120]⟩).run Try.prog W = .ok (.string s) W := fun W => by
        rw [run_string_add_sum _ _ _ (by rw [bsz_size, bsz_size]; have : bsz ⟨#[120]⟩ = 1 := rfl; omega), hs]
      have HT := Lib.hid (fun W => opsTable_walk W op HOB.out s (by unfold bsz at hsz; omega))
      clear hs hns hsz
      go_wp2_with fail
      refine (Name_any op _).mono ?_
      rintro e w1 ⟨rfl, x1⟩
      go_wp2_with fail
      refine (HT.out _).mono ?_
      rintro e w2 ⟨rfl, x2⟩
      have X2 := Lib.hid (X0.out.trans (x1.trans x2))
      clear x1 x2 hadd HT X0
      go_wp2_with fail
      obtain ⟨W3, hW3⟩ : ∃ W3, W3 = w2.alloc (.cells #[.int .i64 (-32769), .int .i64 (-32768), .int .i64 (-129), .int .i64 (-128), .int .i64 (-1), .int .i64 0, .int .i64 1, .int .i64 127, .int .i64 128, .int .i64 255, .int .i64 256, .int .i64 32767, .int .i64 32768, .int .i64 65535, .int .i64 65536] 3) := ⟨_, rfl⟩
      obtain ⟨g, hg⟩ : ∃ g, g = w2.heap.size := ⟨_, rfl⟩
      have hrow : Row W3 .i64 (.slice (some ⟨g, 0, none⟩) 15 15) ENDS := by rw [hW3, hg]; exact row_cells ENDS (heap_alloc_new _ _) rfl rfl (by decide) (by decide)
      have X3 := Lib.hid (show Ext w W3 by rw [hW3]; exact X2.out.alloc _)
      rw [← hW3, ← hg]
      have HEc := Lib.hid (show ∀ W, Ext W3 W → ∀ j, j < 15 → W.cell? ⟨g, j, none⟩ = some (.int .i64 (gi ENDS j)) by
        intro W e j hj
        obtain ⟨b, o, hbo, hat⟩ := hrow.all (by decide)
        injection hbo with hbo
        injection hbo with e1 e2
        subst e1 e2
        have := hat W e j hj
        rwa [Nat.zero_add] at this)
      clear hW3 hg hrow X2
      go_loopw [3] (fun i wr => ∃ j : Nat, j ≤ 15 ∧ i = .int .i64 j ∧ Hid (Ext W3 wr)) (fun i _ => 15 - (intOf i).toNat)
      case atStart => exact ⟨0, by omega, rfl, Lib.hid (Ext.refl W3)⟩
      case round =>
        obtain ⟨j, hj, rfl, X4⟩ := hrel
        by_cases hj2 : (j : Int) < 15
        · have HJ := Lib.hid (show j < 15 by omega)
          have hen := ends_b64 j HJ.out
          obtain ⟨d, hd⟩ : ∃ d, gi ENDS j = d := ⟨_, rfl⟩
          rw [hd] at hen
          have HC := Lib.hid (show ∀ W, Ext W3 W → W.cell? ⟨g, j, none⟩ = some (.int .i64 d) from fun W e => by rw [HEc.out W e j HJ.out, hd])
          have HDB := Lib.hid (HB.out d (by omega))
          have HWF := Lib.hid (wf_i64 (x := d) (by omega) (by omega))
          clear hen hd hj
          have c0 := HC.out _ X4.out
          go_wp2_with fail
          refine (enc0 0 op d 0 (HB.out _ (by decide)) HOB.out HDB.out (HB.out _ (by decide))).mono ?_
          rintro e' w4 ⟨rfl, x4⟩
          have X5 := Lib.hid (X4.out.trans x4)
          clear x4 c0 X4
          have c0 := HC.out _ X5.out
          go_wp2_with fail
          refine (enc0 0 op 1 d (HB.out _ (by decide)) HOB.out (HB.out _ (by decide)) HDB.out).mono ?_
          rintro e' w5 ⟨rfl, x5⟩
          have X6 := Lib.hid (X5.out.trans x5)
          clear x5 c0 X5
          have c0 := HC.out _ X6.out
          go_wp2_with fail
          refine (enc1 8 op 0 0 _ [d] (Row.built1 _ _ _ _ HWF.out) (by simp) (HB.out _ (by decide)) HOB.out (HB.out _ (by decide)) (HB.out _ (by decide))).mono ?_
          rintro e' w6 ⟨rfl, x6⟩
          have X7 := Lib.hid ((X6.out.alloc (.cells #[.int .i64 d] 3)).trans x6)
          clear x6 c0 X6
          have c0 := HC.out _ X7.out
          go_wp2_with fail
          refine (enc1 d op (-2147483648) 0 _ [1, 5] (row_cells _ (heap_alloc_new _ _) rfl rfl (by decide) (by decide)) (by simp) HDB.out HOB.out (HB.out _ (by decide)) (HB.out _ (by decide))).mono ?_
          rintro e' w7 ⟨rfl, x7⟩
          have X8 := Lib.hid ((X7.out.alloc (.cells #[.int .i64 1, .int .i64 5] 3)).trans x7)
          clear x7 c0 X7
          go_wp2_with fail
          go_roundw
          case rel => exact ⟨j + 1, by omega, by go_num, X8⟩
          case measure => simp [intOf]; omega
        · have X5 := Lib.hid (X3.out.trans X4.out)
          clear X4 X3 HEc
          go_wp2_with fail
          go_loopw [4] (fun i wr => ∃ n : Nat, n ≤ 14 ∧ i = .int .i64 n ∧ Hid (Ext w wr)) (fun i _ => 14 - (intOf i).toNat)
          case atStart => exact ⟨0, by omega, rfl, X5⟩
          case round =>
            clear X5
            obtain ⟨n, hn, rfl, X6⟩ := hrel
            by_cases hn2 : (n : Int) < 14
            · have hnn : n < 14 := by omega
              have hmk := run_zeros n (by omega) wr
              have HZ := Lib.hid (own_zeros wr.heap.size wr n (by omega) (Nat.le_refl _))
              go_wp2_with fail
              obtain ⟨W7, hW7⟩ : ∃ W7, W7 = wr.alloc (.cells (ZC n) 5) := ⟨_, rfl⟩
              obtain ⟨g7, hg7⟩ : ∃ g, g = wr.heap.size := ⟨_, rfl⟩
              have X7 := Lib.hid (show Ext w W7 by rw [hW7]; exact X6.out.alloc _)
              have HG := Lib.hid (show w.heap.size ≤ g7 by rw [hg7]; exact X6.out.size)
              have o7 := HZ.out
              rw [← hW7, ← hg7] at o7
              have O7 := Lib.hid o7
              rw [← hW7, ← hg7]
              clear hW7 hg7 HZ X6 hmk hn o7
              go_loopw [6] (fun i wr => ∃ (j : Nat) (l : List Int), 1 ≤ j ∧ j ≤ 14 ∧ i = .int .i64 j ∧ l.length = n ∧ Hid (Own g7 wr 5 .u8 (.slice (some ⟨g7, 0, none⟩) n n) l) ∧ Hid (Ext w wr)) (fun i _ => 14 - (intOf i).toNat)
              case atStart => exact ⟨1, _, by omega, by omega, rfl, by simp, O7, X7⟩
              case round =>
                clear O7 X7
                obtain ⟨j, l, hj1, hj14, rfl, hl, O8, X8⟩ := hrel
                have HLL := Lib.hid hl
                clear hl
                by_cases hjn : (j : Int) < n
                · have hjl : j < l.length := by have := HLL.out; omega
                  obtain ⟨g', c', hgv, -, -, -, -, hat, hfr⟩ := O8.out.parts (by omega)
                  injection hgv with e1 e2 e3
                  injection e1 with e1
                  injection e1 with e1
                  subst e1
                  clear e2 e3
                  have c0 := hat j hjl
                  have f0 := hfr j
                  have HJL := Lib.hid hjl
                  clear hat hfr hjl
                  go_wp2_with fail
                  go_roundw
                  case rel =>
                    have o9 := O8.out.put HJL.out (x := (j : Int) % 3) (wf_u8 (by omega) (by omega))
                    have hs := HLL.out
                    exact ⟨j + 1, _, by omega, by omega, by go_num, by rw [List.length_set]; exact hs, Lib.hid o9, Lib.hid (X8.out.set_ HG.out _)⟩
                  case measure => simp [intOf]; omega
                · clear hj1 hj14
                  have hw1 : IntKind.i64.wrap ((n : Int) - 1) = (n : Int) - 1 := by rw [IntKind.wrap_i64]; omega
                  have hcs : ¬ (0 : Int) < n ∨ ((0 : Int) < n ∧ ¬ (0 : Int) ≤ op) ∨ ((0 : Int) < n ∧ (0 : Int) ≤ op ∧ ¬ op < 256) ∨ ((0 : Int) < n ∧ (0 : Int) ≤ op ∧ op < 256) := by omega
                  have HL9 := Lib.hid (show l.length ≤ 100000 by have := HLL.out; omega)
                  rcases hcs with q0 | ⟨q0, q1⟩ | ⟨q0, q1, q2⟩ | ⟨q0, q1, q2⟩
                  · skip
                    have Y0 := Lib.hid (Ext.refl wr)
                    have Z0 := X8
                    clear X8
                    obtain ⟨l9, hl9⟩ : ∃ l9, l9 = l := ⟨_, rfl⟩
                    rw [← hl9] at O8 HL9
                    have O9 := O8
                    clear hl9 O8
                    go_wp2_with fail
                    refine (dec_ok _ l9 (0) (O9.out.row.ext Y0.out) HL9.out (HB.out _ (by omega))).mono ?_
                    rintro e' w_0 ⟨rfl, x⟩
                    have Y1 := Lib.hid (Y0.out.trans x)
                    have Z1 := Lib.hid (Z0.out.trans x)
                    clear x Y0 Z0
                    go_wp2_with fail
                    refine (dec_ok _ l9 ((n : Int) - 1) (O9.out.row.ext Y1.out) HL9.out (HB.out _ (by omega))).mono ?_
                    rintro e' w_1 ⟨rfl, x⟩
                    have Y2 := Lib.hid (Y1.out.trans x)
                    have Z2 := Lib.hid (Z1.out.trans x)
                    clear x Y1 Z1
                    go_wp2_with fail
                    refine (dec_ok _ l9 (-1) (O9.out.row.ext Y2.out) HL9.out (HB.out _ (by omega))).mono ?_
                    rintro e' w_2 ⟨rfl, x⟩
                    have Y3 := Lib.hid (Y2.out.trans x)
                    have Z3 := Lib.hid (Z2.out.trans x)
                    clear x Y2 Z2
                    clear O9 Y3
                    go_wp2_with fail
                    go_roundw
                    case rel => exact ⟨n + 1, by omega, by go_num, Z3⟩
                    case measure => simp [intOf]; omega
                  · skip
                    have Y0 := Lib.hid (Ext.refl wr)
                    have Z0 := X8
                    clear X8
                    obtain ⟨l9, hl9⟩ : ∃ l9, l9 = l := ⟨_, rfl⟩
                    rw [← hl9] at O8 HL9
                    have O9 := O8
                    clear hl9 O8
                    go_wp2_with fail
                    refine (dec_ok _ l9 (0) (O9.out.row.ext Y0.out) HL9.out (HB.out _ (by omega))).mono ?_
                    rintro e' w_0 ⟨rfl, x⟩
                    have Y1 := Lib.hid (Y0.out.trans x)
                    have Z1 := Lib.hid (Z0.out.trans x)
                    clear x Y0 Z0
                    go_wp2_with fail
                    refine (dec_ok _ l9 ((n : Int) - 1) (O9.out.row.ext Y1.out) HL9.out (HB.out _ (by omega))).mono ?_
                    rintro e' w_1 ⟨rfl, x⟩
                    have Y2 := Lib.hid (Y1.out.trans x)
                    have Z2 := Lib.hid (Z1.out.trans x)
                    clear x Y1 Z1
                    go_wp2_with fail
                    refine (dec_ok _ l9 (-1) (O9.out.row.ext Y2.out) HL9.out (HB.out _ (by omega))).mono ?_
                    rintro e' w_2 ⟨rfl, x⟩
                    have Y3 := Lib.hid (Y2.out.trans x)
                    have Z3 := Lib.hid (Z2.out.trans x)
                    clear x Y2 Z2
                    clear O9 Y3
                    go_wp2_with fail
                    go_roundw
                    case rel => exact ⟨n + 1, by omega, by go_num, Z3⟩
                    case measure => simp [intOf]; omega
                  · skip
                    have Y0 := Lib.hid (Ext.refl wr)
                    have Z0 := X8
                    clear X8
                    obtain ⟨l9, hl9⟩ : ∃ l9, l9 = l := ⟨_, rfl⟩
                    rw [← hl9] at O8 HL9
                    have O9 := O8
                    clear hl9 O8
                    go_wp2_with fail
                    refine (dec_ok _ l9 (0) (O9.out.row.ext Y0.out) HL9.out (HB.out _ (by omega))).mono ?_
                    rintro e' w_0 ⟨rfl, x⟩
                    have Y1 := Lib.hid (Y0.out.trans x)
                    have Z1 := Lib.hid (Z0.out.trans x)
                    clear x Y0 Z0
                    go_wp2_with fail
                    refine (dec_ok _ l9 ((n : Int) - 1) (O9.out.row.ext Y1.out) HL9.out (HB.out _ (by omega))).mono ?_
                    rintro e' w_1 ⟨rfl, x⟩
                    have Y2 := Lib.hid (Y1.out.trans x)
                    have Z2 := Lib.hid (Z1.out.trans x)
                    clear x Y1 Z1
                    go_wp2_with fail
                    refine (dec_ok _ l9 (-1) (O9.out.row.ext Y2.out) HL9.out (HB.out _ (by omega))).mono ?_
                    rintro e' w_2 ⟨rfl, x⟩
                    have Y3 := Lib.hid (Y2.out.trans x)
                    have Z3 := Lib.hid (Z2.out.trans x)
                    clear x Y2 Z2
                    clear O9 Y3
                    go_wp2_with fail
                    go_roundw
                    case rel => exact ⟨n + 1, by omega, by go_num, Z3⟩
                    case measure => simp [intOf]; omega
                  · skip
                    obtain ⟨g', c', hgv, -, -, -, -, hat, hfr⟩ := O8.out.parts (by have := HLL.out; omega)
                    injection hgv with e1 e2 e3
                    injection e1 with e1
                    injection e1 with e1
                    subst e1
                    clear e2 e3
                    have c0 := hat 0 (by have := HLL.out; omega)
                    have f0 := hfr 0
                    have o9 := O8.out.put (j := 0) (x := op) (by have := HLL.out; omega) (wf_u8 (by omega) (by omega))
                    obtain ⟨l9, hl9⟩ : ∃ l9, l9 = l.set 0 op := ⟨_, rfl⟩
                    have HL9' := Lib.hid (show l9.length ≤ 100000 by rw [hl9, List.length_set]; exact HL9.out)
                    rw [← hl9] at o9
                    have O9 := Lib.hid o9
                    have Y0 := Lib.hid (Ext.refl (wr.setCell ⟨g7, 0, none⟩ (.int .u8 op)))
                    have Z0 := Lib.hid (X8.out.set_ HG.out (p := ⟨g7, 0, none⟩) (.int .u8 op))
                    have hwu : IntKind.u8.wrap op = op := by rw [IntKind.wrap_u8]; omega
                    clear X8 hat hfr o9 hl9 O8 HL9
                    have HL9 := HL9'
                    clear HL9'
                    go_wp2_with fail
                    refine (dec_ok _ l9 (0) (O9.out.row.ext Y0.out) HL9.out (HB.out _ (by omega))).mono ?_
                    rintro e' w_0 ⟨rfl, x⟩
                    have Y1 := Lib.hid (Y0.out.trans x)
                    have Z1 := Lib.hid (Z0.out.trans x)
                    clear x Y0 Z0
                    go_wp2_with fail
                    refine (dec_ok _ l9 ((n : Int) - 1) (O9.out.row.ext Y1.out) HL9.out (HB.out _ (by omega))).mono ?_
                    rintro e' w_1 ⟨rfl, x⟩
                    have Y2 := Lib.hid (Y1.out.trans x)
                    have Z2 := Lib.hid (Z1.out.trans x)
                    clear x Y1 Z1
                    go_wp2_with fail
                    refine (dec_ok _ l9 (-1) (O9.out.row.ext Y2.out) HL9.out (HB.out _ (by omega))).mono ?_
                    rintro e' w_2 ⟨rfl, x⟩
                    have Y3 := Lib.hid (Y2.out.trans x)
                    have Z3 := Lib.hid (Z2.out.trans x)
                    clear x Y2 Z2
                    clear O9 Y3
                    go_wp2_with fail
                    go_roundw
                    case rel => exact ⟨n + 1, by omega, by go_num, Z3⟩
                    case measure => simp [intOf]; omega
            · have X9 := X6
              clear X6 hn
              go_wp2_with fail
              go_roundw
              case rel => exact ⟨k + 1, by have := HO.out; omega, by have := HO.out; exact congrArg (Value.int .i64) (by omega), X9⟩
              case measure => simp [intOf]; omega
    · clear HO HOB ho1 ho2
      have hk1 : ∀ W, (Instr.makeSlice 24 (.int .i64 1002) (.int .i64 1002)).run Try.prog W = .ok (.slice (some ⟨W.heap.size, 0, none⟩) 1002 1002) (W.alloc (.cells (ZCI 1002) 3)) := fun W => run_zerosI 1002 (by decide) W
      have hk2 : ∀ W, (Instr.makeSlice 24 (.int .i64 1001) (.int .i64 1001)).run Try.prog W = .ok (.slice (some ⟨W.heap.size, 0, none⟩) 1001 1001) (W.alloc (.cells (ZCI 1001) 3)) := fun W => run_zerosI 1001 (by decide) W
      have o1 := own_zerosI wr.heap.size wr 1002 (by decide) (Nat.le_refl _)
      have o2 := own_zerosI wr.heap.size (wr.alloc (.cells (ZCI 1002) 3)) 1001 (by decide) (by simp)
      rw [show (wr.alloc (.cells (ZCI 1002) 3)).heap.size = wr.heap.size + 1 by simp] at o2
      obtain ⟨Z1, hZ1⟩ : ∃ Z, Z = ZCI 1002 := ⟨_, rfl⟩
      obtain ⟨Z2, hZ2⟩ : ∃ Z, Z = ZCI 1001 := ⟨_, rfl⟩
      obtain ⟨ll, hll⟩ : ∃ l, l = List.replicate 1002 (0 : Int) := ⟨_, rfl⟩
      obtain ⟨lk, hlk⟩ : ∃ l, l = List.replicate 1001 (0 : Int) := ⟨_, rfl⟩
      rw [← hZ1, ← hll] at o1
      rw [← hZ1, ← hZ2, ← hlk] at o2
      rw [← hZ1] at hk1
      rw [← hZ2] at hk2
      have HL := Lib.hid (show ll.length = 1002 by rw [hll, List.length_replicate])
      have HK := Lib.hid (show lk.length = 1001 by rw [hlk, List.length_replicate])
      have O1 := Lib.hid (o1.ext ((Ext.refl _).alloc (.cells Z2 3)))
      have O2 := Lib.hid o2
      clear hZ1 hZ2 hll hlk o1 o2
      go_wp2_with fail
      obtain ⟨W2, hW2⟩ : ∃ W2, W2 = (wr.alloc (.cells Z1 3)).alloc (.cells Z2 3) := ⟨_, rfl⟩
      obtain ⟨gl, hgl⟩ : ∃ g, g = wr.heap.size := ⟨_, rfl⟩
      have X2 := Lib.hid (show Ext w W2 by rw [hW2]; exact (X0.out.alloc _).alloc _)
      have HG := Lib.hid (show w.heap.size ≤ gl by rw [hgl]; exact X0.out.size)
      have o1 := O1.out
      have o2 := O2.out
      rw [← hW2, ← hgl] at o1 o2
      have O3 := Lib.hid o1
      have O4 := Lib.hid o2
      rw [← hW2, ← hgl]
      clear o1 o2 hW2 hgl O1 O2 X0 hk1 hk2 hlt
      go_loopw [9] (fun i wr => ∃ (j : Nat) (l : List Int), j ≤ 1001 ∧ i = .int .i64 j ∧ l.length = 1001 ∧ Hid (Own gl wr 3 .i64 (.slice (some ⟨gl + 1, 0, none⟩) 1001 1001) l) ∧ Hid (Own gl wr 3 .i64 (.slice (some ⟨gl, 0, none⟩) 1002 1002) ll) ∧ Hid (Ext w wr)) (fun i _ => 1001 - (intOf i).toNat)
      case atStart => exact ⟨0, lk, by omega, rfl, HK.out, O4, O3, X2⟩
      case round =>
        clear O3 O4 X2 HK
        obtain ⟨j, l, hj, rfl, hl, O4, O3, X2⟩ := hrel
        have HK := Lib.hid hl
        clear hl
        by_cases hjn : (j : Int) < 1001
        · have hjl : j < l.length := by have := HK.out; omega
          obtain ⟨g', c', hgv, -, -, -, -, hat, hfr⟩ := O4.out.parts (by omega)
          injection hgv with e1 e2 e3
          injection e1 with e1
          injection e1 with e1
          subst e1
          clear e2 e3
          have c0 := hat j hjl
          have f0 := hfr j
          have HJL := Lib.hid hjl
          have hw3 : IntKind.i64.wrap (3 * (j : Int)) = 3 * (j : Int) := by rw [IntKind.wrap_i64]; omega
          clear hat hfr hjl
          go_wp2_with fail
          go_roundw
          case rel =>
            have o4 := O4.out.put HJL.out (x := 3 * (j : Int)) (wf_i64 (by omega) (by omega))
            have o3 := O3.out.kept (only_set (World.grownBy.refl wr (some (gl + 1))) j (.int .i64 (3 * (j : Int)))) (fun g hg e => by simp [Value.ownBlock] at hg; injection e with e; omega)
            exact ⟨j + 1, _, by omega, by go_num, by rw [List.length_set]; exact HK.out, Lib.hid o4, Lib.hid o3, Lib.hid (X2.out.set_ (show w.heap.size ≤ gl + 1 by have := HG.out; omega) _)⟩
          case measure => simp [intOf]; omega
        · clear hj
          have R1 := Lib.hid (O3.out.row.head 1001 (by have := HL.out; omega))
          have R2 := Lib.hid O3.out.row
          have R3 := Lib.hid (O4.out.row.head 1000 (by have := HK.out; omega))
          have R4 := Lib.hid O4.out.row
          have L1 := Lib.hid (show (ll.take 1001).length ≤ 100000 by simp; omega)
          have L2 := Lib.hid (show ll.length ≤ 100000 by have := HL.out; omega)
          have L3 := Lib.hid (show (l.take 1000).length ≤ 100000 by simp; omega)
          have L4 := Lib.hid (show l.length ≤ 100000 by have := HK.out; omega)
          have Y0 := Lib.hid (Ext.refl wr)
          clear O3 O4 HL HK HG
          have hk3 : ∀ W, (Instr.makeSlice 22 (.int .i64 8200) (.int .i64 8200)).run Try.prog W = .ok (.slice (some ⟨W.heap.size, 0, none⟩) 8200 8200) (W.alloc (.cells (ZC 8200) 5)) := fun W => run_zeros 8200 (by decide) W
          have HZ8 := Lib.hid (fun W => (own_zeros 0 W 8200 (by decide) (Nat.zero_le _)).row)
          obtain ⟨Z8, hZ8⟩ : ∃ Z, Z = ZC 8200 := ⟨_, rfl⟩
          obtain ⟨l8, hl8⟩ : ∃ l, l = List.replicate 8200 (0 : Int) := ⟨_, rfl⟩
          rw [← hZ8] at hk3 HZ8
          rw [← hl8] at HZ8
          have HL8 := Lib.hid (show l8.length ≤ 100000 by rw [hl8, List.length_replicate]; decide)
          clear hZ8 hl8
          have C1 := Lib.hid (fun W (e : Hid (Ext wr W)) => (enc1 0 59 0 0 _ _ (R1.out.ext e.out) L1.out (HB.out _ (by decide)) (HB.out _ (by decide)) (HB.out _ (by decide)) (HB.out _ (by decide))).mono (R' := fun z w' => z = .returned (.bool true) ∧ Hid (Ext wr w')) (fun _ _ h => ⟨h.1, Lib.hid (e.out.trans h.2)⟩))
          have C2 := Lib.hid (fun W (e : Hid (Ext wr W)) => (enc1 0 59 0 0 _ _ (R2.out.ext e.out) L2.out (HB.out _ (by decide)) (HB.out _ (by decide)) (HB.out _ (by decide)) (HB.out _ (by decide))).mono (R' := fun z w' => z = .returned (.bool true) ∧ Hid (Ext wr w')) (fun _ _ h => ⟨h.1, Lib.hid (e.out.trans h.2)⟩))
          have C3 := Lib.hid (fun W (e : Hid (Ext wr W)) => (enc2 0 60 0 0 _ _ _ _ (R1.out.ext e.out) L1.out (R3.out.ext e.out) L3.out (HB.out _ (by decide)) (HB.out _ (by decide)) (HB.out _ (by decide)) (HB.out _ (by decide))).mono (R' := fun z w' => z = .returned (.bool true) ∧ Hid (Ext wr w')) (fun _ _ h => ⟨h.1, Lib.hid (e.out.trans h.2)⟩))
          have C4 := Lib.hid (fun W (e : Hid (Ext wr W)) => (enc2 0 60 0 0 _ _ _ _ (R2.out.ext e.out) L2.out (R4.out.ext e.out) L4.out (HB.out _ (by decide)) (HB.out _ (by decide)) (HB.out _ (by decide)) (HB.out _ (by decide))).mono (R' := fun z w' => z = .returned (.bool true) ∧ Hid (Ext wr w')) (fun _ _ h => ⟨h.1, Lib.hid (e.out.trans h.2)⟩))
          have C5 := Lib.hid (fun W (e : Hid (Ext wr W)) => (back2 0 60 0 0 _ _ _ _ (R1.out.ext e.out) L1.out (R3.out.ext e.out) L3.out (HB.out _ (by decide)) (HB.out _ (by decide)) (HB.out _ (by decide)) (HB.out _ (by decide))).mono (R' := fun z w' => z = .returned (.bool true) ∧ Hid (Ext wr w')) (fun _ _ h => ⟨h.1, Lib.hid (e.out.trans h.2)⟩))
          have HD0 := Lib.hid (Ext.refl wr).drew
          go_wp2_with fail
          go_region_held3 (fun w' => Hid (Ext wr w')) (with_reducible assumption) (first
            | ((with_reducible refine (C1.out _ (by assumption)).mono ?_); rintro e' w_1 ⟨rfl, x_1⟩)
            | ((with_reducible refine (C2.out _ (by assumption)).mono ?_); rintro e' w_2 ⟨rfl, x_2⟩)
            | ((with_reducible refine (C3.out _ (by assumption)).mono ?_); rintro e' w_3 ⟨rfl, x_3⟩)
            | ((with_reducible refine (C4.out _ (by assumption)).mono ?_); rintro e' w_4 ⟨rfl, x_4⟩)
            | ((with_reducible refine (C5.out _ (by assumption)).mono ?_); rintro e' w_5 ⟨rfl, x_5⟩))
          have Y5 := x_5
          clear C1 C2 C3 C4 C5 HD0 x_1 x_2 x_3 x_4 x_5 Y0
          clear R1 R2 R3 R4 L1 L2 L3 L4
          go_wp2_with fail
          refine (enc1 0 59 2147483646 0 _ [0, 1, 2] (row_cells _ (heap_alloc_new _ _) rfl rfl (by decide) (by decide)) (by decide) (HB.out _ (by decide)) (HB.out _ (by decide)) (HB.out _ (by decide)) (HB.out _ (by decide))).mono ?_
          rintro e' w_6 ⟨rfl, x⟩
          have Y6 := Lib.hid ((Y5.out.alloc (.cells #[.int .i64 0, .int .i64 1, .int .i64 2] 3)).trans x)
          clear x Y5
          go_wp2_with fail
          refine (enc1 0 59 2147483647 0 _ [0, 1, 2] (row_cells _ (heap_alloc_new _ _) rfl rfl (by decide) (by decide)) (by decide) (HB.out _ (by decide)) (HB.out _ (by decide)) (HB.out _ (by decide)) (HB.out _ (by decide))).mono ?_
          rintro e' w_7 ⟨rfl, x⟩
          have Y7 := Lib.hid ((Y6.out.alloc (.cells #[.int .i64 0, .int .i64 1, .int .i64 2] 3)).trans x)
          clear x Y6
          go_wp2_with fail
          refine (enc2 0 60 0 0 _ _ [0, 1, 2] [1, 1] (row_cells _ ((heap_alloc_old _ _ (by simp)).trans (heap_alloc_new _ _)) rfl rfl (by decide) (by decide)) (by decide) (row_cells _ (two_at _ _ _) rfl rfl (by decide) (by decide)) (by decide) (HB.out _ (by decide)) (HB.out _ (by decide)) (HB.out _ (by decide)) (HB.out _ (by decide))).mono ?_
          rintro e' w_8 ⟨rfl, x⟩
          have Y8 := Lib.hid (((Y7.out.alloc (.cells #[.int .i64 0, .int .i64 1, .int .i64 2] 3)).alloc (.cells #[.int .i64 1, .int .i64 1] 3)).trans x)
          clear x Y7
          go_wp2_with fail
          refine (enc2 0 60 0 0 _ _ [0, 1, 2] [-2147483648, 2147483647] (row_cells _ ((heap_alloc_old _ _ (by simp)).trans (heap_alloc_new _ _)) rfl rfl (by decide) (by decide)) (by decide) (row_cells _ (two_at _ _ _) rfl rfl (by decide) (by decide)) (by decide) (HB.out _ (by decide)) (HB.out _ (by decide)) (HB.out _ (by decide)) (HB.out _ (by decide))).mono ?_
          rintro e' w_9 ⟨rfl, x⟩
          have Y9 := Lib.hid (((Y8.out.alloc (.cells #[.int .i64 0, .int .i64 1, .int .i64 2] 3)).alloc (.cells #[.int .i64 (-2147483648), .int .i64 2147483647] 3)).trans x)
          clear x Y8
          go_wp2_with fail
          refine (enc2 0 60 0 0 _ _ [0, 1] [2147483648] (row_cells _ ((heap_alloc_old _ _ (by simp)).trans (heap_alloc_new _ _)) rfl rfl (by decide) (by decide)) (by decide) (row_cells _ (two_at _ _ _) rfl rfl (by decide) (by decide)) (by decide) (HB.out _ (by decide)) (HB.out _ (by decide)) (HB.out _ (by decide)) (HB.out _ (by decide))).mono ?_
          rintro e' w_10 ⟨rfl, x⟩
          have Y10 := Lib.hid (((Y9.out.alloc (.cells #[.int .i64 0, .int .i64 1] 3)).alloc (.cells #[.int .i64 2147483648] 3)).trans x)
          clear x Y9
          go_wp2_with fail
          refine (enc0 0 60 0 0 (HB.out _ (by decide)) (HB.out _ (by decide)) (HB.out _ (by decide)) (HB.out _ (by decide))).mono ?_
          rintro e' w_11 ⟨rfl, x⟩
          have Y11 := Lib.hid (Y10.out.trans x)
          clear x Y10
          go_wp2_with fail
          refine (enc1 0 60 0 0 _ [3] (row_cells _ (heap_alloc_new _ _) rfl rfl (by decide) (by decide)) (by decide) (HB.out _ (by decide)) (HB.out _ (by decide)) (HB.out _ (by decide)) (HB.out _ (by decide))).mono ?_
          rintro e' w_12 ⟨rfl, x⟩
          have Y12 := Lib.hid ((Y11.out.alloc (.cells #[.int .i64 3] 3)).trans x)
          clear x Y11
          go_wp2_with fail
          have R8 := Lib.hid (HZ8.out w_12)
          clear hk3 HZ8
          refine (awake_any _).mono ?_
          rintro e' w_13 ⟨rfl, x⟩
          have Y13 := Lib.hid ((Y12.out.alloc (.cells Z8 5)).trans x)
          have V13 := Lib.hid x
          clear x Y12
          go_wp2_with fail
          refine (dec_ok _ _ 8191 (R8.out.ext V13.out) HL8.out (HB.out _ (by decide))).mono ?_
          rintro e' w_14 ⟨rfl, x⟩
          have Y14 := Lib.hid (Y13.out.trans x)
          have V14 := Lib.hid (V13.out.trans x)
          clear x V13 Y13
          go_wp2_with fail
          refine (dec_ok _ _ 8192 (R8.out.ext V14.out) HL8.out (HB.out _ (by decide))).mono ?_
          rintro e' w_15 ⟨rfl, x⟩
          have Y15 := Lib.hid (Y14.out.trans x)
          have V15 := Lib.hid (V14.out.trans x)
          clear x V14 Y14
          go_wp2_with fail
          refine (enc0 8191 0 0 0 (HB.out _ (by decide)) (HB.out _ (by decide)) (HB.out _ (by decide)) (HB.out _ (by decide))).mono ?_
          rintro e' w_16 ⟨rfl, x⟩
          have Y16 := Lib.hid (Y15.out.trans x)
          have V16 := Lib.hid (V15.out.trans x)
          clear x V15 Y15
          go_wp2_with fail
          refine (enc0 8192 0 0 0 (HB.out _ (by decide)) (HB.out _ (by decide)) (HB.out _ (by decide)) (HB.out _ (by decide))).mono ?_
          rintro e' w_17 ⟨rfl, x⟩
          have Y17 := Lib.hid (Y16.out.trans x)
          have V17 := Lib.hid (V16.out.trans x)
          clear x V16 Y16
          go_wp2
          go_ret
          exact ⟨rfl, X2.out.trans Y17.out⟩
set_option maxRecDepth 100000 in
theorem opsKnown_lifted (os : Os) (started : os.Started) (H : Type) (enc : TypeId × Value → H) :
    ReturnsInHanded {} Try.checked os 11 .any (Rows.opsKnownSpec.pre6 enc Try.prog Try.f11 Rows.opsKnownRow.domain false) (Rows.opsKnownSpec.post enc Try.prog Try.f11 false true false false) := by
  refine returnsInHanded_of_change_sized (C := Try.checked) own started (by kernel_rfl) Try.func11
    (ChangeSpec.witness6 (enc := enc) (C := Try.checked) false ⟨#[], #[], []⟩ 8 (by kernel_rfl) (by kernel_rfl) (by kernel_rfl) (by kernel_rfl)) ?_
  intro W base args ds gs before hval0 hW hcnd hsz0 _
  have hval : ∀ (j : Nat) t v, Try.f11.params[j]? = some t → args[j]? = some v → Value.okWide Try.prog W .any base t v := hval0
  have hsz : (DataW.weightsEach Try.prog (Try.f11.params.toList ++ Rows.opsKnownSpec.plain.varTypes Try.prog) (ds ++ gs)).all (· ≤ reachBytes) = true := hsz0
  have hW' := hW
  obtain ⟨p, q, hA0, hV, rfl, hfz, hnd⟩ := hW
  have hA : DataW.TrodAll enc Try.prog W 0 (fun _ => true) true Try.f11.params.toList args.toList ds p := hA0
  rw [Try.params11] at hA hval hsz
  obtain ⟨rfl, rfl, rfl⟩ := trodAll_none hA
  obtain ⟨rfl, rfl⟩ := trodVars_none hV
  clear hA0 hval0 hsz0
  refine (opsKnown_walk W ).mono fun e W' ⟨he, bel⟩ => ?_
  subst he
  exact ⟨_, rfl, _, _, _, [], _, [], hW', trodAll_mk1 (shut_bool Try.underlying4 _), trodAll_mk0, rfl, bel.frame _, fun h => by cases h⟩

theorem opsKnown_over : Rows.opsKnownRow.holds Try.pinned (OpenSpec.ofChange Rows.opsKnownSpec) :=
  OpenClaim.holds_of_wide 11 Try.f11 rfl rfl rfl rfl rfl rfl rfl ⟨rfl, rfl, rfl, rfl, rfl⟩ rfl rfl rfl rfl rfl (by kernel_rfl) Try.func11 (by kernel_rfl)
    (of_decide_eq_true (by kernel_rfl)) (by unfold Func.isWrapper; first | (rw [if_pos (by decide +kernel)]; kernel_rfl) | (rw [if_neg (by decide +kernel)]; exact ⟨rfl, rfl⟩))
    (fun os started H enc _ => opsKnown_lifted os started H enc)

/-- The statement. -/
theorem opsKnown_proved : Rows.OpsKnownSaid := opsKnown_over
#print axioms opsKnown_proved
end Go.Proofs.Ytdjenhgngjmkjaa
