/- CodeKnown: the chapter's numbers and examples, both ends. Closed. -/
import Derived.Test.YtcgajgileehbbaaZk
import Derived.Test.YtcgajgileehbbaaOpsEn
import Derived.Deep.RegionLaw
import Derived.Deep.RegionHeld3
import Derived.Deep.CutRange
import Derived.Deep.CutBlock
import Derived.LoopN
namespace Go.Proofs.Ytcgajgileehbbaa
open Go.ChangeShapes Go.WideShapes Go.ChangeAt Go.RowKit
open Go.ChangeMaps (open_string shut_string)
set_option linter.unusedVariables false
def BODYK : List Int := [0, 58, 255, 255, 5, 0, 83]
def ENDK : List Int := [-1, 0, 1, 2, 4, 6, 7, 8]
theorem endk_b : ∀ j, j < 8 → -1 ≤ gi ENDK j ∧ gi ENDK j ≤ 8 := by decide
theorem zc_get (j : Nat) (h : j < 8193) : (ZC 8193)[j]? = some (.int .u8 0) := by
  rw [Array.getElem?_eq_getElem (by simp [ZC, size_madeCells]; omega)]
  simp [ZC, madeCells, Value.cells, Nat.mod_one]
theorem zc_list (n : Nat) : (ZC n).toList = (List.replicate n (0 : Int)).map (Value.int .u8) := by
  rw [List.map_replicate]
  apply List.ext_getElem
  · simp [ZC, madeCells]
  · intro j h1 h2
    simp [ZC, madeCells, Value.cells, Nat.mod_one]
theorem long_row (n : Nat) (hn : n = 8193) (W : World) (Z : Array Value) (hZ : Z = ZC n) : ∃ l : List Int, l.length = 8193 ∧ Row (W.alloc (.cells ((Z.setIfInBounds 8191 (.int .u8 86)).setIfInBounds 8192 (.int .u8 86)) 5)) .u8 (.slice (some ⟨W.heap.size, 0, none⟩) 8193 8193) l := by
  have e1 := zc_list n
  have e2 : Z = ((List.replicate n (0 : Int)).map (Value.int .u8)).toArray := by rw [hZ, ← e1]
  obtain ⟨l8, hl8⟩ : ∃ l, l = List.replicate n (0 : Int) := ⟨_, rfl⟩
  rw [← hl8] at e2
  have hlen : ((l8.set 8191 86).set 8192 86).length = n := by rw [List.length_set, List.length_set, hl8, List.length_replicate]
  refine ⟨(l8.set 8191 86).set 8192 86, by rw [hlen]; exact hn, row_cells _ (heap_alloc_new _ _) ?_ (by rw [hlen]; exact hn.symm) ?_ (by rw [hlen]; omega)⟩
  · rw [e2, List.map_set, List.map_set, List.setIfInBounds_toArray, List.setIfInBounds_toArray]
  · refine List.all_eq_true.2 fun x hx => ?_
    have h : x = 0 ∨ x = 86 := by
      rcases List.mem_or_eq_of_mem_set hx with h | h
      · rcases List.mem_or_eq_of_mem_set h with h | h
        · rw [hl8] at h
          exact .inl (List.eq_of_mem_replicate h)
        · exact .inr h
      · exact .inr h
    rcases h with rfl | rfl <;> decide
theorem heap_second (w : World) (o1 o2 : Obj) : ((w.alloc o1).alloc o2).heap[w.heap.size + 1]? = some o2 := by
  have h := heap_alloc_new (w.alloc o1) o2
  rwa [show (w.alloc o1).heap.size = w.heap.size + 1 by simp] at h
theorem size_one (w : World) {o : Obj} : (w.alloc o).heap.size = w.heap.size + 1 := by simp
def POOLK : List Cst := [⟨0, ⟨#[]⟩, 0, 0, 0, 0⟩, ⟨1, ⟨#[]⟩, 0, 0, 0, 0⟩, ⟨2, ⟨#[]⟩, 0, 0, 0, 0⟩, ⟨3, ⟨#[]⟩, 0, 0, 0, 0⟩, ⟨4, ⟨#[]⟩, 0, 0, 0, 0⟩, ⟨5, ⟨#[]⟩, 0, 0, 0, 0⟩, ⟨6, ⟨#[]⟩, 0, 0, 0, 0⟩]
theorem enc_short : ∀ k n : Nat, k < 90 → n < 8 → (opsEnc ⟨0, k, n, 0, [], []⟩).1.length ≤ 1000 := by
  have h : ((List.range 90).all fun k => (List.range 8).all fun n => decide ((opsEnc ⟨0, (k : Nat), (n : Nat), 0, [], []⟩).1.length ≤ 1000)) = true := by decide +kernel
  intro k n hk hn
  have h1 := List.all_eq_true.1 h k (List.mem_range.2 hk)
  exact of_decide_eq_true (List.all_eq_true.1 h1 n (List.mem_range.2 hn))
set_option maxRecDepth 100000 in
set_option maxHeartbeats 8000000 in
theorem codeKnown_walk (w : World) : Calls Try.prog 10 #[] w (fun e w' => e = .returned (.bool true) ∧ Ext w w') := by
  have HB := Lib.hid (show ∀ x : Int, -4294967296 ≤ x ∧ x ≤ 4294967296 → B64 x from fun x hx => ⟨by omega, by omega⟩)
  go_enter Try.func10, Try.ntmps10
  go_wp2_with fail
  obtain ⟨W0, hW0⟩ : ∃ W0, W0 = w.alloc (.cells #[.int .i64 0, .string ⟨#[]⟩, .int .i64 0, .int .i64 0, .int .i64 0, .int .i64 0, .int .i64 1, .string ⟨#[]⟩, .int .i64 0, .int .i64 0, .int .i64 0, .int .i64 0, .int .i64 2, .string ⟨#[]⟩, .int .i64 0, .int .i64 0, .int .i64 0, .int .i64 0, .int .i64 3, .string ⟨#[]⟩, .int .i64 0, .int .i64 0, .int .i64 0, .int .i64 0, .int .i64 4, .string ⟨#[]⟩, .int .i64 0, .int .i64 0, .int .i64 0, .int .i64 0, .int .i64 5, .string ⟨#[]⟩, .int .i64 0, .int .i64 0, .int .i64 0, .int .i64 0, .int .i64 6, .string ⟨#[]⟩, .int .i64 0, .int .i64 0, .int .i64 0, .int .i64 0] 61) := ⟨_, rfl⟩
  obtain ⟨g0, hg0⟩ : ∃ g, g = w.heap.size := ⟨_, rfl⟩
  have hp0 : ShC.Row W0 (.slice (some ⟨g0, 0, none⟩) 7 7) POOLK := by rw [hW0, hg0]; exact Shp.Row.lit POOLK (heap_alloc_new _ _) rfl rfl (fun _ _ => trivial) (by decide)
  have HP := Lib.hid (fun W (e : Ext W0 W) => hp0.ext e)
  have HPH := Lib.hid (fun n (hn : n ≤ 7) W (e : Ext W0 W) => (hp0.head n hn).ext e)
  have XW := Lib.hid (show Ext w W0 by rw [hW0]; exact (Ext.refl w).alloc _)
  rw [← hW0, ← hg0]
  clear hW0 hg0 hp0
  go_loopw [2] (fun i wr => ∃ k : Nat, k ≤ 90 ∧ i = .int .i64 k ∧ Hid (Ext W0 wr)) (fun i _ => (90 - intOf i).toNat)
  case atStart => exact ⟨0, by omega, rfl, Lib.hid (Ext.refl W0)⟩
  case round =>
    obtain ⟨k, hk, rfl, X1⟩ := hrel
    by_cases hlt : (k : Int) ≤ 89
    · have HKL := Lib.hid (show k < 90 by omega)
      clear hk
      go_wp2_with fail
      go_loopw [3] (fun i wr => ∃ n : Nat, n ≤ 8 ∧ i = .int .i64 n ∧ Hid (Ext W0 wr)) (fun i _ => 8 - (intOf i).toNat)
      case atStart => exact ⟨0, by omega, rfl, X1⟩
      case round =>
        clear X1
        obtain ⟨n, hn, rfl, X2⟩ := hrel
        by_cases hn2 : (n : Int) < 8
        · have HNL := Lib.hid (show n < 8 by omega)
          have HEN := Lib.hid (enc_short k n HKL.out HNL.out)
          have HE := Lib.hid (fun W => Encode_any ⟨0, k, n, 0, [], []⟩ (.slice none 0 0) (.slice none 0 0) W (row_nil _ _) (row_nil _ _))
          obtain ⟨R, hR⟩ : ∃ R, opsEnc ⟨0, k, n, 0, [], []⟩ = R := ⟨_, rfl⟩
          rw [hR] at HE HEN
          obtain ⟨bs, er⟩ := R
          clear hR hn
          have HN1 := Lib.hid (HB.out (n : Int) (by omega))
          have HN2 := Lib.hid (HB.out ((n : Int) * 40) (by omega))
          go_wp2_with fail
          refine (HE.out _).mono ?_
          rintro e w3 ⟨v3, rfl, ⟨u3, rfl, o3⟩, x3⟩
          have X3 := Lib.hid (X2.out.trans x3)
          have HS2 := Lib.hid X2.out.size
          have O3 := Lib.hid o3
          have hw40 : IntKind.i64.wrap ((n : Int) * 40) = (n : Int) * 40 := by have := HNL.out; rw [IntKind.wrap_i64]; omega
          have hw41 : wrap64 ((n : Int) * 40) = (n : Int) * 40 := by have := HNL.out; unfold wrap64; omega
          clear x3 X2 HE
          by_cases he : er = 0
          · subst he
            obtain ⟨A3, n3, c3, rfl⟩ := o3.slice
            clear o3
            go_wp2_with (first
            | (at_builtin; go_loud (refine wpList_app _ rfl _ _ 0 22 5 _ 1 .u8 rfl Try.underlying22 info8 rfl (by omega) (.slice A3 n3 c3) bs rfl ((O3.out.base (Nat.zero_le _)).ext ((Ext.refl _).alloc _)) (.slice (some ⟨w3.heap.size, 0, none⟩) 1 1) [86] rfl (row_cells _ (heap_alloc_new _ _) rfl rfl (by decide) (by decide)) (by have := HEN.out; simp; omega) (by simp) ?_); intro u4 w4 o4 g4 _
               have x4 : Ext W0 w4 := (X3.out.alloc _).grown g4 (fun g h => by have := O3.out.low g h; have := HS2.out; omega)
               have L4 := Lib.hid (show (bs ++ [86]).length ≤ 100000 by have := HEN.out; simp; omega)
               have R4 := Lib.hid o4.row
               obtain ⟨A4, n4, c4, rfl⟩ := o4.slice
               have X4 := Lib.hid x4
               clear x4 o4 g4))
            have T5 : Ten (w4.alloc (.cells #[.bool false, .bool false, .string ⟨#[]⟩, .int .i64 0, .string ⟨#[]⟩, .slice none 0 0, .int .i64 ((n : Int) * 40), .int .i64 4, .slice A4 n4 c4, .slice none 0 0] 48)) w4.heap.size #[.bool false, .bool false, .string ⟨#[]⟩, .int .i64 0, .string ⟨#[]⟩, .slice none 0 0, .int .i64 ((n : Int) * 40), .int .i64 4, .slice A4 n4 c4, .slice none 0 0] := ⟨heap_alloc_new _ _, rfl⟩
            have X5 := Lib.hid (X4.out.alloc (.cells #[.bool false, .bool false, .string ⟨#[]⟩, .int .i64 0, .string ⟨#[]⟩, .slice none 0 0, .int .i64 ((n : Int) * 40), .int .i64 4, .slice A4 n4 c4, .slice none 0 0] 48))
            have R5 := Lib.hid (R4.out.ext ((Ext.refl w4).alloc (.cells #[.bool false, .bool false, .string ⟨#[]⟩, .int .i64 0, .string ⟨#[]⟩, .slice none 0 0, .int .i64 ((n : Int) * 40), .int .i64 4, .slice A4 n4 c4, .slice none 0 0] 48)))
            obtain ⟨W5, hW5⟩ : ∃ W, W = w4.alloc (.cells #[.bool false, .bool false, .string ⟨#[]⟩, .int .i64 0, .string ⟨#[]⟩, .slice none 0 0, .int .i64 ((n : Int) * 40), .int .i64 4, .slice A4 n4 c4, .slice none 0 0] 48) := ⟨_, rfl⟩
            obtain ⟨g5, hg5⟩ : ∃ g, g = w4.heap.size := ⟨_, rfl⟩
            rw [← hW5, ← hg5] at T5
            rw [← hW5] at X5 R5
            rw [← hW5, ← hg5]
            have F : ∀ w', Ext W5 w' → w'.cell? ⟨g5, 0, none⟩ = some (.bool false) ∧ w'.cell? ⟨g5, 1, none⟩ = some (.bool false) ∧ w'.cell? ⟨g5, 2, none⟩ = some (.string ⟨#[]⟩) ∧ w'.cell? ⟨g5, 3, none⟩ = some (.int .i64 0) ∧ w'.cell? ⟨g5, 4, none⟩ = some (.string ⟨#[]⟩) ∧ w'.cell? ⟨g5, 5, none⟩ = some (.slice none 0 0) ∧ w'.cell? ⟨g5, 6, none⟩ = some (.int .i64 ((n : Int) * 40)) ∧ w'.cell? ⟨g5, 7, none⟩ = some (.int .i64 4) ∧ w'.cell? ⟨g5, 8, none⟩ = some (.slice A4 n4 c4) ∧ w'.cell? ⟨g5, 9, none⟩ = some (.slice none 0 0) := fun w' e => ten_cells (T5.ext e)
            have C1 := Lib.hid (fun W (e : Ext W5 W) => chk_ok (W := W) ((n : Int) * 40) 4 (.slice A4 n4 c4) (.slice none 0 0) (bs ++ [86]) [] (R5.out.ext e) L4.out (Shp.Row.nil _ _) (by simp) HN2.out (HB.out _ (by decide)) _ POOLK (HP.out W (X5.out.trans e)) (by decide) n HN1.out)
            have C2 := Lib.hid (fun W (e : Ext W5 W) => chk_ok (W := W) ((n : Int) * 40) 4 (.slice A4 n4 c4) (.slice none 0 0) (bs ++ [86]) [] (R5.out.ext e) L4.out (Shp.Row.nil _ _) (by simp) HN2.out (HB.out _ (by decide)) _ (POOLK.take (n % 7)) (HPH.out (n % 7) (by omega) W (X5.out.trans e)) (by simp [POOLK]; omega) n HN1.out)
            obtain ⟨r, hr⟩ : ∃ r, n % 7 = r := ⟨_, rfl⟩
            rw [hr] at C2
            have hr7 : r ≤ 7 := by omega
            have hr1 : (n : Int) % 7 = r := by omega
            have hr2 : (n : Int).tmod 7 = r := by rw [Int.tmod_eq_emod_of_nonneg (by omega)]; exact hr1
            have q1 := fun W => (run_headC g0 7 7 r r rfl hr7 (by decide) W).1
            have q3 := fun W => (run_headC g0 7 7 r r rfl hr7 (by decide) W).2
            have e0 := (Ext.refl W5).drew
            have f0 := F _ e0
            have FH := Lib.hid F
            clear F T5 hW5 hg5
            go_region_held3 (fun w' => w'.cell? ⟨g5, 0, none⟩ = some (.bool false) ∧ w'.cell? ⟨g5, 1, none⟩ = some (.bool false) ∧ w'.cell? ⟨g5, 2, none⟩ = some (.string ⟨#[]⟩) ∧ w'.cell? ⟨g5, 3, none⟩ = some (.int .i64 0) ∧ w'.cell? ⟨g5, 4, none⟩ = some (.string ⟨#[]⟩) ∧ w'.cell? ⟨g5, 5, none⟩ = some (.slice none 0 0) ∧ w'.cell? ⟨g5, 6, none⟩ = some (.int .i64 ((n : Int) * 40)) ∧ w'.cell? ⟨g5, 7, none⟩ = some (.int .i64 4) ∧ w'.cell? ⟨g5, 8, none⟩ = some (.slice A4 n4 c4) ∧ w'.cell? ⟨g5, 9, none⟩ = some (.slice none 0 0)) (first | with_reducible assumption) (first
              | (go_at_call 5; (with_reducible refine (C1.out _ e0).mono ?_); rintro e' w6 ⟨rfl, x6⟩; have e6 := e0.trans x6; have f6 := FH.out _ e6)
              | (go_at_call 5; (with_reducible refine (C2.out _ e6).mono ?_); rintro e' w7 ⟨rfl, x7⟩; have e7 := e6.trans x7; have f7 := FH.out _ e7))
            have X7 := Lib.hid (X5.out.trans e7)
            clear C1 C2 e0 f0 e6 f6 e7 f7 x6 x7 FH q1 q3 hr hr1 hr2 hr7 X5 R5 L4
            go_wp2_with fail
            go_roundw
            case rel => exact ⟨n + 1, by have := HNL.out; omega, by go_num, X7⟩
            case measure => simp [intOf]; omega
          · have hb : (er != 0) = true := by simpa using he
            clear he o3 O3
            go_wp2_with fail
            go_roundw
            case rel => exact ⟨n + 1, by have := HNL.out; omega, by go_num, X3⟩
            case measure => simp [intOf]; omega
        · clear hn
          go_wp2_with fail
          go_roundw
          case rel => exact ⟨k + 1, by have := HKL.out; omega, by go_num, X2⟩
          case measure => simp [intOf]; omega
    · clear hk
      go_wp2_with fail
      obtain ⟨W1, hW1⟩ : ∃ W, W = (wr.alloc (.cells #[.int .u8 0, .int .u8 58, .int .u8 255, .int .u8 255, .int .u8 5, .int .u8 0, .int .u8 83] 5)).alloc (.cells #[.int .i64 (-1), .int .i64 0, .int .i64 1, .int .i64 2, .int .i64 4, .int .i64 6, .int .i64 7, .int .i64 8] 3) := ⟨_, rfl⟩
      obtain ⟨gb, hgb⟩ : ∃ g, g = wr.heap.size := ⟨_, rfl⟩
      have hb0 : Row W1 .u8 (.slice (some ⟨gb, 0, none⟩) 7 7) BODYK := by rw [hW1, hgb]; exact row_cells BODYK ((heap_alloc_old _ _ (by simp)).trans (heap_alloc_new _ _)) rfl rfl (by decide) (by decide)
      have he0 : Row W1 .i64 (.slice (some ⟨gb + 1, 0, none⟩) 8 8) ENDK := by rw [hW1, hgb]; exact row_cells ENDK (by rw [← size_one wr]; exact heap_alloc_new _ _) rfl rfl (by decide) (by decide)
      have X3 := Lib.hid (show Ext W0 W1 by rw [hW1]; exact (X1.out.alloc _).alloc _)
      have XW1 := Lib.hid (XW.out.trans X3.out)
      have HBd := Lib.hid (fun W (e : Ext W1 W) => hb0.ext e)
      have HP1 := Lib.hid (fun W (e : Ext W1 W) => HP.out W (X3.out.trans e))
      have HEc := Lib.hid (show ∀ W, Ext W1 W → ∀ j, j < 8 → W.cell? ⟨gb + 1, j, none⟩ = some (.int .i64 (gi ENDK j)) by
        intro W e j hj
        obtain ⟨b, o, hbo, hat⟩ := he0.all (by decide)
        injection hbo with hbo
        injection hbo with e1 e2
        subst e1 e2
        have := hat W e j hj
        rwa [Nat.zero_add] at this)
      rw [← hW1, ← hgb]
      clear hW1 hgb hb0 he0 X1 X3 XW HP HPH hlt
      go_loopw [9] (fun i wr => ∃ k : Nat, k ≤ 8 ∧ i = .int .i64 k ∧ Hid (Ext W1 wr)) (fun i _ => (8 - intOf i).toNat)
      case atStart => exact ⟨0, by omega, rfl, Lib.hid (Ext.refl W1)⟩
      case round =>
        obtain ⟨i, hi, rfl, X1⟩ := hrel
        by_cases hi2 : (i : Int) < 8
        · have HI := Lib.hid (show i < 8 by omega)
          clear hi
          go_wp2_with fail
          go_loopw [10] (fun i wr => ∃ k : Nat, k ≤ 8 ∧ i = .int .i64 k ∧ Hid (Ext W1 wr)) (fun i _ => (8 - intOf i).toNat)
          case atStart => exact ⟨0, by omega, rfl, X1⟩
          case round =>
            clear X1
            obtain ⟨k, hk, rfl, X1⟩ := hrel
            by_cases hk2 : (k : Int) < 8
            · have HK := Lib.hid (show k < 8 by omega)
              clear hk
              go_wp2_with fail
              go_loopw [11] (fun i wr => ∃ k : Nat, k ≤ 8 ∧ i = .int .i64 k ∧ Hid (Ext W1 wr)) (fun i _ => (8 - intOf i).toNat)
              case atStart => exact ⟨0, by omega, rfl, X1⟩
              case round =>
                clear X1
                obtain ⟨j, hj, rfl, X1⟩ := hrel
                by_cases hj2 : (j : Int) < 8
                · have HJ := Lib.hid (show j < 8 by omega)
                  clear hj
                  obtain ⟨di, hdi⟩ : ∃ d, gi ENDK i = d := ⟨_, rfl⟩
                  obtain ⟨dk, hdk⟩ : ∃ d, gi ENDK k = d := ⟨_, rfl⟩
                  obtain ⟨dj, hdj⟩ : ∃ d, gi ENDK j = d := ⟨_, rfl⟩
                  have HCi := Lib.hid (show ∀ W, Ext W1 W → W.cell? ⟨gb + 1, i, none⟩ = some (.int .i64 di) from fun W e => by rw [HEc.out W e i HI.out, hdi])
                  have HCk := Lib.hid (show ∀ W, Ext W1 W → W.cell? ⟨gb + 1, k, none⟩ = some (.int .i64 dk) from fun W e => by rw [HEc.out W e k HK.out, hdk])
                  have HCj := Lib.hid (show ∀ W, Ext W1 W → W.cell? ⟨gb + 1, j, none⟩ = some (.int .i64 dj) from fun W e => by rw [HEc.out W e j HJ.out, hdj])
                  have HDJ := Lib.hid (show B64 dj by have := endk_b j HJ.out; rw [hdj] at this; exact HB.out _ (by omega))
                  clear hdi hdk hdj
                  have ci := HCi.out _ X1.out
                  have ck := HCk.out _ X1.out
                  have cj := HCj.out _ X1.out
                  go_wp2_with fail
                  go_region_held3 (fun w' => w'.cell? ⟨gb + 1, i, none⟩ = some (.int .i64 di) ∧ w'.cell? ⟨gb + 1, k, none⟩ = some (.int .i64 dk) ∧ w'.cell? ⟨gb + 1, j, none⟩ = some (.int .i64 dj)) (first | go_keep) (fail)
                  · have T5 : Ten (((wr.alloc (.cells #[.int .i64 0, .int .i64 7, .int .i64 4, .int .i64 0, .int .i64 di, .int .i64 dk, .int .i64 dj, .int .i64 j] 64)).alloc (.cells #[.bool false, .bool false, .string ⟨#[]⟩, .int .i64 0, .string ⟨#[]⟩, .slice none 0 0, .int .i64 0, .int .i64 1, .slice (some ⟨gb, 0, none⟩) 7 7, .slice (some ⟨wr.heap.size, 0, none⟩) 2 2] 48)).drew) (wr.heap.size + 1) #[.bool false, .bool false, .string ⟨#[]⟩, .int .i64 0, .string ⟨#[]⟩, .slice none 0 0, .int .i64 0, .int .i64 1, .slice (some ⟨gb, 0, none⟩) 7 7, .slice (some ⟨wr.heap.size, 0, none⟩) 2 2] := ⟨heap_second _ _ _, rfl⟩
                    have R5 : ShH.Row (((wr.alloc (.cells #[.int .i64 0, .int .i64 7, .int .i64 4, .int .i64 0, .int .i64 di, .int .i64 dk, .int .i64 dj, .int .i64 j] 64)).alloc (.cells #[.bool false, .bool false, .string ⟨#[]⟩, .int .i64 0, .string ⟨#[]⟩, .slice none 0 0, .int .i64 0, .int .i64 1, .slice (some ⟨gb, 0, none⟩) 7 7, .slice (some ⟨wr.heap.size, 0, none⟩) 2 2] 48)).drew) (.slice (some ⟨wr.heap.size, 0, none⟩) 2 2) [⟨0, 7, 4, 0⟩, ⟨di, dk, dj, j⟩] := Shp.Row.lit _ ((heap_alloc_old _ _ (by simp)).trans (heap_alloc_new _ _)) rfl rfl (fun _ _ => trivial) (by simp)
                    have X5 : Ext W1 (((wr.alloc (.cells #[.int .i64 0, .int .i64 7, .int .i64 4, .int .i64 0, .int .i64 di, .int .i64 dk, .int .i64 dj, .int .i64 j] 64)).alloc (.cells #[.bool false, .bool false, .string ⟨#[]⟩, .int .i64 0, .string ⟨#[]⟩, .slice none 0 0, .int .i64 0, .int .i64 1, .slice (some ⟨gb, 0, none⟩) 7 7, .slice (some ⟨wr.heap.size, 0, none⟩) 2 2] 48)).drew) := ((X1.out.alloc _).alloc _).drew
                    obtain ⟨W5, hW5⟩ : ∃ W, W = ((wr.alloc (.cells #[.int .i64 0, .int .i64 7, .int .i64 4, .int .i64 0, .int .i64 di, .int .i64 dk, .int .i64 dj, .int .i64 j] 64)).alloc (.cells #[.bool false, .bool false, .string ⟨#[]⟩, .int .i64 0, .string ⟨#[]⟩, .slice none 0 0, .int .i64 0, .int .i64 1, .slice (some ⟨gb, 0, none⟩) 7 7, .slice (some ⟨wr.heap.size, 0, none⟩) 2 2] 48)).drew := ⟨_, rfl⟩
                    rw [← hW5] at T5 R5 X5 ⊢
                    clear hW5
                    obtain ⟨gM, hgM⟩ : ∃ g, g = wr.heap.size + 1 := ⟨_, rfl⟩
                    obtain ⟨gH, hgH⟩ : ∃ g, g = wr.heap.size := ⟨_, rfl⟩
                    rw [← hgM, ← hgH] at T5
                    rw [← hgH] at R5
                    rw [← hgM]
                    clear hgM hgH
                    have F : ∀ w', Ext W5 w' → w'.cell? ⟨gM, 0, none⟩ = some (.bool false) ∧ w'.cell? ⟨gM, 1, none⟩ = some (.bool false) ∧ w'.cell? ⟨gM, 2, none⟩ = some (.string ⟨#[]⟩) ∧ w'.cell? ⟨gM, 3, none⟩ = some (.int .i64 0) ∧ w'.cell? ⟨gM, 4, none⟩ = some (.string ⟨#[]⟩) ∧ w'.cell? ⟨gM, 5, none⟩ = some (.slice none 0 0) ∧ w'.cell? ⟨gM, 6, none⟩ = some (.int .i64 0) ∧ w'.cell? ⟨gM, 7, none⟩ = some (.int .i64 1) ∧ w'.cell? ⟨gM, 8, none⟩ = some (.slice (some ⟨gb, 0, none⟩) 7 7) ∧ w'.cell? ⟨gM, 9, none⟩ = some (.slice (some ⟨gH, 0, none⟩) 2 2) ∧ w'.cell? ⟨gb + 1, j, none⟩ = some (.int .i64 dj) := fun w' e => by
                      obtain ⟨f0, f1, f2, f3, f4, f5, f6, f7, f8, f9⟩ := ten_cells (T5.ext e)
                      exact ⟨f0, f1, f2, f3, f4, f5, f6, f7, f8, f9, HCj.out _ (X5.trans e)⟩
                    have C1 := Lib.hid (fun W (e : Ext W5 W) => chk_ok (W := W) 0 1 (.slice (some ⟨gb, 0, none⟩) 7 7) (.slice (some ⟨gH, 0, none⟩) 2 2) BODYK [⟨0, 7, 4, 0⟩, ⟨di, dk, dj, j⟩] (HBd.out _ (X5.trans e)) (by decide) (R5.ext e) (by simp) (HB.out _ (by decide)) (HB.out _ (by decide)) _ POOLK (HP1.out _ (X5.trans e)) (by decide) dj HDJ.out)
                    have X5h := Lib.hid X5
                    have e0 := (Ext.refl W5).drew
                    have f0 := F _ e0
                    have FH := Lib.hid F
                    clear F T5 R5 X5 ci ck cj
                    go_wp2_with fail
                    go_region_held3 (fun w' => w'.cell? ⟨gM, 0, none⟩ = some (.bool false) ∧ w'.cell? ⟨gM, 1, none⟩ = some (.bool false) ∧ w'.cell? ⟨gM, 2, none⟩ = some (.string ⟨#[]⟩) ∧ w'.cell? ⟨gM, 3, none⟩ = some (.int .i64 0) ∧ w'.cell? ⟨gM, 4, none⟩ = some (.string ⟨#[]⟩) ∧ w'.cell? ⟨gM, 5, none⟩ = some (.slice none 0 0) ∧ w'.cell? ⟨gM, 6, none⟩ = some (.int .i64 0) ∧ w'.cell? ⟨gM, 7, none⟩ = some (.int .i64 1) ∧ w'.cell? ⟨gM, 8, none⟩ = some (.slice (some ⟨gb, 0, none⟩) 7 7) ∧ w'.cell? ⟨gM, 9, none⟩ = some (.slice (some ⟨gH, 0, none⟩) 2 2) ∧ w'.cell? ⟨gb + 1, j, none⟩ = some (.int .i64 dj)) (first | with_reducible assumption) (first
                      | (go_at_call 5; (with_reducible refine (C1.out _ e0).mono ?_); rintro e' w6 ⟨rfl, x6⟩; have e6 := e0.trans x6; have f6 := FH.out _ e6))
                    have X6 := Lib.hid (X5h.out.trans e6)
                    clear C1 e0 f0 e6 f6 x6 FH X5h X1 HCi HCk HCj HDJ
                    go_wp2_with fail
                    go_roundw
                    case rel => exact ⟨j + 1, by have := HJ.out; omega, by go_num, X6⟩
                    case measure => simp [intOf]; omega
                  · have T5 : Ten (((wr.alloc (.cells #[.bool false, .bool false, .string ⟨#[]⟩, .int .i64 0, .string ⟨#[]⟩, .slice none 0 0, .int .i64 0, .int .i64 1, .slice (some ⟨gb, 0, none⟩) 7 7, .slice (some ⟨wr.heap.size + 1, 0, none⟩) 2 2] 48)).alloc (.cells #[.int .i64 0, .int .i64 7, .int .i64 4, .int .i64 0, .int .i64 di, .int .i64 dk, .int .i64 dj, .int .i64 j] 64)).drew) (wr.heap.size) #[.bool false, .bool false, .string ⟨#[]⟩, .int .i64 0, .string ⟨#[]⟩, .slice none 0 0, .int .i64 0, .int .i64 1, .slice (some ⟨gb, 0, none⟩) 7 7, .slice (some ⟨wr.heap.size + 1, 0, none⟩) 2 2] := ⟨(heap_alloc_old _ _ (by simp)).trans (heap_alloc_new _ _), rfl⟩
                    have R5 : ShH.Row (((wr.alloc (.cells #[.bool false, .bool false, .string ⟨#[]⟩, .int .i64 0, .string ⟨#[]⟩, .slice none 0 0, .int .i64 0, .int .i64 1, .slice (some ⟨gb, 0, none⟩) 7 7, .slice (some ⟨wr.heap.size + 1, 0, none⟩) 2 2] 48)).alloc (.cells #[.int .i64 0, .int .i64 7, .int .i64 4, .int .i64 0, .int .i64 di, .int .i64 dk, .int .i64 dj, .int .i64 j] 64)).drew) (.slice (some ⟨wr.heap.size + 1, 0, none⟩) 2 2) [⟨0, 7, 4, 0⟩, ⟨di, dk, dj, j⟩] := Shp.Row.lit _ (heap_second _ _ _) rfl rfl (fun _ _ => trivial) (by simp)
                    have X5 : Ext W1 (((wr.alloc (.cells #[.bool false, .bool false, .string ⟨#[]⟩, .int .i64 0, .string ⟨#[]⟩, .slice none 0 0, .int .i64 0, .int .i64 1, .slice (some ⟨gb, 0, none⟩) 7 7, .slice (some ⟨wr.heap.size + 1, 0, none⟩) 2 2] 48)).alloc (.cells #[.int .i64 0, .int .i64 7, .int .i64 4, .int .i64 0, .int .i64 di, .int .i64 dk, .int .i64 dj, .int .i64 j] 64)).drew) := ((X1.out.alloc _).alloc _).drew
                    obtain ⟨W5, hW5⟩ : ∃ W, W = ((wr.alloc (.cells #[.bool false, .bool false, .string ⟨#[]⟩, .int .i64 0, .string ⟨#[]⟩, .slice none 0 0, .int .i64 0, .int .i64 1, .slice (some ⟨gb, 0, none⟩) 7 7, .slice (some ⟨wr.heap.size + 1, 0, none⟩) 2 2] 48)).alloc (.cells #[.int .i64 0, .int .i64 7, .int .i64 4, .int .i64 0, .int .i64 di, .int .i64 dk, .int .i64 dj, .int .i64 j] 64)).drew := ⟨_, rfl⟩
                    rw [← hW5] at T5 R5 X5 ⊢
                    clear hW5
                    obtain ⟨gM, hgM⟩ : ∃ g, g = wr.heap.size := ⟨_, rfl⟩
                    obtain ⟨gH, hgH⟩ : ∃ g, g = wr.heap.size + 1 := ⟨_, rfl⟩
                    rw [← hgH, ← hgM] at T5
                    rw [← hgH] at R5
                    rw [← hgM]
                    clear hgM hgH
                    have F : ∀ w', Ext W5 w' → w'.cell? ⟨gM, 0, none⟩ = some (.bool false) ∧ w'.cell? ⟨gM, 1, none⟩ = some (.bool false) ∧ w'.cell? ⟨gM, 2, none⟩ = some (.string ⟨#[]⟩) ∧ w'.cell? ⟨gM, 3, none⟩ = some (.int .i64 0) ∧ w'.cell? ⟨gM, 4, none⟩ = some (.string ⟨#[]⟩) ∧ w'.cell? ⟨gM, 5, none⟩ = some (.slice none 0 0) ∧ w'.cell? ⟨gM, 6, none⟩ = some (.int .i64 0) ∧ w'.cell? ⟨gM, 7, none⟩ = some (.int .i64 1) ∧ w'.cell? ⟨gM, 8, none⟩ = some (.slice (some ⟨gb, 0, none⟩) 7 7) ∧ w'.cell? ⟨gM, 9, none⟩ = some (.slice (some ⟨gH, 0, none⟩) 2 2) ∧ w'.cell? ⟨gb + 1, j, none⟩ = some (.int .i64 dj) := fun w' e => by
                      obtain ⟨f0, f1, f2, f3, f4, f5, f6, f7, f8, f9⟩ := ten_cells (T5.ext e)
                      exact ⟨f0, f1, f2, f3, f4, f5, f6, f7, f8, f9, HCj.out _ (X5.trans e)⟩
                    have C1 := Lib.hid (fun W (e : Ext W5 W) => chk_ok (W := W) 0 1 (.slice (some ⟨gb, 0, none⟩) 7 7) (.slice (some ⟨gH, 0, none⟩) 2 2) BODYK [⟨0, 7, 4, 0⟩, ⟨di, dk, dj, j⟩] (HBd.out _ (X5.trans e)) (by decide) (R5.ext e) (by simp) (HB.out _ (by decide)) (HB.out _ (by decide)) _ POOLK (HP1.out _ (X5.trans e)) (by decide) dj HDJ.out)
                    have X5h := Lib.hid X5
                    have e0 := (Ext.refl W5).drew
                    have f0 := F _ e0
                    have FH := Lib.hid F
                    clear F T5 R5 X5 ci ck cj
                    go_wp2_with fail
                    go_region_held3 (fun w' => w'.cell? ⟨gM, 0, none⟩ = some (.bool false) ∧ w'.cell? ⟨gM, 1, none⟩ = some (.bool false) ∧ w'.cell? ⟨gM, 2, none⟩ = some (.string ⟨#[]⟩) ∧ w'.cell? ⟨gM, 3, none⟩ = some (.int .i64 0) ∧ w'.cell? ⟨gM, 4, none⟩ = some (.string ⟨#[]⟩) ∧ w'.cell? ⟨gM, 5, none⟩ = some (.slice none 0 0) ∧ w'.cell? ⟨gM, 6, none⟩ = some (.int .i64 0) ∧ w'.cell? ⟨gM, 7, none⟩ = some (.int .i64 1) ∧ w'.cell? ⟨gM, 8, none⟩ = some (.slice (some ⟨gb, 0, none⟩) 7 7) ∧ w'.cell? ⟨gM, 9, none⟩ = some (.slice (some ⟨gH, 0, none⟩) 2 2) ∧ w'.cell? ⟨gb + 1, j, none⟩ = some (.int .i64 dj)) (first | with_reducible assumption) (first
                      | (go_at_call 5; (with_reducible refine (C1.out _ e0).mono ?_); rintro e' w6 ⟨rfl, x6⟩; have e6 := e0.trans x6; have f6 := FH.out _ e6))
                    have X6 := Lib.hid (X5h.out.trans e6)
                    clear C1 e0 f0 e6 f6 x6 FH X5h X1 HCi HCk HCj HDJ
                    go_wp2_with fail
                    go_roundw
                    case rel => exact ⟨j + 1, by have := HJ.out; omega, by go_num, X6⟩
                    case measure => simp [intOf]; omega
                · clear hj
                  go_wp2_with fail
                  go_roundw
                  case rel => exact ⟨k + 1, by have := HK.out; omega, by go_num, X1⟩
                  case measure => simp [intOf]; omega
            · clear hk
              go_wp2_with fail
              go_roundw
              case rel => exact ⟨i + 1, by have := HI.out; omega, by go_num, X1⟩
              case measure => simp [intOf]; omega
        · clear hi
          obtain ⟨ZH, hZH⟩ : ∃ Z, Z = madeCells (Value.agg #[.int .i64 0, .int .i64 0, .int .i64 0, .int .i64 0]).cells (257 * 4) := ⟨_, rfl⟩
          have hkH : ∀ W : World, (Instr.makeSlice 46 (.int .i64 257) (.int .i64 257)).run Try.prog W = .ok (.slice (some ⟨W.heap.size, 0, none⟩) 257 257) (W.alloc (.cells ZH 64)) := fun W => by rw [hZH]; exact run_zerosH 257 (by decide) W
          have HHB := Lib.hid (show ∀ W : World, HBl (W.alloc (.cells ZH 64)) W.heap.size 257 from fun W => by rw [hZH]; exact hbl_zeros 257 W)
          clear hZH
          go_wp2_with fail
          obtain ⟨gm, hgm⟩ : ∃ g, g = wr.heap.size := ⟨_, rfl⟩
          have hm0 := HHB.out wr
          rw [← hgm] at hm0
          have HM0 := Lib.hid hm0
          have HGM := Lib.hid (show W1.heap.size ≤ gm by rw [hgm]; exact X1.out.size)
          have X2 := Lib.hid (X1.out.alloc (.cells ZH 64))
          obtain ⟨W2, hW2⟩ : ∃ W, W = wr.alloc (.cells ZH 64) := ⟨_, rfl⟩
          rw [← hW2] at HM0 X2
          rw [← hW2, ← hgm]
          clear hW2 hgm hm0 X1 hkH HHB
          go_loopw [14] (fun i wr => ∃ k : Nat, k ≤ 257 ∧ i = .int .i64 k ∧ Hid (HBl wr gm 257) ∧ Hid (Ext W1 wr)) (fun i _ => (257 - intOf i).toNat)
          case atStart => exact ⟨0, by omega, rfl, HM0, X2⟩
          case round =>
            clear HM0 X2
            obtain ⟨k, hk, rfl, HM0, X2⟩ := hrel
            by_cases hk2 : (k : Int) < 257
            · have HK := Lib.hid (show k < 257 by omega)
              clear hk
              obtain ⟨x0, c0⟩ := HM0.out.cell (j := k * 4) (by have := HK.out; omega)
              obtain ⟨x1, c1⟩ := HM0.out.cell (j := k * 4 + 1) (by have := HK.out; omega)
              obtain ⟨x2, c2⟩ := HM0.out.cell (j := k * 4 + 2) (by have := HK.out; omega)
              obtain ⟨x3, c3⟩ := HM0.out.cell (j := k * 4 + 3) (by have := HK.out; omega)
              have hfr := HM0.out.free
              go_wp2_with fail
              go_roundw
              case rel =>
                exact ⟨k + 1, by have := HK.out; omega, by go_num, Lib.hid ((((HM0.out.set (k * 4) 0).set (k * 4 + 1) 7).set (k * 4 + 2) 4).set (k * 4 + 3) 0), Lib.hid ((((X2.out.set_ (p := ⟨gm, k * 4, none⟩) HGM.out _).set_ (p := ⟨gm, k * 4 + 1, none⟩) HGM.out _).set_ (p := ⟨gm, k * 4 + 2, none⟩) HGM.out _).set_ (p := ⟨gm, k * 4 + 3, none⟩) HGM.out _)⟩
              case measure => simp [intOf]; omega
            · clear hk
              obtain ⟨lm, hlm, hm⟩ := HM0.out.row (by decide)
              have HLM := Lib.hid hlm
              have HMR := Lib.hid hm
              have HMH := Lib.hid (show ShH.Row wr (.slice (some ⟨gm, 0, none⟩) 256 257) (lm.take 256) from hm.head 256 (by omega))
              clear hlm hm
              have Y0 := Lib.hid (Ext.refl wr)
              go_wp2_with fail
              refine (chk_ok 255 255 (.slice (some ⟨gb, 0, none⟩) 7 7) (.slice (some ⟨gm, 0, none⟩) 256 257) BODYK (lm.take 256) (HBd.out _ (X2.out.trans Y0.out)) (by decide) (HMH.out.ext Y0.out) (by have := HLM.out; simp; omega) (HB.out _ (by decide)) (HB.out _ (by decide)) _ POOLK (HP1.out _ (X2.out.trans Y0.out)) (by decide) 3 (HB.out _ (by decide))).mono ?_
              rintro e' w_1 ⟨rfl, x⟩
              have Y1 := Lib.hid (Y0.out.trans x)
              clear x Y0
              go_wp2_with fail
              refine (chk_ok 0 255 (.slice (some ⟨gb, 0, none⟩) 7 7) (.slice (some ⟨gm, 0, none⟩) 257 257) BODYK lm (HBd.out _ (X2.out.trans Y1.out)) (by decide) (HMR.out.ext Y1.out) (by have := HLM.out; omega) (HB.out _ (by decide)) (HB.out _ (by decide)) _ POOLK (HP1.out _ (X2.out.trans Y1.out)) (by decide) 3 (HB.out _ (by decide))).mono ?_
              rintro e' w_2 ⟨rfl, x⟩
              have Y2 := Lib.hid (Y1.out.trans x)
              clear x Y1
              go_wp2_with fail
              refine (chk_ok 0 256 (.slice (some ⟨gb, 0, none⟩) 7 7) (.slice none 0 0) BODYK [] (HBd.out _ (X2.out.trans Y2.out)) (by decide) (Shp.Row.nil _ _) (by simp) (HB.out _ (by decide)) (HB.out _ (by decide)) _ POOLK (HP1.out _ (X2.out.trans Y2.out)) (by decide) 0 (HB.out _ (by decide))).mono ?_
              rintro e' w_3 ⟨rfl, x⟩
              have Y3 := Lib.hid (Y2.out.trans x)
              clear x Y2
              go_wp2_with fail
              refine (chk_ok 256 1 (.slice (some ⟨gb, 0, none⟩) 7 7) (.slice none 0 0) BODYK [] (HBd.out _ (X2.out.trans Y3.out)) (by decide) (Shp.Row.nil _ _) (by simp) (HB.out _ (by decide)) (HB.out _ (by decide)) _ POOLK (HP1.out _ (X2.out.trans Y3.out)) (by decide) 0 (HB.out _ (by decide))).mono ?_
              rintro e' w_4 ⟨rfl, x⟩
              have Y4 := Lib.hid (Y3.out.trans x)
              clear x Y3
              go_wp2_with fail
              refine (chk_ok (-1) 1 (.slice (some ⟨gb, 0, none⟩) 7 7) (.slice none 0 0) BODYK [] (HBd.out _ (X2.out.trans Y4.out)) (by decide) (Shp.Row.nil _ _) (by simp) (HB.out _ (by decide)) (HB.out _ (by decide)) _ POOLK (HP1.out _ (X2.out.trans Y4.out)) (by decide) 0 (HB.out _ (by decide))).mono ?_
              rintro e' w_5 ⟨rfl, x⟩
              have Y5 := Lib.hid (Y4.out.trans x)
              clear x Y4
              go_wp2_with fail
              refine (chk_ok 0 (-1) (.slice (some ⟨w_5.heap.size, 0, none⟩) 1 1) (.slice none 0 0) [86] [] (row_cells _ (heap_alloc_new _ _) rfl rfl (by decide) (by decide)) (by decide) (Shp.Row.nil _ _) (by simp) (HB.out _ (by decide)) (HB.out _ (by decide)) _ POOLK (HP1.out _ ((X2.out.trans Y5.out).alloc _)) (by decide) 0 (HB.out _ (by decide))).mono ?_
              rintro e' w_6 ⟨rfl, x⟩
              have Y6 := Lib.hid ((Y5.out.alloc (.cells #[.int .u8 86] 5)).trans x)
              clear x Y5
              have hkL : ∀ W : World, (Instr.makeSlice 22 (.int .i64 8193) (.int .i64 8193)).run Try.prog W = .ok (.slice (some ⟨W.heap.size, 0, none⟩) 8193 8193) (W.alloc (.cells (ZC 8193) 5)) := fun W => run_zeros 8193 (by decide) W
              obtain ⟨Z8, hZ8⟩ : ∃ Z, Z = ZC 8193 := ⟨_, rfl⟩
              rw [← hZ8] at hkL
              have HZR := Lib.hid (fun W => long_row 8193 rfl W Z8 hZ8)
              have hz1 : Z8[8191]? = some (.int .u8 0) := by rw [hZ8]; exact zc_get 8191 (by decide)
              have hz2 : Z8[8192]? = some (.int .u8 0) := by rw [hZ8]; exact zc_get 8192 (by decide)
              have hz3 : Z8.size = 8193 := by rw [hZ8]; simp [ZC, size_madeCells]
              have hz4 : (Z8.setIfInBounds 8191 (.int .u8 86))[8192]? = some (.int .u8 0) := by rw [Array.getElem?_setIfInBounds_ne (by decide)]; exact hz2
              clear hZ8
              go_wp2_with fail
              obtain ⟨l9, hl9, hr9⟩ := HZR.out w_6
              refine (awake_any _).mono ?_
              rintro e' w_7 ⟨rfl, x⟩
              have Y7 := Lib.hid ((Y6.out.alloc _).trans x)
              have R9 := Lib.hid (hr9.ext x)
              have HL9 := Lib.hid hl9
              clear x Y6 hr9 hl9 HZR hz1 hz2 hz3 hz4 hkL
              go_wp2_with fail
              refine (codeCuts_walk _ _ _ R9.out (by have := HL9.out; omega)).mono ?_
              rintro e' w_8 ⟨rfl, x⟩
              have Y8 := Lib.hid (Y7.out.trans x)
              have R8 := Lib.hid (R9.out.ext x)
              clear x Y7
              go_wp2_with fail
              refine (codeCuts_walk _ _ _ (Row.head R8.out 8192 (by have := HL9.out; omega)) (by have := HL9.out; simp; omega)).mono ?_
              rintro e' w_9 ⟨rfl, x⟩
              have Y9 := Lib.hid (Y8.out.trans x)
              have R7 := Lib.hid (R8.out.ext x)
              clear x Y8
              go_wp2_with fail
              refine (codeCuts_walk _ _ _ (Row.head R7.out 8191 (by have := HL9.out; omega)) (by have := HL9.out; simp; omega)).mono ?_
              rintro e' w_10 ⟨rfl, x⟩
              have Y10 := Lib.hid (Y9.out.trans x)
              clear x Y9
              go_wp2_with fail
              refine (codeJoins_walk _ _ [] (RowI.nil _) (fun x hx => by cases hx) 0 (HB.out _ (by decide))).mono ?_
              rintro e' w_11 ⟨rfl, x⟩
              have Y11 := Lib.hid (Y10.out.trans x)
              clear x Y10
              go_wp2
              go_ret
              exact ⟨rfl, (XW1.out.trans X2.out).trans Y11.out⟩
set_option maxRecDepth 100000 in
theorem codeKnown_lifted (os : Os) (started : os.Started) (H : Type) (enc : TypeId × Value → H) :
    ReturnsInHanded {} Try.checked os 10 .any (Rows.codeKnownSpec.pre6 enc Try.prog Try.f10 Rows.codeKnownRow.domain false) (Rows.codeKnownSpec.post enc Try.prog Try.f10 false true false false) := by
  refine returnsInHanded_of_change_sized (C := Try.checked) own started (by kernel_rfl) Try.func10
    (ChangeSpec.witness6 (enc := enc) (C := Try.checked) false ⟨#[], #[], []⟩ 8 (by kernel_rfl) (by kernel_rfl) (by kernel_rfl) (by kernel_rfl)) ?_
  intro W base args ds gs before hval0 hW hcnd hsz0 _
  have hval : ∀ (j : Nat) t v, Try.f10.params[j]? = some t → args[j]? = some v → Value.okWide Try.prog W .any base t v := hval0
  have hsz : (DataW.weightsEach Try.prog (Try.f10.params.toList ++ Rows.codeKnownSpec.plain.varTypes Try.prog) (ds ++ gs)).all (· ≤ reachBytes) = true := hsz0
  have hW' := hW
  obtain ⟨p, q, hA0, hV, rfl, hfz, hnd⟩ := hW
  have hA : DataW.TrodAll enc Try.prog W 0 (fun _ => true) true Try.f10.params.toList args.toList ds p := hA0
  rw [Try.params10] at hA hval hsz
  obtain ⟨rfl, rfl, rfl⟩ := trodAll_none hA
  obtain ⟨rfl, rfl⟩ := trodVars_none hV
  clear hA0 hval0 hsz0
  refine (codeKnown_walk W ).mono fun e W' ⟨he, bel⟩ => ?_
  subst he
  exact ⟨_, rfl, _, _, _, [], _, [], hW', trodAll_mk1 (shut_bool Try.underlying4 _), trodAll_mk0, rfl, bel.frame _, fun h => by cases h⟩

theorem codeKnown_over : Rows.codeKnownRow.holds Try.pinned (OpenSpec.ofChange Rows.codeKnownSpec) :=
  OpenClaim.holds_of_wide 10 Try.f10 rfl rfl rfl rfl rfl rfl rfl ⟨rfl, rfl, rfl, rfl, rfl⟩ rfl rfl rfl rfl rfl (by kernel_rfl) Try.func10 (by kernel_rfl)
    (of_decide_eq_true (by kernel_rfl)) (by unfold Func.isWrapper; first | (rw [if_pos (by decide +kernel)]; kernel_rfl) | (rw [if_neg (by decide +kernel)]; exact ⟨rfl, rfl⟩))
    (fun os started H enc _ => codeKnown_lifted os started H enc)

/-- The statement. -/
theorem codeKnown_proved : Rows.CodeKnownSaid := codeKnown_over
#print axioms codeKnown_proved
end Go.Proofs.Ytcgajgileehbbaa
