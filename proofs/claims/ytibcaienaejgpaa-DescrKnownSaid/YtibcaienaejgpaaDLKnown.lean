/- DescrKnown: both ends, what is refused. -/
import Derived.Laws.MakeOwn
import Derived.Test.YtibcaienaejgpaaDOpen
import Derived.Test.YtibcaienaejgpaaDescY
namespace Go.Proofs.Ytibcaienaejgpaa
open Go.ChangeShapes Go.WideShapes Go.ChangeAt Go.RowKit
open Go.ChangeMaps (open_string shut_string)
set_option linter.unusedVariables false

theorem Repeat_any (c : UInt8) (n : Nat) (w : World) (hn : n ≤ 1000) :
    Calls Try.prog 41 #[.string (bs [c]), .int .i64 n] w fun e w' => e = .returned (.string (bs (Lib.repeatL [c] n))) ∧ Ext w w' := by
  have hs : (bs [c]).size = 1 := rfl
  exact Try.strings_Repeat (bs [c]) n w (by omega) (by rw [hs]; omega)
def p1K : Pr := ⟨⟨5, []⟩, List.replicate 16 ⟨1, []⟩⟩
def qK : Pr := ⟨t0, []⟩
def t17 : List Ty := List.replicate 17 t0
theorem RowT.built {w : World} {g : Nat} {T : TypeId} {l : List Ty} (h : w.heap[g]? = some (.cells (l.flatMap fun x => x.vals.toList).toArray T (0, 0))) (hl : l.length ≤ maxLen) (hx : ∀ x ∈ l, x.ok) : RowT w (.slice (some ⟨g, 0, none⟩) l.length l.length) l := by
  refine ⟨_, _, rfl, Nat.le_refl _, hl, (fun h => by cases h), hx, fun _ => ⟨g, 0, rfl, lt_of_get h, fun j hj => ?_⟩⟩
  have e : ∀ i, i < 2 → w.cell? ⟨g, 0 + j * 2 + i, none⟩ = (gt l j).vals[i]? := fun i hi => by
    rw [cell_of_row w g _ _ T (0, 0) h]
    have := cells_at l j i hj hi
    simpa using this
  exact ⟨e 0 (by omega), e 1 (by omega)⟩
theorem type_val (t : Ty) (Z : List UInt8 × Int) (h : writeT t = Z) (hl : t.s.length ≤ 140737488351232) (w : World) :
    Calls Try.prog 20 #[.agg t.vals] w fun e w' => e = .returned (.tuple #[.string (bs Z.1), .int .i64 Z.2]) ∧ Ext w w' := by
  subst h
  exact WriteType_any t w hl
theorem words_val (t : Ty) (k : Int) (h : wordsT t = k) (w : World) :
    Calls Try.prog 28 #[.agg t.vals] w fun e w' => e = .returned (.int .i64 k) ∧ Ext w w' := by
  subst h
  exact Words_any t w
theorem val_val (t : Ty) (k : Int) (h : valT t = k) (w : World) :
    Calls Try.prog 30 #[.agg t.vals] w fun e w' => e = .returned (.int .i64 k) ∧ Ext w w' := by
  subst h
  exact Val_any t w
theorem wproto_val (v : Value) (p : Pr) (Z : List UInt8 × Int) (h : writeP p = Z) (hret : p.ret.s.length ≤ 140737488351232) (w : World) (hr : RowT w v p.args) :
    Calls Try.prog 32 #[.agg (p.vals v)] w fun e w' => e = .returned (.tuple #[.string (bs Z.1), .int .i64 Z.2]) ∧ Ext w w' := by
  subst h
  exact WriteProto_any v p w hr hret
theorem proto_val (l : List UInt8) (p : Pr) (k : Int) (h : protoZ l = (p, k)) (hl : l.length ≤ 140737488351232) (w : World) :
    Calls Try.prog 14 #[.string (bs l)] w fun e w' => ∃ v, e = .returned (.tuple #[.agg (p.vals v), .int .i64 k]) ∧ RowT w' v p.args ∧ Ext w w' := by
  have := Proto_any l hl w
  unfold ProtoAns at this
  rw [h] at this
  exact this
theorem is_val (l : List UInt8) (t : Ty) (h : textT t = l) (ho : okT t = true) (w : World) :
    Calls Try.prog 39 #[.string (bs l), .agg t.vals] w fun e w' => e = .returned (.bool true) ∧ Ext w w' := by
  subst h
  exact is_yes t ho w
theorem two_new (w : World) (o p : Obj) : ((w.alloc o).alloc p).heap[w.heap.size + 1]? = some p := by
  have := heap_alloc_new (w.alloc o) p
  rw [show (w.alloc o).heap.size = w.heap.size + 1 by simp] at this
  exact this
def c17 : Array Value := (t17.flatMap fun x => x.vals.toList).toArray
theorem make17 (W : World) : (Instr.makeSlice 27 (.int .i64 17) (.int .i64 17)).run Try.prog W = .ok (.slice (some ⟨W.heap.size, 0, none⟩) 17 17) (W.alloc (.cells c17 23)) := by
  obtain ⟨i, h1, h2, h3, h4⟩ := info_parts infoT
  have := run_make (P := Try.prog) W 27 23 i _ Try.underlying27 h1 h2 .i64 .i64 17 17 (by decide) (by decide) (by rw [h4]; decide) (by decide)
  rw [h3, show madeCells (Value.agg t0.vals).cells (Int.toNat 17 * 2) = c17 by kernel_rfl] at this
  exact this
set_option maxRecDepth 100000 in
set_option maxHeartbeats 2000000 in
theorem descrKnown_walk (w : World) : Calls Try.prog 11 #[] w (fun e w' => e = .returned (.bool true) ∧ Ext w w') := by
  obtain ⟨N, hN⟩ : ∃ N, N = Lib.repeatL [110] 64 := ⟨_, rfl⟩
  obtain ⟨I6, hI6⟩ : ∃ N, N = Lib.repeatL [73] 16 := ⟨_, rfl⟩
  obtain ⟨I7, hI7⟩ : ∃ N, N = Lib.repeatL [73] 17 := ⟨_, rfl⟩
  have R1 := Lib.hid (fun W => Repeat_any 110 64 W (by decide))
  have R2 := Lib.hid (fun W => Repeat_any 73 16 W (by decide))
  have R3 := Lib.hid (fun W => Repeat_any 73 17 W (by decide))
  rw [← hN] at R1
  rw [← hI6] at R2
  rw [← hI7] at R3
  have ln : N.length = 64 := by rw [hN]; decide +kernel
  have l6 : I6.length = 16 := by rw [hI6]; decide +kernel
  have l7 : I7.length = 17 := by rw [hI7]; decide +kernel
  have n1 : nameB N = true := by rw [hN]; decide +kernel
  have n2 : nameB (N ++ [110]) = false := by rw [hN]; decide +kernel
  have z1 : typeZ (76 :: (N ++ [110, 59])) = (t0, 50) := by rw [hN]; decide +kernel
  have z2 : protoZ (76 :: (N ++ [110, 59])) = (⟨t0, []⟩, 50) := by rw [hN]; decide +kernel
  have z3 : protoZ (40 :: (I6 ++ [41, 91, 74])) = (p1K, 0) := by rw [hI6]; decide +kernel
  have z4 : protoZ (40 :: (I7 ++ [41, 86])) = (qK, 50) := by rw [hI7]; decide +kernel
  have CI := Lib.hid (fun W => is_val (76 :: (N ++ [59])) ⟨3, N⟩ rfl n1 W)
  have CN := Lib.hid (fun W => none_yes (76 :: (N ++ [110, 59])) (by simp [ln]) z1 z2 W)
  have CP : Hid (∀ W, Calls Try.prog 14 #[.string (bs (40 :: (I6 ++ [41, 91, 74])))] W fun e w' => ∃ v, e = .returned (.tuple #[.agg #[.int .i64 5, .string (bs []), v], .int .i64 0]) ∧ RowT w' v p1K.args ∧ Ext W w') := Lib.hid (fun W => proto_val _ _ _ z3 (by simp [l6]) W)
  have CB : Hid (∀ W, Calls Try.prog 14 #[.string (bs (40 :: (I7 ++ [41, 86])))] W fun e w' => ∃ v, e = .returned (.tuple #[.agg #[.int .i64 0, .string (bs []), v], .int .i64 50]) ∧ RowT w' v qK.args ∧ Ext W w') := Lib.hid (fun W => proto_val _ _ _ z4 (by simp [l7]) W)
  have CQ : Hid (∀ W, Calls Try.prog 14 #[.string (bs [40, 41, 86])] W fun e w' => ∃ v, e = .returned (.tuple #[.agg #[.int .i64 0, .string (bs []), v], .int .i64 0]) ∧ RowT w' v qK.args ∧ Ext W w') := Lib.hid (fun W => proto_val [40, 41, 86] qK 0 (by decide +kernel) (by decide) W)
  have CX := Lib.hid (fun W => name_any N true n1 (by omega) W)
  have CY := Lib.hid (fun W => name_any (N ++ [110]) false n2 (by simp [ln]) W)
  have s1 : ∀ W, (Op.stringOp .add ⟨#[76]⟩ (bs N)).run Try.prog W = .ok (.string (bs (76 :: N))) W := fun W => add_bs ⟨#[76]⟩ (bs N) [76] N rfl rfl (by simp [ln]) W
  have s2 : ∀ W, (Op.stringOp .add (bs (76 :: N)) ⟨#[59]⟩).run Try.prog W = .ok (.string (bs (76 :: (N ++ [59])))) W := fun W => add_bs (bs (76 :: N)) ⟨#[59]⟩ (76 :: N) [59] rfl rfl (by simp [ln]) W
  have s3 : ∀ W, (Op.stringOp .add (bs (76 :: N)) ⟨#[110, 59]⟩).run Try.prog W = .ok (.string (bs (76 :: (N ++ [110, 59])))) W := fun W => add_bs (bs (76 :: N)) ⟨#[110, 59]⟩ (76 :: N) [110, 59] rfl rfl (by simp [ln]) W
  have s4 : ∀ W, (Op.stringOp .add (bs N) ⟨#[110]⟩).run Try.prog W = .ok (.string (bs (N ++ [110]))) W := fun W => add_bs (bs N) ⟨#[110]⟩ N [110] rfl rfl (by simp [ln]) W
  have s5 : ∀ W, (Op.stringOp .add ⟨#[40]⟩ (bs I6)).run Try.prog W = .ok (.string (bs (40 :: I6))) W := fun W => add_bs ⟨#[40]⟩ (bs I6) [40] I6 rfl rfl (by simp [l6]) W
  have s6 : ∀ W, (Op.stringOp .add (bs (40 :: I6)) ⟨#[41, 91, 74]⟩).run Try.prog W = .ok (.string (bs (40 :: (I6 ++ [41, 91, 74])))) W := fun W => add_bs (bs (40 :: I6)) ⟨#[41, 91, 74]⟩ (40 :: I6) [41, 91, 74] rfl rfl (by simp [l6]) W
  have s7 : ∀ W, (Op.stringOp .add ⟨#[40]⟩ (bs I7)).run Try.prog W = .ok (.string (bs (40 :: I7))) W := fun W => add_bs ⟨#[40]⟩ (bs I7) [40] I7 rfl rfl (by simp [l7]) W
  have s8 : ∀ W, (Op.stringOp .add (bs (40 :: I7)) ⟨#[41, 86]⟩).run Try.prog W = .ok (.string (bs (40 :: (I7 ++ [41, 86])))) W := fun W => add_bs (bs (40 :: I7)) ⟨#[41, 86]⟩ (40 :: I7) [41, 86] rfl rfl (by simp [l7]) W
  clear hN hI6 hI7 ln l6 l7 n1 n2 z1 z2 z3 z4
  have X0 := Lib.hid (Ext.refl w)
  go_enter Try.func11, Try.ntmps11
  go_wp2_with fail
  refine (R1.out _).mono ?_
  rintro e w1 ⟨rfl, x⟩
  have X1 := Lib.hid ((X0.out).trans x)
  clear x X0
  go_wp2_with fail
  refine (is_val [74] ⟨2, []⟩ rfl rfl _).mono ?_
  rintro e w2 ⟨rfl, x⟩
  have X2 := Lib.hid ((X1.out).trans x)
  clear x X1
  go_wp2_with fail
  refine (is_val [91, 73] ⟨4, []⟩ rfl rfl _).mono ?_
  rintro e w3 ⟨rfl, x⟩
  have X3 := Lib.hid ((X2.out).trans x)
  clear x X2
  go_wp2_with fail
  refine (is_val [91, 74] ⟨5, []⟩ rfl rfl _).mono ?_
  rintro e w4 ⟨rfl, x⟩
  have X4 := Lib.hid ((X3.out).trans x)
  clear x X3
  go_wp2_with fail
  refine (CI.out _).mono ?_
  rintro e w5 ⟨rfl, x⟩
  have X5 := Lib.hid ((X4.out).trans x)
  clear x X4
  go_wp2_with fail
  refine (is_val [76, 95, 59] ⟨3, [95]⟩ rfl rfl _).mono ?_
  rintro e w6 ⟨rfl, x⟩
  have X6 := Lib.hid ((X5.out).trans x)
  clear x X5
  go_wp2_with fail
  refine (none_yes [] (by decide) (by decide +kernel) (by decide +kernel) _).mono ?_
  rintro e w7 ⟨rfl, x⟩
  have X7 := Lib.hid ((X6.out).trans x)
  clear x X6
  go_wp2_with fail
  refine (none_yes [91] (by decide) (by decide +kernel) (by decide +kernel) _).mono ?_
  rintro e w8 ⟨rfl, x⟩
  have X8 := Lib.hid ((X7.out).trans x)
  clear x X7
  go_wp2_with fail
  refine (none_yes [91, 86] (by decide) (by decide +kernel) (by decide +kernel) _).mono ?_
  rintro e w9 ⟨rfl, x⟩
  have X9 := Lib.hid ((X8.out).trans x)
  clear x X8
  go_wp2_with fail
  refine (CN.out _).mono ?_
  rintro e w10 ⟨rfl, x⟩
  have X10 := Lib.hid ((X9.out).trans x)
  clear x X9
  go_wp2_with fail
  refine (none_yes [76, 97] (by decide) (by decide +kernel) (by decide +kernel) _).mono ?_
  rintro e w11 ⟨rfl, x⟩
  have X11 := Lib.hid ((X10.out).trans x)
  clear x X10
  go_wp2_with fail
  refine (none_yes [76, 97, 59, 59] (by decide) (by decide +kernel) (by decide +kernel) _).mono ?_
  rintro e w12 ⟨rfl, x⟩
  have X12 := Lib.hid ((X11.out).trans x)
  clear x X11
  go_wp2_with fail
  refine (none_yes [76, 97, 45, 98, 59] (by decide) (by decide +kernel) (by decide +kernel) _).mono ?_
  rintro e w13 ⟨rfl, x⟩
  have X13 := Lib.hid ((X12.out).trans x)
  clear x X12
  go_wp2_with fail
  refine (none_yes [76, 49, 59] (by decide) (by decide +kernel) (by decide +kernel) _).mono ?_
  rintro e w14 ⟨rfl, x⟩
  have X14 := Lib.hid ((X13.out).trans x)
  clear x X13
  go_wp2_with fail
  refine (none_yes [91, 76, 97] (by decide) (by decide +kernel) (by decide +kernel) _).mono ?_
  rintro e w15 ⟨rfl, x⟩
  have X15 := Lib.hid ((X14.out).trans x)
  clear x X14
  go_wp2_with fail
  refine (none_yes [105] (by decide) (by decide +kernel) (by decide +kernel) _).mono ?_
  rintro e w16 ⟨rfl, x⟩
  have X16 := Lib.hid ((X15.out).trans x)
  clear x X15
  go_wp2_with fail
  refine (none_yes [32, 73] (by decide) (by decide +kernel) (by decide +kernel) _).mono ?_
  rintro e w17 ⟨rfl, x⟩
  have X17 := Lib.hid ((X16.out).trans x)
  clear x X16
  go_wp2_with fail
  refine (none_yes [73, 32] (by decide) (by decide +kernel) (by decide +kernel) _).mono ?_
  rintro e w18 ⟨rfl, x⟩
  have X18 := Lib.hid ((X17.out).trans x)
  clear x X17
  go_wp2_with fail
  refine (none_yes [40] (by decide) (by decide +kernel) (by decide +kernel) _).mono ?_
  rintro e w19 ⟨rfl, x⟩
  have X19 := Lib.hid ((X18.out).trans x)
  clear x X18
  go_wp2_with fail
  refine (none_yes [40, 41] (by decide) (by decide +kernel) (by decide +kernel) _).mono ?_
  rintro e w20 ⟨rfl, x⟩
  have X20 := Lib.hid ((X19.out).trans x)
  clear x X19
  go_wp2_with fail
  refine (none_yes [40, 41, 86, 86] (by decide) (by decide +kernel) (by decide +kernel) _).mono ?_
  rintro e w21 ⟨rfl, x⟩
  have X21 := Lib.hid ((X20.out).trans x)
  clear x X20
  go_wp2_with fail
  refine (none_yes [40, 86, 41, 73] (by decide) (by decide +kernel) (by decide +kernel) _).mono ?_
  rintro e w22 ⟨rfl, x⟩
  have X22 := Lib.hid ((X21.out).trans x)
  clear x X21
  go_wp2_with fail
  refine (none_yes [40, 73, 41] (by decide) (by decide +kernel) (by decide +kernel) _).mono ?_
  rintro e w23 ⟨rfl, x⟩
  have X23 := Lib.hid ((X22.out).trans x)
  clear x X22
  go_wp2_with fail
  refine (none_yes [73, 40, 41, 86] (by decide) (by decide +kernel) (by decide +kernel) _).mono ?_
  rintro e w24 ⟨rfl, x⟩
  have X24 := Lib.hid ((X23.out).trans x)
  clear x X23
  go_wp2_with fail
  refine (none_yes [40, 73, 41, 41, 86] (by decide) (by decide +kernel) (by decide +kernel) _).mono ?_
  rintro e w25 ⟨rfl, x⟩
  have X25 := Lib.hid ((X24.out).trans x)
  clear x X24
  go_wp2_with fail
  refine (none_yes [40, 76, 97, 41, 86] (by decide) (by decide +kernel) (by decide +kernel) _).mono ?_
  rintro e w26 ⟨rfl, x⟩
  have X26 := Lib.hid ((X25.out).trans x)
  clear x X25
  go_wp2_with fail
  refine (R2.out _).mono ?_
  rintro e w27 ⟨rfl, x⟩
  have X27 := Lib.hid ((X26.out).trans x)
  clear x X26
  go_wp2_with fail
  refine (CP.out _).mono ?_
  rintro e w28 ⟨v, rfl, hr, x⟩
  obtain ⟨Ap, kAp, hv, hkAp, hmAp⟩ := hr.cut
  rw [show p1K.args.length = 16 from rfl] at hv hkAp
  subst hv
  unfold maxLen at hmAp
  have X28 := Lib.hid ((X27.out).trans x)
  clear X27
  have RP := Lib.hid (hr.ext ((Ext.refl _).alloc (.cells (p1K.vals (.slice Ap 16 kAp)) 29)))
  have HP := Lib.hid (AtP.of (heap_alloc_new w28 (.cells (p1K.vals (.slice Ap 16 kAp)) 29)))
  have LP := Lib.hid (show w28.heap.size < (w28.alloc (.cells (p1K.vals (.slice Ap 16 kAp)) 29)).heap.size by simp)
  have X28' := Lib.hid (X28.out.alloc (.cells (p1K.vals (.slice Ap 16 kAp)) 29))
  have Y28 := Lib.hid (Ext.refl (w28.alloc (.cells (p1K.vals (.slice Ap 16 kAp)) 29)))
  clear x hr X28
  have X28 := X28'
  clear X28'
  go_wp2_with fail
  refine (R3.out _).mono ?_
  rintro e w29 ⟨rfl, x⟩
  have X29 := Lib.hid ((X28.out).trans x)
  have Y29 := Lib.hid ((Y28.out).trans x)
  clear x X28 Y28
  go_wp2_with fail
  refine (CB.out _).mono ?_
  rintro e w30 ⟨v, rfl, hr, x⟩
  obtain ⟨Ab, kAb, hv, hkAb, hmAb⟩ := hr.cut
  rw [show qK.args.length = 0 from rfl] at hv hkAb
  subst hv
  unfold maxLen at hmAb
  have X30 := Lib.hid ((X29.out).trans x)
  have Y30 := Lib.hid ((Y29.out).trans x)
  clear X29 Y29
  clear x hr
  go_wp2_with fail
  refine (CQ.out _).mono ?_
  rintro e w31 ⟨v, rfl, hr, x⟩
  obtain ⟨Aq, kAq, hv, hkAq, hmAq⟩ := hr.cut
  rw [show qK.args.length = 0 from rfl] at hv hkAq
  subst hv
  unfold maxLen at hmAq
  have X31 := Lib.hid ((X30.out.alloc _).trans x)
  have Y31 := Lib.hid ((Y30.out.alloc _).trans x)
  clear X30 Y30
  have RQ := Lib.hid (hr.ext ((Ext.refl _).alloc (.cells (qK.vals (.slice Aq 0 kAq)) 29)))
  have HQ := Lib.hid (AtP.of (heap_alloc_new w31 (.cells (qK.vals (.slice Aq 0 kAq)) 29)))
  have LQ := Lib.hid (show w31.heap.size < (w31.alloc (.cells (qK.vals (.slice Aq 0 kAq)) 29)).heap.size by simp)
  have X31' := Lib.hid (X31.out.alloc (.cells (qK.vals (.slice Aq 0 kAq)) 29))
  have Y31' := Lib.hid (Y31.out.alloc (.cells (qK.vals (.slice Aq 0 kAq)) 29))
  have Z31 := Lib.hid (Ext.refl (w31.alloc (.cells (qK.vals (.slice Aq 0 kAq)) 29)))
  clear x hr X31 Y31
  have X31 := X31'
  have Y31 := Y31'
  clear X31' Y31'
  obtain ⟨c17', hc17⟩ : ∃ c, c = c17 := ⟨_, rfl⟩
  have hmk := make17
  rw [← hc17] at hmk
  have W17 := Lib.hid (fun (W : World) (o : Obj) => wproto_val (.slice (some ⟨W.heap.size + 1, 0, none⟩) 17 17) ⟨t0, t17⟩ ([], 5) (by decide +kernel) (by decide) ((W.alloc o).alloc (.cells c17' 23)) (by rw [hc17]; exact RowT.built (T := 23) (two_new W o _) (by decide) (fun x hx => by rw [List.eq_of_mem_replicate hx]; exact t0_ok)))
  have W1 := Lib.hid (fun (W : World) => wproto_val (.slice (some ⟨W.heap.size, 0, none⟩) 1 1) ⟨t0, [t0]⟩ ([], 2) (by decide +kernel) (by decide) (W.alloc (.cells #[.int .i64 0, .string ⟨#[]⟩] 23)) (RowT.one (T := 23) (heap_alloc_new W _) t0_ok))
  clear hc17
  go_wp2_with fail
  refine (W17.out w31 _).mono ?_
  rintro e w32 ⟨rfl, x⟩
  have X32 := Lib.hid ((X31.out.alloc _).trans x)
  have Y32 := Lib.hid ((Y31.out.alloc _).trans x)
  have Z32 := Lib.hid (((Ext.refl _).alloc _).trans x)
  clear x X31 Y31 Z31 hmk W17
  go_wp2_with fail
  refine (W1.out w32).mono ?_
  rintro e w33 ⟨rfl, x⟩
  have X33 := Lib.hid ((X32.out.alloc _).trans x)
  have Y33 := Lib.hid ((Y32.out.alloc _).trans x)
  have Z33 := Lib.hid ((Z32.out.alloc _).trans x)
  clear x X32 Y32 Z32
  go_wp2_with fail
  refine (wproto_val (.slice none 0 0) ⟨⟨0, [97]⟩, []⟩ ([], 2) (by decide +kernel) (by decide) _ (RowT.nil _)).mono ?_
  rintro e w34 ⟨rfl, x⟩
  have X34 := Lib.hid ((X33.out).trans x)
  have Y34 := Lib.hid ((Y33.out).trans x)
  have Z34 := Lib.hid ((Z33.out).trans x)
  clear x X33 Y33 Z33
  go_wp2_with fail
  refine (type_val t0 ([], 2) (by decide +kernel) (by decide) _).mono ?_
  rintro e w35 ⟨rfl, x⟩
  have X35 := Lib.hid ((X34.out).trans x)
  have Y35 := Lib.hid ((Y34.out).trans x)
  have Z35 := Lib.hid ((Z34.out).trans x)
  clear x X34 Y34 Z34
  go_wp2_with fail
  refine (type_val ⟨1, [97]⟩ ([], 2) (by decide +kernel) (by decide) _).mono ?_
  rintro e w36 ⟨rfl, x⟩
  have X36 := Lib.hid ((X35.out).trans x)
  have Y36 := Lib.hid ((Y35.out).trans x)
  have Z36 := Lib.hid ((Z35.out).trans x)
  clear x X35 Y35 Z35
  go_wp2_with fail
  refine (type_val ⟨3, []⟩ ([], 2) (by decide +kernel) (by decide) _).mono ?_
  rintro e w37 ⟨rfl, x⟩
  have X37 := Lib.hid ((X36.out).trans x)
  have Y37 := Lib.hid ((Y36.out).trans x)
  have Z37 := Lib.hid ((Z36.out).trans x)
  clear x X36 Y36 Z36
  go_wp2_with fail
  refine (type_val ⟨7, []⟩ ([], 2) (by decide +kernel) (by decide) _).mono ?_
  rintro e w38 ⟨rfl, x⟩
  have X38 := Lib.hid ((X37.out).trans x)
  have Y38 := Lib.hid ((Y37.out).trans x)
  have Z38 := Lib.hid ((Z37.out).trans x)
  clear x X37 Y37 Z37
  obtain ⟨p0, p1, p2⟩ := HP.out.ext Y38.out LP.out
  obtain ⟨q0, q1, q2⟩ := HQ.out.ext Z38.out LQ.out
  unfold p1K at p0 p1
  unfold qK at q0 q1
  simp only [t0] at p0 p1 q0 q1
  go_wp2_with fail
  refine (name_any [65] true (by decide +kernel) (by decide) _).mono ?_
  rintro e w39 ⟨rfl, x⟩
  have X39 := Lib.hid ((X38.out).trans x)
  have Y39 := Lib.hid ((Y38.out).trans x)
  have Z39 := Lib.hid ((Z38.out).trans x)
  clear x X38 Y38 Z38
  go_wp2_with fail
  refine (name_any [122, 57, 36, 95] true (by decide +kernel) (by decide) _).mono ?_
  rintro e w40 ⟨rfl, x⟩
  have X40 := Lib.hid ((X39.out).trans x)
  have Y40 := Lib.hid ((Y39.out).trans x)
  have Z40 := Lib.hid ((Z39.out).trans x)
  clear x X39 Y39 Z39
  go_wp2_with fail
  refine (name_any [] false (by decide +kernel) (by decide) _).mono ?_
  rintro e w41 ⟨rfl, x⟩
  have X41 := Lib.hid ((X40.out).trans x)
  have Y41 := Lib.hid ((Y40.out).trans x)
  have Z41 := Lib.hid ((Z40.out).trans x)
  clear x X40 Y40 Z40
  go_wp2_with fail
  refine (name_any [57] false (by decide +kernel) (by decide) _).mono ?_
  rintro e w42 ⟨rfl, x⟩
  have X42 := Lib.hid ((X41.out).trans x)
  have Y42 := Lib.hid ((Y41.out).trans x)
  have Z42 := Lib.hid ((Z41.out).trans x)
  clear x X41 Y41 Z41
  go_wp2_with fail
  refine (name_any [97, 46, 98] false (by decide +kernel) (by decide) _).mono ?_
  rintro e w43 ⟨rfl, x⟩
  have X43 := Lib.hid ((X42.out).trans x)
  have Y43 := Lib.hid ((Y42.out).trans x)
  have Z43 := Lib.hid ((Z42.out).trans x)
  clear x X42 Y42 Z42
  go_wp2_with fail
  refine (name_any [195, 164] false (by decide +kernel) (by decide) _).mono ?_
  rintro e w44 ⟨rfl, x⟩
  have X44 := Lib.hid ((X43.out).trans x)
  have Y44 := Lib.hid ((Y43.out).trans x)
  have Z44 := Lib.hid ((Z43.out).trans x)
  clear x X43 Y43 Z43
  go_wp2_with fail
  refine (CX.out _).mono ?_
  rintro e w45 ⟨rfl, x⟩
  have X45 := Lib.hid ((X44.out).trans x)
  have Y45 := Lib.hid ((Y44.out).trans x)
  have Z45 := Lib.hid ((Z44.out).trans x)
  clear x X44 Y44 Z44
  go_wp2_with fail
  refine (CY.out _).mono ?_
  rintro e w46 ⟨rfl, x⟩
  have X46 := Lib.hid ((X45.out).trans x)
  have Y46 := Lib.hid ((Y45.out).trans x)
  have Z46 := Lib.hid ((Z45.out).trans x)
  clear x X45 Y45 Z45
  go_wp2_with fail
  refine (words_val t0 0 (by decide +kernel) _).mono ?_
  rintro e w47 ⟨rfl, x⟩
  have X47 := Lib.hid ((X46.out).trans x)
  have Y47 := Lib.hid ((Y46.out).trans x)
  have Z47 := Lib.hid ((Z46.out).trans x)
  clear x X46 Y46 Z46
  go_wp2_with fail
  refine (words_val ⟨7, []⟩ 0 (by decide +kernel) _).mono ?_
  rintro e w48 ⟨rfl, x⟩
  have X48 := Lib.hid ((X47.out).trans x)
  have Y48 := Lib.hid ((Y47.out).trans x)
  have Z48 := Lib.hid ((Z47.out).trans x)
  clear x X47 Y47 Z47
  go_wp2_with fail
  refine (words_val ⟨-1, []⟩ 0 (by decide +kernel) _).mono ?_
  rintro e w49 ⟨rfl, x⟩
  have X49 := Lib.hid ((X48.out).trans x)
  have Y49 := Lib.hid ((Y48.out).trans x)
  have Z49 := Lib.hid ((Z48.out).trans x)
  clear x X48 Y48 Z48
  go_wp2_with fail
  refine (val_val t0 0 (by decide +kernel) _).mono ?_
  rintro e w50 ⟨rfl, x⟩
  have X50 := Lib.hid ((X49.out).trans x)
  have Y50 := Lib.hid ((Y49.out).trans x)
  have Z50 := Lib.hid ((Z49.out).trans x)
  clear x X49 Y49 Z49
  go_wp2_with fail
  refine (val_val ⟨2, []⟩ 2 (by decide +kernel) _).mono ?_
  rintro e w51 ⟨rfl, x⟩
  have X51 := Lib.hid ((X50.out).trans x)
  have Y51 := Lib.hid ((Y50.out).trans x)
  have Z51 := Lib.hid ((Z50.out).trans x)
  clear x X50 Y50 Z50
  go_wp2_with fail
  refine (val_val ⟨6, []⟩ 3 (by decide +kernel) _).mono ?_
  rintro e w52 ⟨rfl, x⟩
  have X52 := Lib.hid ((X51.out).trans x)
  have Y52 := Lib.hid ((Y51.out).trans x)
  have Z52 := Lib.hid ((Z51.out).trans x)
  clear x X51 Y51 Z51
  clear p0 p1 p2 q0 q1 q2
  obtain ⟨p0, p1, p2⟩ := HP.out.ext Y52.out LP.out
  obtain ⟨q0, q1, q2⟩ := HQ.out.ext Z52.out LQ.out
  unfold p1K at p0 p1
  unfold qK at q0 q1
  simp only [t0] at p0 p1 q0 q1
  have e1 := SameProto_any _ _ p1K p1K w52 (RP.out.ext Y52.out) (RP.out.ext Y52.out)
  rw [show eqP p1K p1K = true by decide +kernel] at e1
  have E1 := Lib.hid e1
  clear e1
  go_wp2_with fail
  refine (E1.out).mono ?_
  rintro e w53 ⟨rfl, x⟩
  have X53 := Lib.hid ((X52.out).trans x)
  have Y53 := Lib.hid ((Y52.out).trans x)
  have Z53 := Lib.hid ((Z52.out).trans x)
  clear x X52 Y52 Z52
  clear p0 p1 p2 q0 q1 q2
  obtain ⟨p0, p1, p2⟩ := HP.out.ext Y53.out LP.out
  obtain ⟨q0, q1, q2⟩ := HQ.out.ext Z53.out LQ.out
  unfold p1K at p0 p1
  unfold qK at q0 q1
  simp only [t0] at p0 p1 q0 q1
  have e2 := SameProto_any _ _ p1K qK w53 (RP.out.ext Y53.out) (RQ.out.ext Z53.out)
  rw [show eqP p1K qK = false by decide +kernel] at e2
  have E2 := Lib.hid e2
  clear e2
  go_wp2_with fail
  refine (E2.out).mono ?_
  rintro e w54 ⟨rfl, x⟩
  have X54 := Lib.hid ((X53.out).trans x)
  have Y54 := Lib.hid ((Y53.out).trans x)
  have Z54 := Lib.hid ((Z53.out).trans x)
  clear x X53 Y53 Z53
  go_wp2_with fail
  refine (works_any _).mono ?_
  rintro e w55 ⟨rfl, x⟩
  have X55 := Lib.hid ((X54.out).trans x)
  have Y55 := Lib.hid ((Y54.out).trans x)
  have Z55 := Lib.hid ((Z54.out).trans x)
  clear x X54 Y54 Z54
  go_wp2
  go_ret
  exact ⟨rfl, X55.out⟩
set_option maxRecDepth 100000 in
theorem descrKnown_lifted (os : Os) (started : os.Started) (H : Type) (enc : TypeId × Value → H) :
    ReturnsInHanded {} Try.checked os 11 .any (Rows.descrKnownSpec.pre6 enc Try.prog Try.f11 Rows.descrKnownRow.domain false) (Rows.descrKnownSpec.post enc Try.prog Try.f11 false true false false) := by
  refine returnsInHanded_of_change_sized (C := Try.checked) own started (by kernel_rfl) Try.func11
    (ChangeSpec.witness6 (enc := enc) (C := Try.checked) false ⟨#[], #[], []⟩ 8 (by kernel_rfl) (by kernel_rfl) (by kernel_rfl) (by kernel_rfl)) ?_
  intro W base args ds gs before hval0 hW hcnd hsz0 _
  have hval : ∀ (j : Nat) t v, Try.f11.params[j]? = some t → args[j]? = some v → Value.okWide Try.prog W .any base t v := hval0
  have hsz : (DataW.weightsEach Try.prog (Try.f11.params.toList ++ Rows.descrKnownSpec.plain.varTypes Try.prog) (ds ++ gs)).all (· ≤ reachBytes) = true := hsz0
  have hW' := hW
  obtain ⟨p, q, hA0, hV, rfl, hfz, hnd⟩ := hW
  have hA : DataW.TrodAll enc Try.prog W 0 (fun _ => true) true Try.f11.params.toList args.toList ds p := hA0
  rw [Try.params11] at hA hval hsz
  obtain ⟨rfl, rfl, rfl⟩ := trodAll_none hA
  obtain ⟨rfl, rfl⟩ := trodVars_none hV
  clear hA0 hval0 hsz0
  refine (descrKnown_walk W ).mono fun e W' ⟨he, bel⟩ => ?_
  subst he
  exact ⟨_, rfl, _, _, _, [], _, [], hW', trodAll_mk1 (shut_bool Try.underlying4 _), trodAll_mk0, rfl, bel.frame _, fun h => by cases h⟩

theorem descrKnown_over : Rows.descrKnownRow.holds Try.pinned (OpenSpec.ofChange Rows.descrKnownSpec) :=
  OpenClaim.holds_of_wide 11 Try.f11 rfl rfl rfl rfl rfl rfl rfl ⟨rfl, rfl, rfl, rfl, rfl⟩ rfl rfl rfl rfl rfl (by kernel_rfl) Try.func11 (by kernel_rfl)
    (of_decide_eq_true (by kernel_rfl)) (by unfold Func.isWrapper; first | (rw [if_pos (by decide +kernel)]; kernel_rfl) | (rw [if_neg (by decide +kernel)]; exact ⟨rfl, rfl⟩))
    (fun os started H enc _ => descrKnown_lifted os started H enc)

/-- The statement. -/
theorem descrKnown_proved : Rows.DescrKnownSaid := descrKnown_over
#print axioms descrKnown_proved
end Go.Proofs.Ytibcaienaejgpaa
