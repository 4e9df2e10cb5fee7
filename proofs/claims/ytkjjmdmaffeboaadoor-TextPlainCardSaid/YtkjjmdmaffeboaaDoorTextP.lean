/- Package text, the leaves: a byte behind the first one, a character's bytes, how many they are. -/
import Derived.Test.YtkjjmdmaffeboaaDoorEq
import Derived.Test.YtkjjmdmaffeboaaDoorTextSpec
import Derived.Test.YtkjjmdmaffeboaaDoorTextBits
namespace Go.Proofs.YtkjjmdmaffeboaaDoor
open Go.RowKit
set_option linter.unusedVariables false

theorem nextByte_any (r : Int) (w : World) (h0 : 0 ≤ r) (h1 : r ≤ 1114111) :
    Calls Tryd.prog 33 #[.int .i32 r] w fun e w' => e = .returned (.int .u8 (128 + r % 64)) ∧ w = w' := by
  have b1 := b32_and63 r h0 (by omega)
  have b2 := b8_or128 (r % 64) (by omega) (by omega)
  have b3 : r % 64 % 256 = r % 64 := by omega
  go_enter Tryd.func33, Tryd.ntmps33
  go_wp2
  go_ret
  exact ⟨rfl, rfl⟩

theorem sizeOf_6 (r : Int) (w : World) (h0 : 65536 ≤ r) (h1 : r ≤ 1114111) :
    Calls Tryd.prog 26 #[.int .i32 r] w fun e w' => e = .returned (.int .i64 6) ∧ w = w' := by
  go_enter Tryd.func26, Tryd.ntmps26
  go_wp2
  go_ret
  exact ⟨rfl, rfl⟩

theorem sizeOf_3 (r : Int) (w : World) (h0 : 2048 ≤ r) (h1 : r ≤ 65535) :
    Calls Tryd.prog 26 #[.int .i32 r] w fun e w' => e = .returned (.int .i64 3) ∧ w = w' := by
  go_enter Tryd.func26, Tryd.ntmps26
  go_wp2
  go_ret
  exact ⟨rfl, rfl⟩

theorem sizeOf_2 (r : Int) (w : World) (h0 : 128 ≤ r) (h1 : r ≤ 2047) :
    Calls Tryd.prog 26 #[.int .i32 r] w fun e w' => e = .returned (.int .i64 2) ∧ w = w' := by
  go_enter Tryd.func26, Tryd.ntmps26
  go_wp2
  go_ret
  exact ⟨rfl, rfl⟩

theorem sizeOf_1 (r : Int) (w : World) (h0 : 1 ≤ r) (h1 : r ≤ 127) :
    Calls Tryd.prog 26 #[.int .i32 r] w fun e w' => e = .returned (.int .i64 1) ∧ w = w' := by
  have hb : (r == 0) = false := by simp; omega
  go_enter Tryd.func26, Tryd.ntmps26
  go_wp2
  go_ret
  exact ⟨rfl, rfl⟩

theorem sizeOf_0 (w : World) : Calls Tryd.prog 26 #[.int .i32 0] w fun e w' => e = .returned (.int .i64 2) ∧ w = w' := by
  go_enter Tryd.func26, Tryd.ntmps26
  go_wp2
  go_ret
  exact ⟨rfl, rfl⟩
theorem sizeOf_any (r : Int) (w : World) (h0 : 0 ≤ r) (h1 : r ≤ 1114111) :
    Calls Tryd.prog 26 #[.int .i32 r] w fun e w' => e = .returned (.int .i64 (ch r).length) ∧ w = w' := by
  refine ch_cases (P := fun r l => Calls Tryd.prog 26 #[.int .i32 r] w fun e w' => e = .returned (.int .i64 l.length) ∧ w = w') r h0 h1 ?_ ?_ ?_ ?_
  · intro a b; exact sizeOf_1 r w a b
  · intro a b
    by_cases h : r = 0
    · subst h; exact sizeOf_0 w
    · exact sizeOf_2 r w (by omega) b
  · intro a b; exact sizeOf_3 r w a b
  · intro a; exact sizeOf_6 r w a h1

theorem grown_alloc {w w' : World} {o : Obj} {row : Option Nat} (h : (w.alloc o).grownBy w' row) : w.grownBy w' row :=
  ⟨h.os, h.tape, h.output, by have := h.size; simp at this; omega, fun k hk hne => (h.block k (by simp; omega) hne).trans (heap_alloc_old w o hk)⟩
theorem grown_trans {a b c : World} {r r1 : Option Nat} (h : a.grownBy b r) (k : b.grownBy c r1) (hr : r1 = r ∨ ∃ g, a.heap.size ≤ g ∧ r1 = some g) : a.grownBy c r :=
  ⟨k.os.trans h.os, k.tape.trans h.tape, k.output.trans h.output, Nat.le_trans h.size k.size, fun i hi hne => by
    rw [k.block i (Nat.lt_of_lt_of_le hi h.size) (by
      rcases hr with rfl | ⟨g, hg, rfl⟩
      · exact hne
      · intro e; injection e with e; omega)]
    exact h.block i hi hne⟩
/-- A slice over an array variable of the call's own, from its head on, with so much room behind it. -/
def RoomAt (T : TypeId) (B : Nat) (w : World) (v : Value) (l : List Int) (n : Nat) : Prop :=
  ∃ g cap cur, v = .slice (some ⟨g, 0, none⟩) l.length cap ∧ B ≤ g ∧ w.heap[g]? = some (.cells cur T (0, 0)) ∧ l.length + n ≤ cap ∧ cap ≤ maxLen ∧ cur.size = cap ∧ cur.toList.take l.length = l.map (Value.int .u8) ∧ Fit .u8 l
/-- A slice that may be added to: a row of the call's own, or an array variable of its own, with room. -/
def Has (T : Option TypeId) (B : Nat) (w : World) (v : Value) (l : List Int) (n : Nat) : Prop :=
  match T with
  | none => Own B w 5 .u8 v l ∧ l.length + n ≤ 140737488355328
  | some T => RoomAt T B w v l n
theorem RoomAt.lt {T : TypeId} {B : Nat} {w : World} {v : Value} {l : List Int} {n : Nat} (h : RoomAt T B w v l n) : ∃ g, v.ownBlock = some g ∧ g < w.heap.size ∧ B ≤ g := by
  obtain ⟨g, cap, cur, rfl, hb, hg, _⟩ := h
  exact ⟨g, rfl, lt_of_get hg, hb⟩
theorem RoomAt.row {T : TypeId} {B : Nat} {w : World} {v : Value} {l : List Int} {n : Nat} (h : RoomAt T B w v l n) : Row w .u8 v l := by
  obtain ⟨g, cap, cur, rfl, hb, hg, hn, hm, hs, ht, hf⟩ := h
  refine ⟨_, _, rfl, by omega, hm, (fun h => by cases h), hf, fun _ => ⟨g, 0, rfl, lt_of_get hg, fun j hj => ?_⟩⟩
  have hj' : j < cur.size := by omega
  have e1 : (cur.toList.take l.length)[j]? = (l.map (Value.int .u8))[j]? := by rw [ht]
  rw [List.getElem?_take_of_lt (by omega)] at e1
  simp [hj, hj'] at e1
  rw [cell_of_row w g (0 + j) cur T (0, 0) hg]
  simp [gi, hj, hj', e1]
theorem Has.row {T : Option TypeId} {B : Nat} {w : World} {v : Value} {l : List Int} {n : Nat} (h : Has T B w v l n) : Row w .u8 v l := by
  cases T with
  | none => exact h.1.row
  | some T => exact RoomAt.row h
theorem Has.kept {T : Option TypeId} {B : Nat} {w w' : World} {v : Value} {l : List Int} {n : Nat} (h : Has T B w v l n) {row : Option Nat} (hg : w.grownBy w' row) (hne : ∀ g, v.ownBlock = some g → row ≠ some g) : Has T B w' v l n := by
  cases T with
  | none =>
    refine ⟨⟨h.1.1.kept hg ?_, h.1.2⟩, h.2⟩
    cases hv : v.ownBlock with
    | none => exact .inl rfl
    | some g => exact .inr (fun e => hne g hv e.symm)
  | some T =>
    obtain ⟨g, cap, cur, rfl, hb, hgg, hr⟩ := h
    exact ⟨g, cap, cur, rfl, hb, (hg.block g (lt_of_get hgg) (fun e => hne g rfl e.symm)).trans hgg, hr⟩
theorem Has.alloc {T : Option TypeId} {B : Nat} {w : World} {v : Value} {l : List Int} {n : Nat} (h : Has T B w v l n) (o : Obj) : Has T B (w.alloc o) v l n :=
  h.kept (World.grownBy_alloc w o none) (fun _ _ => by simp)
theorem run_has {P : Program} (w : World) (B : Nat) (T : Option TypeId) (t ty : TypeId) (ht : P.underlying t = some (.slice 5))
    (hi : (P.info? 5).map (fun i => (i.zero, i.size, i.bytes)) = some (some (.int .u8 0), 1, 1)) (v : Value) (l : List Int) (n : Nat) (x : Value) (m : List Int) (ho : Has T B w v l (m.length + n)) (hr : Row w .u8 x m) (hm : 0 < m.length) (hB : B ≤ w.heap.size) :
    ∃ v' w', (Builtin.append_ #[t, t] ty #[v, x]).run P w = .ok v' w' ∧ Has T B w' v' (l ++ m) n ∧ w.grownBy w' v.ownBlock ∧ (v'.ownBlock = v.ownBlock ∨ v'.ownBlock = some w.heap.size) := by
  cases T with
  | none =>
    obtain ⟨ho, hl⟩ := ho
    obtain ⟨v', w', h1, h2, h3, h4⟩ := run_app (P := P) w B t ty 5 (.int .u8 0) 1 .u8 ht hi rfl v l ho x m hr (by omega) (by omega) hB
    exact ⟨v', w', h1, ⟨h2, by rw [List.length_append]; omega⟩, h3, h4⟩
  | some T =>
    obtain ⟨i, hi1, hi2, hi3, hi4⟩ := info_parts hi
    obtain ⟨g, cap, cur, rfl, hb, hg, hn, hcm, hs, htk, hf⟩ := ho
    obtain ⟨A, c, rfl, h2, h3, h4, h5, h6⟩ := hr
    obtain ⟨b, o, rfl, _, hc⟩ := h6 hm
    have hcells : ∀ j u, (m.map (Value.int .u8))[j]? = some u → w.cell? ((⟨b, o, none⟩ : Addr).add j) = some u := by
      intro j u hu
      have hj : j < m.length := by
        have := (List.getElem?_eq_some_iff.1 hu).1
        simpa using this
      rw [Addr.add_lit, hc j hj]
      simp [hj] at hu
      simp [gi, hj, ← hu]
    have hf1 := run_firstCells_some (P := P) w i.size m.length ⟨b, o, none⟩ m.length c (m.map (Value.int .u8)) (by simp [hi3]) hcells
    have hst := run_storeCells_at P g l.length T (m.map (Value.int .u8)) 0 cur w hg (by simp; omega) (ints_one .u8 m)
    simp only [Nat.add_zero] at hst
    have hroom : l.length + m.length ≤ cap := by omega
    obtain ⟨C, hC⟩ : ∃ C, C = (List.take l.length cur.toList ++ List.map (Value.int .u8) m ++ List.drop (l.length + (List.map (Value.int .u8) m).length) cur.toList).toArray := ⟨_, rfl⟩
    rw [← hC] at hst
    have hrun : (Builtin.append_ #[t, t] ty #[.slice (some ⟨g, 0, none⟩) l.length cap, .slice (some ⟨b, o, none⟩) m.length c]).run P w = .ok (.slice (some ⟨g, 0, none⟩) (l ++ m).length cap) (w.setRow g C) := by
      rw [hi3] at hf1
      simp [Builtin.append_, run_underlying ht, sizeOf, typeInfo, hi1, hi3, Builtin.lenOf, hroom, hf1, Addr.add_lit, hst]
    have hCs : C.size = cap := by
      rw [hC]
      simp
      omega
    have hCt : C.toList.take (l ++ m).length = (l ++ m).map (Value.int .u8) := by
      rw [hC, List.toList_toArray, htk, List.length_append, List.map_append]
      have e : l.length + m.length = (l.map (Value.int .u8) ++ m.map (Value.int .u8)).length := by simp
      rw [e, List.take_left]
    refine ⟨_, _, hrun, ⟨g, cap, C, rfl, hb, setRow_heap w g cur C T (0, 0) hg, by rw [List.length_append]; omega, hcm, hCs, hCt, hf.app h5⟩, ⟨rfl, rfl, rfl, by simp, fun k _ hk => setRow_other w g k C (fun e => hk (by simp [Value.ownBlock, e]))⟩, .inl rfl⟩
theorem wpList_has {P : Program} (w : World) {ops : Array Oper} {rest : List Oper} {o : Oper} {a : Act} {Q : Exit → Act → World → Prop} (hgd : Region.wanted o (yielded ops a.tmps) = true) (s y : Operand) (B : Nat) (T : Option TypeId) (t : TypeId)
    (hop : o.op = .call { callee := .builtin .append, args := #[s, y], argTypes := #[t, t] }) (ht : P.underlying t = some (.slice 5))
    (hi : (P.info? 5).map (fun i => (i.zero, i.size, i.bytes)) = some (some (.int .u8 0), 1, 1))
    (v : Value) (l : List Int) (n : Nat) (hs : a.eval s = v) (x : Value) (m : List Int) (ho : Has T B w v l (m.length + n)) (hx : a.eval y = x) (hr : Row w .u8 x m) (hm : 0 < m.length) (hB : B ≤ w.heap.size)
    (h : ∀ v' w', Has T B w' v' (l ++ m) n → w.grownBy w' v.ownBlock → (v'.ownBlock = v.ownBlock ∨ v'.ownBlock = some w.heap.size) → wpList P ops Q rest (a.put o.dst v') w') :
    wpList P ops Q (o :: rest) a w := by
  refine wpList_step fun K hK => ?_
  rw [if_pos hgd]
  obtain ⟨v', w', hrun, h2, h3, h4⟩ := run_has (P := P) w B T t o.type ht hi v l n x m ho hr hm hB
  unfold Oper.wp execOp
  simp only [hop, resolve, invoke, builtin, Sem.run_bind, Sem.run_pure, Result.andThen_ok, List.map_toArray, List.map_cons, List.map_nil, hs, hx, hrun]
  exact hK _ _ (h v' w' h2 h3 h4)

/-- A slice has more behind it. -/
def Put (T : Option TypeId) (B : Nat) (w : World) (v : Value) (l : List Int) (n : Nat) (e : Ending) (w' : World) : Prop :=
  ∃ v', e = .returned v' ∧ Has T B w' v' l n ∧ w.grownBy w' v.ownBlock ∧ (v'.ownBlock = v.ownBlock ∨ ∃ g, w.heap.size ≤ g ∧ v'.ownBlock = some g)

theorem put_1 (T : Option TypeId) (v : Value) (l : List Int) (n : Nat) (r : Int) (B : Nat) (w : World) (ho : Has T B w v l (1 + n)) (hB : B ≤ w.heap.size) (h0 : 1 ≤ r) (h1 : r ≤ 127) :
    Calls Tryd.prog 23 #[v, .int .i32 r] w (Put T B w v (l ++ [r]) n) := by
  have hb : (r == 0) = false := by simp; omega
  have b3 : r % 256 = r := by omega
  go_enter Tryd.func23, Tryd.ntmps23
  go_wp2_with (first | (go_at_call 33; refine (nextByte_any _ _ (by omega) (by omega)).mono ?_; rintro e w1 ⟨rfl, rfl⟩) | (at_builtin; go_loud (refine wpList_has _ rfl _ _ B T 22 rfl Tryd.underlying22 info8 v _ n rfl _ [r] (Has.alloc ho _) rfl (Row.built _ _ _ [r] (by intro x hx; simp only [List.mem_cons, List.not_mem_nil, or_false] at hx; exact wf_u8 (by omega) (by omega)) (by simp)) (by simp) (by simp; omega) ?_)))
  intro v' w2 ho2 hg2 hb2
  go_wp2
  go_ret
  refine ⟨_, rfl, ho2, grown_alloc hg2, ?_⟩
  rcases hb2 with h | h
  · exact .inl h
  · exact .inr ⟨_, by simp, h⟩
theorem put_2 (T : Option TypeId) (v : Value) (l : List Int) (n : Nat) (r : Int) (B : Nat) (w : World) (ho : Has T B w v l (2 + n)) (hB : B ≤ w.heap.size) (h0 : 128 ≤ r) (h1 : r ≤ 2047) :
    Calls Tryd.prog 23 #[v, .int .i32 r] w (Put T B w v (l ++ [192 + r / 64, 128 + r % 64]) n) := by
  have b1 := b8_or192 (r / 64) (by omega) (by omega)
  have b3 : r / 64 % 256 = r / 64 := by omega
  go_enter Tryd.func23, Tryd.ntmps23
  go_wp2_with (first | (go_at_call 33; refine (nextByte_any _ _ (by omega) (by omega)).mono ?_; rintro e w1 ⟨rfl, rfl⟩) | (at_builtin; go_loud (refine wpList_has _ rfl _ _ B T 22 rfl Tryd.underlying22 info8 v _ n rfl _ [192 + r / 64, 128 + r % 64] (Has.alloc ho _) rfl (Row.built _ _ _ [192 + r / 64, 128 + r % 64] (by intro x hx; simp only [List.mem_cons, List.not_mem_nil, or_false] at hx; exact wf_u8 (by omega) (by omega)) (by simp)) (by simp) (by simp; omega) ?_)))
  intro v' w2 ho2 hg2 hb2
  go_wp2
  go_ret
  refine ⟨_, rfl, ho2, grown_alloc hg2, ?_⟩
  rcases hb2 with h | h
  · exact .inl h
  · exact .inr ⟨_, by simp, h⟩
theorem put_3 (T : Option TypeId) (v : Value) (l : List Int) (n : Nat) (r : Int) (B : Nat) (w : World) (ho : Has T B w v l (3 + n)) (hB : B ≤ w.heap.size) (h0 : 2048 ≤ r) (h1 : r ≤ 65535) :
    Calls Tryd.prog 23 #[v, .int .i32 r] w (Put T B w v (l ++ [224 + r / 4096, 128 + r / 64 % 64, 128 + r % 64]) n) := by
  have b1 := b8_or224 (r / 4096) (by omega) (by omega)
  have b3 : r / 4096 % 256 = r / 4096 := by omega
  go_enter Tryd.func23, Tryd.ntmps23
  go_wp2_with (first | (go_at_call 33; refine (nextByte_any _ _ (by omega) (by omega)).mono ?_; rintro e w1 ⟨rfl, rfl⟩) | (at_builtin; go_loud (refine wpList_has _ rfl _ _ B T 22 rfl Tryd.underlying22 info8 v _ n rfl _ [224 + r / 4096, 128 + r / 64 % 64, 128 + r % 64] (Has.alloc ho _) rfl (Row.built _ _ _ [224 + r / 4096, 128 + r / 64 % 64, 128 + r % 64] (by intro x hx; simp only [List.mem_cons, List.not_mem_nil, or_false] at hx; exact wf_u8 (by omega) (by omega)) (by simp)) (by simp) (by simp; omega) ?_)))
  intro v' w2 ho2 hg2 hb2
  go_wp2
  go_ret
  refine ⟨_, rfl, ho2, grown_alloc hg2, ?_⟩
  rcases hb2 with h | h
  · exact .inl h
  · exact .inr ⟨_, by simp, h⟩
theorem put_0 (T : Option TypeId) (v : Value) (l : List Int) (n : Nat) (B : Nat) (w : World) (ho : Has T B w v l (2 + n)) (hB : B ≤ w.heap.size) :
    Calls Tryd.prog 23 #[v, .int .i32 0] w (Put T B w v (l ++ [192, 128]) n) := by
  have b1 := b8_or192 0 (by omega) (by omega)
  go_enter Tryd.func23, Tryd.ntmps23
  go_wp2_with (first | (go_at_call 33; refine (nextByte_any _ _ (by omega) (by omega)).mono ?_; rintro e w1 ⟨rfl, rfl⟩) | (at_builtin; go_loud (refine wpList_has _ rfl _ _ B T 22 rfl Tryd.underlying22 info8 v _ n rfl _ [192, 128] (Has.alloc ho _) rfl (Row.built _ _ _ [192, 128] (by intro x hx; simp only [List.mem_cons, List.not_mem_nil, or_false] at hx; exact wf_u8 (by omega) (by omega)) (by simp)) (by simp) (by simp; omega) ?_)))
  intro v' w2 ho2 hg2 hb2
  go_wp2
  go_ret
  refine ⟨_, rfl, ho2, grown_alloc hg2, ?_⟩
  rcases hb2 with h | h
  · exact .inl h
  · exact .inr ⟨_, by simp, h⟩

theorem put_6 (T : Option TypeId) (v : Value) (l : List Int) (n : Nat) (r : Int) (B : Nat) (w : World) (ho : Has T B w v l (6 + n)) (hB : B ≤ w.heap.size) (h0 : 65536 ≤ r) (h1 : r ≤ 1114111) :
    Calls Tryd.prog 23 #[v, .int .i32 r] w (Put T B w v (l ++ ch r) n) := by
  have ho6 : Has T B w v l (3 + (3 + n)) := by rw [show 3 + (3 + n) = 6 + n by omega]; exact ho
  obtain ⟨s, hs⟩ : ∃ s, s = 56320 + (r - 65536) % 1024 := ⟨_, rfl⟩
  have hs0 : 56320 ≤ s := by omega
  have hs1 : s ≤ 57343 := by omega
  have b0 := b32_and1023 (r - 65536) (by omega) (by omega)
  have b4 : 56320 + (r - 65536) % 1024 = s := hs.symm
  have b1 := b8_or224 (s / 4096) (by omega) (by omega)
  have b3 : s / 4096 % 256 = s / 4096 := by omega
  have HS := Lib.hid hs
  clear hs
  go_enter Tryd.func23, Tryd.ntmps23
  go_wp2_with (go_at_call 23; refine (put_3 T v l (3 + n) (55296 + (r - 65536) / 1024) B _ (by exact ho6) hB (by omega) (by omega)).mono ?_; rintro e w1 ⟨v1, rfl, ho1, hg1, hb1⟩)
  have hB1 := Nat.le_trans hB hg1.size
  go_wp2_with (first | (go_at_call 33; refine (nextByte_any _ _ (by omega) (by omega)).mono ?_; rintro e w1 ⟨rfl, rfl⟩) | (at_builtin; go_loud (refine wpList_has _ rfl _ _ B T 22 rfl Tryd.underlying22 info8 v1 _ n rfl _ [224 + s / 4096, 128 + s / 64 % 64, 128 + s % 64] (Has.alloc ho1 _) rfl (Row.built _ _ _ [224 + s / 4096, 128 + s / 64 % 64, 128 + s % 64] (by intro x hx; simp only [List.mem_cons, List.not_mem_nil, or_false] at hx; exact wf_u8 (by omega) (by omega)) (by simp)) (by simp) (by simp; omega) ?_)))
  intro v' w2 ho2 hg2 hb2
  go_wp2
  go_ret
  refine ⟨_, rfl, ?_, grown_trans hg1 (grown_alloc hg2) hb1, ?_⟩
  · have e : l ++ ch r = l ++ [224 + (55296 + (r - 65536) / 1024) / 4096, 128 + (55296 + (r - 65536) / 1024) / 64 % 64, 128 + (55296 + (r - 65536) / 1024) % 64, 224 + s / 4096, 128 + s / 64 % 64, 128 + s % 64] := by
      rw [ch6 (by omega), ← HS.out]
      simp [th]
    rw [e]
    exact ho2
  · show v'.ownBlock = v.ownBlock ∨ ∃ g, w.heap.size ≤ g ∧ v'.ownBlock = some g
    rcases hb2 with h | h
    · rw [h]; exact hb1
    · exact .inr ⟨_, by have := hg1.size; simp; omega, h⟩
theorem put_any (T : Option TypeId) (v : Value) (l : List Int) (n : Nat) (r : Int) (B : Nat) (w : World) (ho : Has T B w v l ((ch r).length + n)) (hB : B ≤ w.heap.size) (h0 : 0 ≤ r) (h1 : r ≤ 1114111) :
    Calls Tryd.prog 23 #[v, .int .i32 r] w (Put T B w v (l ++ ch r) n) := by
  by_cases a1 : 1 ≤ r ∧ r ≤ 127
  · rw [ch1 a1] at ho ⊢; exact put_1 T v l n r B w ho hB a1.1 a1.2
  · by_cases a2 : r ≤ 2047
    · rw [ch2 a1 a2] at ho ⊢
      by_cases a0 : r = 0
      · subst a0; exact put_0 T v l n B w ho hB
      · exact put_2 T v l n r B w ho hB (by omega) a2
    · by_cases a3 : r ≤ 65535
      · rw [ch3 (by omega) a3] at ho ⊢; exact put_3 T v l n r B w ho hB (by omega) a3
      · exact put_6 T v l n r B w (by rw [ch6 (by omega)] at ho; exact ho) hB (by omega) h1
end Go.Proofs.YtkjjmdmaffeboaaDoor
