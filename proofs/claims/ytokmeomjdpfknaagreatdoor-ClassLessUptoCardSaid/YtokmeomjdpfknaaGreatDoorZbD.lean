/- Several texts of this proof, one behind the other. -/
import Derived.Test.YtokmeomjdpfknaaGreatDoorZbA
import Derived.Test.YtokmeomjdpfknaaGreatDoorZbB
namespace Go.Proofs.YtokmeomjdpfknaaGreatDoor
open Go.RowKit
set_option linter.unusedVariables false

theorem nextByte_any (r : Int) (w : World) (h0 : 0 ≤ r) (h1 : r ≤ 1114111) :
    Calls Tryz.prog 196 #[.int .i32 r] w fun e w' => e = .returned (.int .u8 (128 + r % 64)) ∧ w = w' := by
  have b1 := b32_and63 r h0 (by omega)
  have b2 := b8_or128 (r % 64) (by omega) (by omega)
  have b3 : r % 64 % 256 = r % 64 := by omega
  go_enter Tryz.func196, Tryz.ntmps196
  go_wp2
  go_ret
  exact ⟨rfl, rfl⟩

theorem sizeOf_6 (r : Int) (w : World) (h0 : 65536 ≤ r) (h1 : r ≤ 1114111) :
    Calls Tryz.prog 194 #[.int .i32 r] w fun e w' => e = .returned (.int .i64 6) ∧ w = w' := by
  go_enter Tryz.func194, Tryz.ntmps194
  go_wp2
  go_ret
  exact ⟨rfl, rfl⟩

theorem sizeOf_3 (r : Int) (w : World) (h0 : 2048 ≤ r) (h1 : r ≤ 65535) :
    Calls Tryz.prog 194 #[.int .i32 r] w fun e w' => e = .returned (.int .i64 3) ∧ w = w' := by
  go_enter Tryz.func194, Tryz.ntmps194
  go_wp2
  go_ret
  exact ⟨rfl, rfl⟩

theorem sizeOf_2 (r : Int) (w : World) (h0 : 128 ≤ r) (h1 : r ≤ 2047) :
    Calls Tryz.prog 194 #[.int .i32 r] w fun e w' => e = .returned (.int .i64 2) ∧ w = w' := by
  go_enter Tryz.func194, Tryz.ntmps194
  go_wp2
  go_ret
  exact ⟨rfl, rfl⟩

theorem sizeOf_1 (r : Int) (w : World) (h0 : 1 ≤ r) (h1 : r ≤ 127) :
    Calls Tryz.prog 194 #[.int .i32 r] w fun e w' => e = .returned (.int .i64 1) ∧ w = w' := by
  have hb : (r == 0) = false := by simp; omega
  go_enter Tryz.func194, Tryz.ntmps194
  go_wp2
  go_ret
  exact ⟨rfl, rfl⟩

theorem sizeOf_0 (w : World) : Calls Tryz.prog 194 #[.int .i32 0] w fun e w' => e = .returned (.int .i64 2) ∧ w = w' := by
  go_enter Tryz.func194, Tryz.ntmps194
  go_wp2
  go_ret
  exact ⟨rfl, rfl⟩
theorem sizeOf_any (r : Int) (w : World) (h0 : 0 ≤ r) (h1 : r ≤ 1114111) :
    Calls Tryz.prog 194 #[.int .i32 r] w fun e w' => e = .returned (.int .i64 (ch r).length) ∧ w = w' := by
  refine ch_cases (P := fun r l => Calls Tryz.prog 194 #[.int .i32 r] w fun e w' => e = .returned (.int .i64 l.length) ∧ w = w') r h0 h1 ?_ ?_ ?_ ?_
  · intro a b; exact sizeOf_1 r w a b
  · intro a b
    by_cases h : r = 0
    · subst h; exact sizeOf_0 w
    · exact sizeOf_2 r w (by omega) b
  · intro a b; exact sizeOf_3 r w a b
  · intro a; exact sizeOf_6 r w a h1

theorem grown_alloc {w w' : World} {o : Obj} {row : Option Nat} (h : (w.alloc o).grownBy w' row) : w.grownBy w' row :=
  ⟨h.os, h.tape, h.output, by have := h.size; simp at this; omega, fun k hk hne => (h.block k (by simp; omega) hne).trans (heap_alloc_old w o hk)⟩
theorem grown_transP {a b c : World} {r r1 : Option Nat} (h : a.grownBy b r) (k : b.grownBy c r1) (hr : r1 = r ∨ ∃ g, a.heap.size ≤ g ∧ r1 = some g) : a.grownBy c r :=
  ⟨k.os.trans h.os, k.tape.trans h.tape, k.output.trans h.output, Nat.le_trans h.size k.size, fun i hi hne => by
    rw [k.block i (Nat.lt_of_lt_of_le hi h.size) (by
      rcases hr with rfl | ⟨g, hg, rfl⟩
      · exact hne
      · intro e; injection e with e; omega)]
    exact h.block i hi hne⟩
def RoomAt (T : TypeId) (B : Nat) (w : World) (v : Value) (l : List Int) (n : Nat) : Prop :=
  ∃ g cap cur, v = .slice (some ⟨g, 0, none⟩) l.length cap ∧ B ≤ g ∧ w.heap[g]? = some (.cells cur T (0, 0)) ∧ l.length + n ≤ cap ∧ cap ≤ maxLen ∧ cur.size = cap ∧ cur.toList.take l.length = l.map (Value.int .u8) ∧ Fit .u8 l
def Has (T : Option TypeId) (B : Nat) (w : World) (v : Value) (l : List Int) (n : Nat) : Prop :=
  match T with
  | none => Own B w 5 .u8 v l ∧ l.length + n ≤ 140737488355328
  | some T => RoomAt T B w v l n
theorem RoomAt.lt {T : TypeId} {B : Nat} {w : World} {v : Value} {l : List Int} {n : Nat} (h : RoomAt T B w v l n) : ∃ g, v.ownBlock = some g ∧ g < w.heap.size ∧ B ≤ g := by
  obtain ⟨g, cap, cur, rfl, hb, hg, _⟩ := h
  exact ⟨g, rfl, lt_of_get hg, hb⟩
theorem RoomAt.row {T : TypeId} {B : Nat} {w : World} {v : Value} {l : List Int} {n : Nat} (h : RoomAt T B w v l n) : Row w .u8 v l := by
  obtain ⟨g, cap, cur, rfl, hb, hg, hn, hm, hs, ht, hf⟩ := h
  refine ⟨_, _, rfl, by omega, hm, (fun h => by cases h), hf, fun _ => ⟨g, 0, rfl, lt_of_get hg, fun j hj => ?_⟩⟩
  have hj' : j < cur.size := by omega
  have e1 : (cur.toList.take l.length)[j]? = (l.map (Value.int .u8))[j]? := by rw [ht]
  rw [List.getElem?_take_of_lt (by omega)] at e1
  simp [hj, hj'] at e1
  rw [cell_of_row w g (0 + j) cur T (0, 0) hg]
  simp [gi, hj, hj', e1]
theorem Has.row {T : Option TypeId} {B : Nat} {w : World} {v : Value} {l : List Int} {n : Nat} (h : Has T B w v l n) : Row w .u8 v l := by
  cases T with
  | none => exact h.1.row
  | some T => exact RoomAt.row h
theorem Has.kept {T : Option TypeId} {B : Nat} {w w' : World} {v : Value} {l : List Int} {n : Nat} (h : Has T B w v l n) {row : Option Nat} (hg : w.grownBy w' row) (hne : ∀ g, v.ownBlock = some g → row ≠ some g) : Has T B w' v l n := by
  cases T with
  | none =>
    refine ⟨⟨h.1.1.kept hg ?_, h.1.2⟩, h.2⟩
    cases hv : v.ownBlock with
    | none => exact .inl rfl
    | some g => exact .inr (fun e => hne g hv e.symm)
  | some T =>
    obtain ⟨g, cap, cur, rfl, hb, hgg, hr⟩ := h
    exact ⟨g, cap, cur, rfl, hb, (hg.block g (lt_of_get hgg) (fun e => hne g rfl e.symm)).trans hgg, hr⟩
theorem Has.alloc {T : Option TypeId} {B : Nat} {w : World} {v : Value} {l : List Int} {n : Nat} (h : Has T B w v l n) (o : Obj) : Has T B (w.alloc o) v l n :=
  h.kept (World.grownBy_alloc w o none) (fun _ _ => by simp)
theorem run_has {P : Program} (w : World) (B : Nat) (T : Option TypeId) (t ty : TypeId) (ht : P.underlying t = some (.slice 5))
    (hi : (P.info? 5).map (fun i => (i.zero, i.size, i.bytes)) = some (some (.int .u8 0), 1, 1)) (v : Value) (l : List Int) (n : Nat) (x : Value) (m : List Int) (ho : Has T B w v l (m.length + n)) (hr : Row w .u8 x m) (hm : 0 < m.length) (hB : B ≤ w.heap.size) :
    ∃ v' w', (Builtin.append_ #[t, t] ty #[v, x]).run P w = .ok v' w' ∧ Has T B w' v' (l ++ m) n ∧ w.grownBy w' v.ownBlock ∧ (v'.ownBlock = v.ownBlock ∨ v'.ownBlock = some w.heap.size) := by
  cases T with
  | none =>
    obtain ⟨ho, hl⟩ := ho
    obtain ⟨v', w', h1, h2, h3, h4⟩ := run_app (P := P) w B t ty 5 (.int .u8 0) 1 .u8 ht hi rfl v l ho x m hr (by omega) (by omega) hB
    exact ⟨v', w', h1, ⟨h2, by rw [List.length_append]; omega⟩, h3, h4⟩
  | some T =>
    obtain ⟨i, hi1, hi2, hi3, hi4⟩ := info_parts hi
    obtain ⟨g, cap, cur, rfl, hb, hg, hn, hcm, hs, htk, hf⟩ := ho
    obtain ⟨A, c, rfl, h2, h3, h4, h5, h6⟩ := hr
    obtain ⟨b, o, rfl, _, hc⟩ := h6 hm
    have hcells : ∀ j u, (m.map (Value.int .u8))[j]? = some u → w.cell? ((⟨b, o, none⟩ : Addr).add j) = some u := by
      intro j u hu
      have hj : j < m.length := by
        have := (List.getElem?_eq_some_iff.1 hu).1
        simpa using this
      rw [Addr.add_lit, hc j hj]
      simp [hj] at hu
      simp [gi, hj, ← hu]
    have hf1 := run_firstCells_some (P := P) w i.size m.length ⟨b, o, none⟩ m.length c (m.map (Value.int .u8)) (by simp [hi3]) hcells
    have hst := run_storeCells_at P g l.length T (m.map (Value.int .u8)) 0 cur w hg (by simp; omega) (ints_one .u8 m)
    simp only [Nat.add_zero] at hst
    have hroom : l.length + m.length ≤ cap := by omega
    obtain ⟨C, hC⟩ : ∃ C, C = (List.take l.length cur.toList ++ List.map (Value.int .u8) m ++ List.drop (l.length + (List.map (Value.int .u8) m).length) cur.toList).toArray := ⟨_, rfl⟩
    rw [← hC] at hst
    have hrun : (Builtin.append_ #[t, t] ty #[.slice (some ⟨g, 0, none⟩) l.length cap, .slice (some ⟨b, o, none⟩) m.length c]).run P w = .ok (.slice (some ⟨g, 0, none⟩) (l ++ m).length cap) (w.setRow g C) := by
      rw [hi3] at hf1
      simp [Builtin.append_, run_underlying ht, sizeOf, typeInfo, hi1, hi3, Builtin.lenOf, hroom, hf1, Addr.add_lit, hst]
    have hCs : C.size = cap := by
      rw [hC]
      simp
      omega
    have hCt : C.toList.take (l ++ m).length = (l ++ m).map (Value.int .u8) := by
      rw [hC, List.toList_toArray, htk, List.length_append, List.map_append]
      have e : l.length + m.length = (l.map (Value.int .u8) ++ m.map (Value.int .u8)).length := by simp
      rw [e, List.take_left]
    refine ⟨_, _, hrun, ⟨g, cap, C, rfl, hb, setRow_heap w g cur C T (0, 0) hg, by rw [List.length_append]; omega, hcm, hCs, hCt, hf.app h5⟩, ⟨rfl, rfl, rfl, by simp, fun k _ hk => setRow_other w g k C (fun e => hk (by simp [Value.ownBlock, e]))⟩, .inl rfl⟩
theorem wpList_has {P : Program} (w : World) {ops : Array Oper} {rest : List Oper} {o : Oper} {a : Act} {Q : Exit → Act → World → Prop} (hgd : Region.wanted o (yielded ops a.tmps) = true) (s y : Operand) (B : Nat) (T : Option TypeId) (t : TypeId)
    (hop : o.op = .call { callee := .builtin .append, args := #[s, y], argTypes := #[t, t] }) (ht : P.underlying t = some (.slice 5))
    (hi : (P.info? 5).map (fun i => (i.zero, i.size, i.bytes)) = some (some (.int .u8 0), 1, 1))
    (v : Value) (l : List Int) (n : Nat) (hs : a.eval s = v) (x : Value) (m : List Int) (ho : Has T B w v l (m.length + n)) (hx : a.eval y = x) (hr : Row w .u8 x m) (hm : 0 < m.length) (hB : B ≤ w.heap.size)
    (h : ∀ v' w', Has T B w' v' (l ++ m) n → w.grownBy w' v.ownBlock → (v'.ownBlock = v.ownBlock ∨ v'.ownBlock = some w.heap.size) → wpList P ops Q rest (a.put o.dst v') w') :
    wpList P ops Q (o :: rest) a w := by
  refine wpList_step fun K hK => ?_
  rw [if_pos hgd]
  obtain ⟨v', w', hrun, h2, h3, h4⟩ := run_has (P := P) w B T t o.type ht hi v l n x m ho hr hm hB
  unfold Oper.wp execOp
  simp only [hop, resolve, invoke, builtin, Sem.run_bind, Sem.run_pure, Result.andThen_ok, List.map_toArray, List.map_cons, List.map_nil, hs, hx, hrun]
  exact hK _ _ (h v' w' h2 h3 h4)

def Put (T : Option TypeId) (B : Nat) (w : World) (v : Value) (l : List Int) (n : Nat) (e : Ending) (w' : World) : Prop :=
  ∃ v', e = .returned v' ∧ Has T B w' v' l n ∧ w.grownBy w' v.ownBlock ∧ (v'.ownBlock = v.ownBlock ∨ ∃ g, w.heap.size ≤ g ∧ v'.ownBlock = some g)

theorem put_1 (T : Option TypeId) (v : Value) (l : List Int) (n : Nat) (r : Int) (B : Nat) (w : World) (ho : Has T B w v l (1 + n)) (hB : B ≤ w.heap.size) (h0 : 1 ≤ r) (h1 : r ≤ 127) :
    Calls Tryz.prog 164 #[v, .int .i32 r] w (Put T B w v (l ++ [r]) n) := by
  have hb : (r == 0) = false := by simp; omega
  have b3 : r % 256 = r := by omega
  go_enter Tryz.func164, Tryz.ntmps164
  go_wp2_with (first | (go_at_call 196; refine (nextByte_any _ _ (by omega) (by omega)).mono ?_; rintro e w1 ⟨rfl, rfl⟩) | (at_builtin; go_loud (refine wpList_has _ rfl _ _ B T 29 rfl Tryz.underlying29 info8 v _ n rfl _ [r] (Has.alloc ho _) rfl (Row.built _ _ _ [r] (by intro x hx; simp only [List.mem_cons, List.not_mem_nil, or_false] at hx; exact wf_u8 (by omega) (by omega)) (by simp)) (by simp) (by simp; omega) ?_)))
  intro v' w2 ho2 hg2 hb2
  go_wp2
  go_ret
  refine ⟨_, rfl, ho2, grown_alloc hg2, ?_⟩
  rcases hb2 with h | h
  · exact .inl h
  · exact .inr ⟨_, by simp, h⟩
theorem put_2 (T : Option TypeId) (v : Value) (l : List Int) (n : Nat) (r : Int) (B : Nat) (w : World) (ho : Has T B w v l (2 + n)) (hB : B ≤ w.heap.size) (h0 : 128 ≤ r) (h1 : r ≤ 2047) :
    Calls Tryz.prog 164 #[v, .int .i32 r] w (Put T B w v (l ++ [192 + r / 64, 128 + r % 64]) n) := by
  have b1 := b8_or192 (r / 64) (by omega) (by omega)
  have b3 : r / 64 % 256 = r / 64 := by omega
  go_enter Tryz.func164, Tryz.ntmps164
  go_wp2_with (first | (go_at_call 196; refine (nextByte_any _ _ (by omega) (by omega)).mono ?_; rintro e w1 ⟨rfl, rfl⟩) | (at_builtin; go_loud (refine wpList_has _ rfl _ _ B T 29 rfl Tryz.underlying29 info8 v _ n rfl _ [192 + r / 64, 128 + r % 64] (Has.alloc ho _) rfl (Row.built _ _ _ [192 + r / 64, 128 + r % 64] (by intro x hx; simp only [List.mem_cons, List.not_mem_nil, or_false] at hx; exact wf_u8 (by omega) (by omega)) (by simp)) (by simp) (by simp; omega) ?_)))
  intro v' w2 ho2 hg2 hb2
  go_wp2
  go_ret
  refine ⟨_, rfl, ho2, grown_alloc hg2, ?_⟩
  rcases hb2 with h | h
  · exact .inl h
  · exact .inr ⟨_, by simp, h⟩
theorem put_3 (T : Option TypeId) (v : Value) (l : List Int) (n : Nat) (r : Int) (B : Nat) (w : World) (ho : Has T B w v l (3 + n)) (hB : B ≤ w.heap.size) (h0 : 2048 ≤ r) (h1 : r ≤ 65535) :
    Calls Tryz.prog 164 #[v, .int .i32 r] w (Put T B w v (l ++ [224 + r / 4096, 128 + r / 64 % 64, 128 + r % 64]) n) := by
  have b1 := b8_or224 (r / 4096) (by omega) (by omega)
  have b3 : r / 4096 % 256 = r / 4096 := by omega
  go_enter Tryz.func164, Tryz.ntmps164
  go_wp2_with (first | (go_at_call 196; refine (nextByte_any _ _ (by omega) (by omega)).mono ?_; rintro e w1 ⟨rfl, rfl⟩) | (at_builtin; go_loud (refine wpList_has _ rfl _ _ B T 29 rfl Tryz.underlying29 info8 v _ n rfl _ [224 + r / 4096, 128 + r / 64 % 64, 128 + r % 64] (Has.alloc ho _) rfl (Row.built _ _ _ [224 + r / 4096, 128 + r / 64 % 64, 128 + r % 64] (by intro x hx; simp only [List.mem_cons, List.not_mem_nil, or_false] at hx; exact wf_u8 (by omega) (by omega)) (by simp)) (by simp) (by simp; omega) ?_)))
  intro v' w2 ho2 hg2 hb2
  go_wp2
  go_ret
  refine ⟨_, rfl, ho2, grown_alloc hg2, ?_⟩
  rcases hb2 with h | h
  · exact .inl h
  · exact .inr ⟨_, by simp, h⟩
theorem put_0 (T : Option TypeId) (v : Value) (l : List Int) (n : Nat) (B : Nat) (w : World) (ho : Has T B w v l (2 + n)) (hB : B ≤ w.heap.size) :
    Calls Tryz.prog 164 #[v, .int .i32 0] w (Put T B w v (l ++ [192, 128]) n) := by
  have b1 := b8_or192 0 (by omega) (by omega)
  go_enter Tryz.func164, Tryz.ntmps164
  go_wp2_with (first | (go_at_call 196; refine (nextByte_any _ _ (by omega) (by omega)).mono ?_; rintro e w1 ⟨rfl, rfl⟩) | (at_builtin; go_loud (refine wpList_has _ rfl _ _ B T 29 rfl Tryz.underlying29 info8 v _ n rfl _ [192, 128] (Has.alloc ho _) rfl (Row.built _ _ _ [192, 128] (by intro x hx; simp only [List.mem_cons, List.not_mem_nil, or_false] at hx; exact wf_u8 (by omega) (by omega)) (by simp)) (by simp) (by simp; omega) ?_)))
  intro v' w2 ho2 hg2 hb2
  go_wp2
  go_ret
  refine ⟨_, rfl, ho2, grown_alloc hg2, ?_⟩
  rcases hb2 with h | h
  · exact .inl h
  · exact .inr ⟨_, by simp, h⟩

theorem put_6 (T : Option TypeId) (v : Value) (l : List Int) (n : Nat) (r : Int) (B : Nat) (w : World) (ho : Has T B w v l (6 + n)) (hB : B ≤ w.heap.size) (h0 : 65536 ≤ r) (h1 : r ≤ 1114111) :
    Calls Tryz.prog 164 #[v, .int .i32 r] w (Put T B w v (l ++ ch r) n) := by
  have ho6 : Has T B w v l (3 + (3 + n)) := by rw [show 3 + (3 + n) = 6 + n by omega]; exact ho
  obtain ⟨s, hs⟩ : ∃ s, s = 56320 + (r - 65536) % 1024 := ⟨_, rfl⟩
  have hs0 : 56320 ≤ s := by omega
  have hs1 : s ≤ 57343 := by omega
  have b0 := b32_and1023 (r - 65536) (by omega) (by omega)
  have b4 : 56320 + (r - 65536) % 1024 = s := hs.symm
  have b1 := b8_or224 (s / 4096) (by omega) (by omega)
  have b3 : s / 4096 % 256 = s / 4096 := by omega
  have HS := Lib.hid hs
  clear hs
  go_enter Tryz.func164, Tryz.ntmps164
  go_wp2_with (go_at_call 164; refine (put_3 T v l (3 + n) (55296 + (r - 65536) / 1024) B _ (by exact ho6) hB (by omega) (by omega)).mono ?_; rintro e w1 ⟨v1, rfl, ho1, hg1, hb1⟩)
  have hB1 := Nat.le_trans hB hg1.size
  go_wp2_with (first | (go_at_call 196; refine (nextByte_any _ _ (by omega) (by omega)).mono ?_; rintro e w1 ⟨rfl, rfl⟩) | (at_builtin; go_loud (refine wpList_has _ rfl _ _ B T 29 rfl Tryz.underlying29 info8 v1 _ n rfl _ [224 + s / 4096, 128 + s / 64 % 64, 128 + s % 64] (Has.alloc ho1 _) rfl (Row.built _ _ _ [224 + s / 4096, 128 + s / 64 % 64, 128 + s % 64] (by intro x hx; simp only [List.mem_cons, List.not_mem_nil, or_false] at hx; exact wf_u8 (by omega) (by omega)) (by simp)) (by simp) (by simp; omega) ?_)))
  intro v' w2 ho2 hg2 hb2
  go_wp2
  go_ret
  refine ⟨_, rfl, ?_, grown_transP hg1 (grown_alloc hg2) hb1, ?_⟩
  · have e : l ++ ch r = l ++ [224 + (55296 + (r - 65536) / 1024) / 4096, 128 + (55296 + (r - 65536) / 1024) / 64 % 64, 128 + (55296 + (r - 65536) / 1024) % 64, 224 + s / 4096, 128 + s / 64 % 64, 128 + s % 64] := by
      rw [ch6 (by omega), ← HS.out]
      simp [th]
    rw [e]
    exact ho2
  · show v'.ownBlock = v.ownBlock ∨ ∃ g, w.heap.size ≤ g ∧ v'.ownBlock = some g
    rcases hb2 with h | h
    · rw [h]; exact hb1
    · exact .inr ⟨_, by have := hg1.size; simp; omega, h⟩
theorem put_anyP (T : Option TypeId) (v : Value) (l : List Int) (n : Nat) (r : Int) (B : Nat) (w : World) (ho : Has T B w v l ((ch r).length + n)) (hB : B ≤ w.heap.size) (h0 : 0 ≤ r) (h1 : r ≤ 1114111) :
    Calls Tryz.prog 164 #[v, .int .i32 r] w (Put T B w v (l ++ ch r) n) := by
  by_cases a1 : 1 ≤ r ∧ r ≤ 127
  · rw [ch1 a1] at ho ⊢; exact put_1 T v l n r B w ho hB a1.1 a1.2
  · by_cases a2 : r ≤ 2047
    · rw [ch2 a1 a2] at ho ⊢
      by_cases a0 : r = 0
      · subst a0; exact put_0 T v l n B w ho hB
      · exact put_2 T v l n r B w ho hB (by omega) a2
    · by_cases a3 : r ≤ 65535
      · rw [ch3 (by omega) a3] at ho ⊢; exact put_3 T v l n r B w ho hB (by omega) a3
      · exact put_6 T v l n r B w (by rw [ch6 (by omega)] at ho; exact ho) hB (by omega) h1
end Go.Proofs.YtokmeomjdpfknaaGreatDoor
namespace Go.Proofs.YtokmeomjdpfknaaGreatDoor
open Go.RowKit
set_option linter.unusedVariables false

def At0 (w : World) (g : Nat) (y : Cst) : Prop :=
  w.cell? ⟨g, 0, none⟩ = some (.int .i64 y.k) ∧ w.cell? ⟨g, 1, none⟩ = some (.string y.t) ∧ w.cell? ⟨g, 2, none⟩ = some (.int .i64 y.n) ∧ w.cell? ⟨g, 3, none⟩ = some (.int .i64 y.a) ∧ w.cell? ⟨g, 4, none⟩ = some (.int .i64 y.b) ∧ w.cell? ⟨g, 5, none⟩ = some (.int .i64 y.c)
theorem At0.of {w : World} {g : Nat} {y : Cst} {T : TypeId} (h : w.heap[g]? = some (.cells y.vals T (0, 0))) : At0 w g y := by
  refine ⟨?_, ?_, ?_, ?_, ?_, ?_⟩
  all_goals
    rw [cell_of_row w g _ _ T (0, 0) h]
    rfl
theorem At0.ext {w w' : World} {g : Nat} {y : Cst} (h : At0 w g y) (he : Ext w w') (hg : g < w.heap.size) : At0 w' g y := by
  obtain ⟨h0, h1, h2, h3, h4, h5⟩ := h
  exact ⟨(he.cell (p := ⟨g, 0, none⟩) hg).trans h0, (he.cell (p := ⟨g, 1, none⟩) hg).trans h1, (he.cell (p := ⟨g, 2, none⟩) hg).trans h2, (he.cell (p := ⟨g, 3, none⟩) hg).trans h3, (he.cell (p := ⟨g, 4, none⟩) hg).trans h4, (he.cell (p := ⟨g, 5, none⟩) hg).trans h5⟩
theorem At0.grown {w w' : World} {g : Nat} {y : Cst} {r : Option Nat} (h : At0 w g y) (hg : w.grownBy w' r) (hlt : g < w.heap.size) (hne : r ≠ some g) : At0 w' g y := by
  have e := hg.block g hlt (fun e => hne e.symm)
  obtain ⟨h0, h1, h2, h3, h4, h5⟩ := h
  exact ⟨(World.cell?_of_block (w := w) (a := ⟨g, 0, none⟩) e).trans h0, (World.cell?_of_block (w := w) (a := ⟨g, 1, none⟩) e).trans h1, (World.cell?_of_block (w := w) (a := ⟨g, 2, none⟩) e).trans h2, (World.cell?_of_block (w := w) (a := ⟨g, 3, none⟩) e).trans h3, (World.cell?_of_block (w := w) (a := ⟨g, 4, none⟩) e).trans h4, (World.cell?_of_block (w := w) (a := ⟨g, 5, none⟩) e).trans h5⟩
end Go.Proofs.YtokmeomjdpfknaaGreatDoor
namespace Go.Proofs.YtokmeomjdpfknaaGreatDoor
open Go.RowKit
set_option linter.unusedVariables false

def OwnC (B : Nat) (w : World) (T : TypeId) (v : Value) (l : List Cst) : Prop := w.ownsRow B T 6 v l.length (l.flatMap fun x => x.vals.toList) ∧ ∀ x ∈ l, x.ok
theorem vals_lenP (x : Cst) : x.vals.toList.length = 6 := rfl
theorem cells_lenP (l : List Cst) : (l.flatMap fun x => x.vals.toList).length = l.length * 6 := by
  induction l with
  | nil => rfl
  | cons x l ih => rw [List.flatMap_cons, List.length_append, ih, vals_lenP, List.length_cons]; omega
theorem cells_atP : ∀ (l : List Cst) (j i : Nat), j < l.length → i < 6 → (l.flatMap fun x => x.vals.toList)[j * 6 + i]? = (gc l j).vals[i]? := by
  intro l
  induction l with
  | nil => intro j i h; simp at h
  | cons x l ih =>
    intro j i hj hi
    rw [List.flatMap_cons]
    match j with
    | 0 =>
      rw [List.getElem?_append_left (by rw [vals_lenP]; omega)]
      simp [gc]
    | j + 1 =>
      rw [List.getElem?_append_right (by rw [vals_lenP]; omega), vals_lenP, show (j + 1) * 6 + i - 6 = j * 6 + i by omega, ih j i (by simpa using hj) hi]
      simp [gc]
theorem OwnC.row {B : Nat} {w : World} {T : TypeId} {v : Value} {l : List Cst} (h : OwnC B w T v l) : RowC w v l := by
  obtain ⟨⟨h1, h2⟩, hf⟩ := h
  rcases h2 with ⟨rfl, h0⟩ | ⟨g, cap, cur, rfl, hb, hg, hn, hm, hs, ht⟩
  · exact ⟨none, 0, by rw [h0], by omega, by simp [maxLen], fun _ => rfl, hf, fun hp => by omega⟩
  · refine ⟨_, _, rfl, hn, hm, (fun h => by cases h), hf, fun _ => ⟨g, 0, rfl, lt_of_get hg, fun j hj => ?_⟩⟩
    have hx : ∀ i, i < 6 → w.cell? ⟨g, j * 6 + i, none⟩ = (gc l j).vals[i]? := fun i hi => by
      have e1 := cells_atP l j i hj hi
      rw [← ht, List.getElem?_take_of_lt (by omega)] at e1
      rw [cell_of_row w g _ cur T (0, 0) hg, ← e1]
      simp
    rw [Nat.zero_add]
    exact ⟨hx 0 (by omega), hx 1 (by omega), hx 2 (by omega), hx 3 (by omega), hx 4 (by omega), hx 5 (by omega)⟩
theorem OwnC.nil (B : Nat) (w : World) (T : TypeId) : OwnC B w T (.slice none 0 0) [] := ⟨World.ownsRow_nil w B T 6, fun _ h => by cases h⟩
theorem OwnC.ext {B : Nat} {w w' : World} {T : TypeId} {v : Value} {l : List Cst} (h : OwnC B w T v l) (he : Ext w w') : OwnC B w' T v l := by
  obtain ⟨⟨h1, h2⟩, hf⟩ := h
  refine ⟨⟨h1, ?_⟩, hf⟩
  rcases h2 with h2 | ⟨g, cap, cur, hv, hb, hg, hr⟩
  · exact .inl h2
  · exact .inr ⟨g, cap, cur, hv, hb, (he.block g (lt_of_get hg)).trans hg, hr⟩
theorem OwnC.low {B : Nat} {w : World} {T : TypeId} {v : Value} {l : List Cst} (h : OwnC B w T v l) : ∀ g, v.ownBlock = some g → B ≤ g := fun g hg => (World.ownsRow.lt h.1 g hg).1
theorem OwnC.kept {B : Nat} {w w' : World} {T : TypeId} {v : Value} {l : List Cst} (h : OwnC B w T v l) {row : Option Nat} (hg : w.grownBy w' row) (hne : ∀ g, v.ownBlock = some g → row ≠ some g) : OwnC B w' T v l := by
  obtain ⟨⟨h1, h2⟩, hf⟩ := h
  refine ⟨⟨h1, ?_⟩, hf⟩
  rcases h2 with h2 | ⟨g, cap, cur, hv, hb, hg', hr⟩
  · exact .inl h2
  · refine .inr ⟨g, cap, cur, hv, hb, (hg.block g (lt_of_get hg') ?_).trans hg', hr⟩
    exact fun e => hne g (by rw [hv]; rfl) e.symm

end Go.Proofs.YtokmeomjdpfknaaGreatDoor
