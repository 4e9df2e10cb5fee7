/- Great arrays by value: made, stored and read whole, not cell by cell. -/
import Derived.Test.YthobicnhophdlaaOpsA
import Derived.Deep.WholeRow
namespace Go.Proofs.Ythobicnhophdlaa
open Go.RowKit
set_option linter.unusedVariables false

theorem wpList_alloc_row {P : Program} {ops : Array Oper} {rest : List Oper} {o : Oper} {a : Act} {w : World} {Q : Exit → Act → World → Prop} (hg : o.guard = none) (t : TypeId) (hop : o.op = .alloc t) (z : Array Value) (n : Nat)
    (hi : (P.info? t).map (fun i => (i.zero, i.size)) = some (some (.agg z), n)) (hn : z.size = n)
    (h : wpList P ops Q rest (a.put o.dst (.pointer (some ⟨w.heap.size, 0, none⟩))) (w.alloc (.cells z t))) : wpList P ops Q (o :: rest) a w := by
  refine wpList_plain hg fun K hK => ?_
  have hz := (zero_of_info (P := P) hi).1
  have e1 : (Instr.alloc t true (.tuple #[])).run P w = .ok (.pointer (some ⟨w.heap.size, 0, none⟩)) (w.alloc (.cells z t)) := by
    simp [Instr.alloc, hz, go_sem, Value.cells]
  unfold Oper.wp execOp
  simp only [hop, Sem.run_bind, e1, Result.andThen_ok, Sem.run_pure]
  exact hK _ _ h
/-- A call without arguments, by its contract, in a plain region. -/
theorem wpList_call0 {P : Program} {ops : Array Oper} {rest : List Oper} {o : Oper} {a : Act} {w : World} {Q : Exit → Act → World → Prop} (hg : o.guard = none) (f : FuncId)
    (hop : o.op = .call { callee := .value (.func f), args := #[], argTypes := #[] }) (hrun : (callFunc f #[]).run P w = .ok (.enter f #[]) w)
    (h : Calls P f #[] w fun e w' => ∃ v, e = .returned v ∧ wpList P ops Q rest (a.put o.dst v) w') : wpList P ops Q (o :: rest) a w := by
  refine wpList_plain hg fun K hK => ?_
  obtain ⟨dst, op, ty, pos, after, guard⟩ := o
  subst hop
  unfold Oper.wp
  rw [execOp_call_go]
  have e0 : (#[] ++ Array.map a.eval #[] ++ #[] : Array Value) = #[] := by simp
  rw [e0, hrun, Oper.upon_enter]
  refine h.mono ?_
  rintro e w' ⟨v, rfl, hv⟩
  exact hK _ _ hv
/-- A slice of so many values in place, whole. -/
theorem wpList_buildSlice_lit {P : Program} {ops : Array Oper} {rest : List Oper} {o : Oper} {a : Act} {w : World} {Q : Exit → Act → World → Prop} (hg : o.guard = none) (t e : TypeId) (len : Nat) (parts : Array (Nat × Operand))
    (hop : o.op = .buildSlice t len parts) (ht : P.underlying t = some (.slice e)) (z : Value) (hi : (P.info? e).map (fun i => (i.zero, i.size)) = some (some z, 1)) (cells : Array Value)
    (hf : Instr.fill (fun i => some (i * 1, 1)) ((Array.range (len * 1)).map (z.cells[· % z.cells.size]!)) (parts.map fun (i, x) => (i, a.eval x)).toList = some cells) (h0 : 0 < len) (h1 : len ≤ 16777216)
    (h : wpList P ops Q rest (a.put o.dst (.slice (some ⟨w.heap.size, 0, none⟩) len len)) (w.alloc (.cells cells e))) : wpList P ops Q (o :: rest) a w := by
  refine wpList_plain hg fun K hK => ?_
  have hz := (zero_of_info (P := P) hi).1
  have e1 : (Instr.buildSlice t len (parts.map fun (i, x) => (i, a.eval x))).run P w = .ok (.slice (some ⟨w.heap.size, 0, none⟩) len len) (w.alloc (.cells cells e)) := by
    have hs : (sizeOf e).run P w = .ok 1 w := by
      have := (zero_of_info (P := P) hi).2
      cases hq : P.info? e with
      | none => simp [hq] at this
      | some i => simp [hq] at this; simp [sizeOf, typeInfo, hq, this]
    have h2 : ¬ (len * 1 > 2 ^ 24) := by omega
    have h3 : ¬ (len * 1 = 0) := by omega
    simp only [Instr.buildSlice, Sem.run_bind, run_underlying ht, Result.andThen_ok, hs, if_neg h2, if_neg h3, hz, Sem.run_pure, hf]
    simp [go_sem]
  unfold Oper.wp execOp
  simp only [hop, Sem.run_bind, e1, Result.andThen_ok, Sem.run_pure]
  exact hK _ _ h
theorem Ext.setRow_ {a w : World} (h : Ext a w) {g : Nat} (hg : a.heap.size ≤ g) (cs : Array Value) : Ext a (w.setRow g cs) :=
  Below.trans h ⟨rfl, rfl, rfl, by simp [World.setRow], fun k hk => setRow_other w g k cs (by omega)⟩
end Go.Proofs.Ythobicnhophdlaa
