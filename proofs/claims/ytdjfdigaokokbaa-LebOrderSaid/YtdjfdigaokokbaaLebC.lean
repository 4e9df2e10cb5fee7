/- bytes.Compare: which of two lists of bytes comes first. -/
import Derived.Test.YtdjfdigaokokbaaLebX
import Derived.Test.YtdjfdigaokokbaaLebMath
import Derived.Lib.Bytealg
import Derived.Lib.BytesEntry
import Derived.Laws.Externs
namespace Go.Proofs.Ytdjfdigaokokbaa
open Go.RowKit
set_option linter.unusedVariables false

theorem Row.bytesOf {w : World} {v : Value} {l : List Int} (h : Row w .u8 v l) : (Extern.Bytes.bytesOf v).run Try.prog w = .ok ⟨(Lib.bytesOf l).toArray⟩ w := by
  obtain ⟨A, c, rfl, h2, h3, h4, h5, h6⟩ := h
  rcases A with _ | ad
  · have hc := h4 rfl
    have hl : l = [] := List.eq_nil_of_length_eq_zero (by omega)
    subst hl
    rfl
  · have := Lib.run_loadBytesX (P := Try.prog) w l ad .empty (fun j x hj => by
      have hj' : j < l.length := (List.getElem?_eq_some_iff.1 hj).1
      obtain ⟨b, o, hA, _, hc⟩ := h6 (by omega)
      injection hA with hA
      subst hA
      rw [Addr.add_lit, hc j hj']
      rw [List.getElem?_eq_getElem hj'] at hj
      injection hj with hj
      simp [gi, hj', hj])
    rw [show ((ByteArray.empty).data ++ (Lib.bytesOf l).toArray) = (Lib.bytesOf l).toArray from Array.empty_append] at this
    exact this

theorem compare_bytes {l m : List Int} (hl : Fit .u8 l) (hm : Fit .u8 m) : Lib.compareBytes (Lib.bytesOf l) (Lib.bytesOf m) = cmpI l m := by
  induction l generalizing m with
  | nil => cases m <;> rfl
  | cons a l ih =>
    cases m with
    | nil => rfl
    | cons b m =>
      have ha := hl.u8 (List.mem_cons_self)
      have hb := hm.u8 (List.mem_cons_self)
      have ih' := ih (m := m) (fun x hx => hl x (List.mem_cons_of_mem _ hx)) (fun x hx => hm x (List.mem_cons_of_mem _ hx))
      have e1 : (UInt8.ofNat a.toNat < UInt8.ofNat b.toNat) ↔ a < b := by
        rw [UInt8.lt_iff_toNat_lt]
        simp
        omega
      have e2 : (UInt8.ofNat b.toNat < UInt8.ofNat a.toNat) ↔ b < a := by
        rw [UInt8.lt_iff_toNat_lt]
        simp
        omega
      unfold Lib.bytesOf at ih' ⊢
      simp only [List.map_cons, Lib.compareBytes, cmpI, e1, e2, ih']

theorem compare_any (v1 v2 : Value) (l1 l2 : List Int) (w : World) (h1 : Row w .u8 v1 l1) (h2 : Row w .u8 v2 l2) :
    Calls Try.prog 32 #[v1, v2] w fun e w' => e = .returned (.int .i64 (cmpI l1 l2)) ∧ w = w' := by
  have hrun : (Extern.BytealgCompare.compare #[v1, v2]).run Try.prog w = .ok (.int .i64 (cmpI l1 l2)) w := by
    change Sem.run Try.prog (do pure (goInt (Extern.BytealgCompare.cmp (← Extern.Bytes.bytesOf v1) (← Extern.Bytes.bytesOf v2)))) w = _
    simp only [Sem.run_bind, h1.bytesOf, h2.bytesOf, Sem.run_pure, Result.andThen]
    rw [Lib.cmp_eq, ← compare_bytes h1.fit h2.fit]
    rfl
  clear h1 h2
  have HR := Lib.hid hrun
  clear hrun
  go_enter Try.func32, Try.ntmps32
  go_wp2
  rw [run_callFunc_extern Try.func42 (by kernel_rfl) (by kernel_rfl) (by kernel_rfl) (e := Extern.BytealgCompare.compare) (by kernel_rfl), HR.out]
  simp only [Result.andThen]
  rw [Oper.upon_value]
  go_wp2
  go_ret
  exact ⟨rfl, rfl⟩
theorem bring_same (i n : Int) (w : World) (hl : -9223372036854775808 ≤ i) (hh : i ≤ 9223372036854775807) (hl' : -9223372036854775808 ≤ n) (hh' : n ≤ 9223372036854775807) (r : Int) (hr : Hid (bring i n = r)) :
    Calls Try.prog 30 #[.int .i64 i, .int .i64 n] w fun e w' => e = .returned (.int .i64 r) ∧ w' = w := by
  rw [← hr.out]
  exact (bring_any i n w hl hh hl' hh').mono fun e w' h => ⟨h.1, h.2.symm⟩
end Go.Proofs.Ytdjfdigaokokbaa
