/- The helpers: lists of bytes that are held against each other, copied, brought into a range. -/
import Derived.Test.YtcgajgileehbbaaProg
import Derived.Test.YtcgajgileehbbaaBase
import Derived.Laws.BytesArg
import Derived.Lib.SliceRun
import Derived.Lib.Bytes
namespace Go.Proofs.Ytcgajgileehbbaa
open Go.RowKit

/-- A value comes back, and nothing has changed but draws. -/
def Quiet (w : World) (v : Value) (e : Ending) (w' : World) : Prop := e = .returned v ∧ ∃ m, w' = w.drewN m

theorem take_eq_succ {l m : List Int} {k : Nat} (hl : k < l.length) (hm : k < m.length) (h : l.take k = m.take k) (hg : gi l k = gi m k) : l.take (k + 1) = m.take (k + 1) := by
  rw [List.take_succ_eq_append_getElem hl, List.take_succ_eq_append_getElem hm, h]
  simp [gi, List.getD_eq_getElem?_getD, hl, hm] at hg
  rw [hg]

theorem ne_of_gi {l m : List Int} {k : Nat} (hg : ¬ gi l k = gi m k) : ¬ l = m := fun h => hg (by rw [h])

set_option maxHeartbeats 400000 in
theorem eqBytes_any (v1 v2 : Value) (l1 l2 : List Int) (w : World) (h1 : Row w .u8 v1 l1) (h2 : Row w .u8 v2 l2) :
    Calls Try.prog 15 #[v1, v2] w (Quiet w (.bool (decide (l1 = l2)))) := by
  obtain ⟨A1, c1, rfl, hc1, hm1, ha1, hf1, hg1⟩ := h1
  obtain ⟨A2, c2, rfl, hc2, hm2, ha2, hf2, hg2⟩ := h2
  unfold maxLen at hm1 hm2
  by_cases hl : l1.length = l2.length
  · obtain ⟨n, hn⟩ : ∃ n, n = l1.length := ⟨_, rfl⟩
    rw [← hn] at hc1 hg1
    rw [← hl, ← hn] at hc2 hg2
    rw [← hn, ← hl, ← hn]
    have Hn := Lib.hid hn
    have Hl := Lib.hid hl
    clear hn hl ha1 ha2
    go_enter Try.func15, Try.ntmps15
    go_wp2
    go_loopw [5] (fun i wr => ∃ k m : Nat, k ≤ n ∧ i = .int .i64 k ∧ wr = w.drewN m ∧ l1.take k = l2.take k) (fun i _ => n - (intOf i).toNat)
    case atStart => exact ⟨0, 0, by omega, rfl, rfl, rfl⟩
    case round =>
      obtain ⟨k, m, hk, rfl, rfl, ht⟩ := hrel
      have Ht := Lib.hid ht
      clear ht
      by_cases hlt : k < n
      · obtain ⟨b1, o1, rfl, hb1, hx1⟩ := hg1 (by omega)
        obtain ⟨b2, o2, rfl, hb2, hx2⟩ := hg2 (by omega)
        have hy1 := hx1 k hlt
        have hy2 := hx2 k hlt
        clear hx1 hx2
        go_wp2
        go_quiet (fail)
        go_wp2
        · go_ret
          refine ⟨?_, m + nq, by rw [World.drewN_drewN]⟩
          have hx : (gi l1 k != gi l2 k) = true := by assumption
          have hx' : ¬ gi l1 k = gi l2 k := by simpa using hx
          simp [ne_of_gi hx']
        · have hx : (gi l1 k != gi l2 k) = false := by assumption
          have hx' : gi l1 k = gi l2 k := by simpa using hx
          refine ⟨⟨k + 1, m + nq, by omega, by go_num, rfl, ?_⟩, by simp [intOf]; omega⟩
          exact take_eq_succ (by have := Hn.out; omega) (by have := Hn.out; have := Hl.out; omega) Ht.out hx'
      · go_wp2
        go_ret
        refine ⟨?_, _, rfl⟩
        have hk' : k = n := by omega
        have e : l1 = l2 := by
          have := Ht.out
          rw [hk', Hn.out] at this
          rwa [List.take_length, Hl.out, List.take_length] at this
        simp [e]
  · have hb : ((l1.length : Int) != (l2.length : Int)) = true := by simp; omega
    have hne : ¬ l1 = l2 := fun h => hl (by rw [h])
    have Hne := Lib.hid hne
    clear hg1 hg2 ha1 ha2 hf1 hf2 hne hl
    go_enter Try.func15, Try.ntmps15
    go_wp2
    go_ret
    exact ⟨by simp [Hne.out], 0, rfl⟩

theorem info8 : (Try.prog.info? 5).map (fun i => (i.zero, i.size, i.bytes)) = some (some (.int .u8 0), 1, 1) := by kernel_rfl

theorem copyBytes_any (v : Value) (l : List Int) (w : World) (h : Row w .u8 v l) (hl : l.length ≤ 140737488355328) :
    Calls Try.prog 11 #[v] w (Ret w (fun v' w' => Own w.heap.size w' 5 .u8 v' l)) := by
  go_enter Try.func11, Try.ntmps11
  go_wp2_with (at_builtin; refine wpList_app _ rfl _ _ w.heap.size 22 5 _ 1 .u8 rfl Try.underlying22 info8 rfl (by omega) _ [] rfl (Own.nil _ _ _ _) v l rfl h (by simp; omega) (by simp) ?_)
  intro v' w' ho hg _
  go_wp2
  go_ret
  exact Ret.mk (by simpa using ho) ((Ext.refl _).grown hg (fun g hg => by cases hg))
end Go.Proofs.Ytcgajgileehbbaa
