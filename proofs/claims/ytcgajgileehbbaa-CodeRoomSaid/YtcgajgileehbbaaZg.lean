/- Several texts of this proof, one behind the other. -/
import Derived.Test.YtcgajgileehbbaaZe
import Derived.Test.YtcgajgileehbbaaZd
import Derived.Lib.AppendZerosOnto
import Derived.Test.YtcgajgileehbbaaBase
import Derived.Test.YtcgajgileehbbaaEq0
/- append of so many zeros onto a list of the call's own; what more locals, stack and constants leave as it was. -/
namespace Go.Proofs.Ytcgajgileehbbaa
open Go.RowKit Go.Lib
set_option linter.unusedVariables false

theorem run_zeros_own {P : Program} (w : World) (base : Nat) (t tn ty e : TypeId) (i : TypeInfo) (z : Value) (kn kq : IntKind) (ht : P.underlying t = some (.slice e)) (htn : P.underlying tn = some (.int kn)) (hi : P.info? e = some i) (hz : i.zero = some z)
    (hzs : z.cells.size = i.size) (hsz : 0 < i.size) (v : Value) (n : Nat) (xs : List Value) (hown : w.ownsRow base e i.size v n xs) (k : Nat) (h1 : ∀ u ∈ (Builtin.zeroCells z.cells k).toList, u.oneCell' = true)
    (h63 : n + k ≤ maxLen) (hbytes : (n + k) * i.bytes ≤ 140737488355328) (hbase : base ≤ w.heap.size) :
    ∃ v' w', (Builtin.append_ #[t, tn] ty #[v, .int kq k]).run P w = .ok v' w' ∧ w'.ownsRow base e i.size v' (n + k) (xs ++ (Builtin.zeroCells z.cells k).toList) ∧ w.grownBy w' v.ownBlock ∧ (v'.ownBlock = v.ownBlock ∨ v'.ownBlock = some w.heap.size) := by
  have hsmall : n + k ≤ 9223372036854775807 := by simp only [maxLen] at h63; omega
  have hzl : (Builtin.zeroCells z.cells k).toList.length = k * i.size := by rw [Array.length_toList, size_zeroCells, hzs]
  have hlen : (xs ++ (Builtin.zeroCells z.cells k).toList).length = (n + k) * i.size := by rw [List.length_append, hown.1, hzl, Nat.add_mul]
  have hkb : k * i.bytes ≤ 281474976710656 := by rw [Nat.add_mul] at hbytes; omega
  have hw : IntKind.i64.wrap (k : Int) = k := by rw [IntKind.wrap_i64]; omega
  have hneg : ¬ ((k : Int) < 0) := by omega
  have h48i : ¬ (281474976710656 < (k : Int) * (i.bytes : Int)) := by rw [← Int.natCast_mul]; omega
  have grown : ∀ (old : Nat), old < n + k → ∀ (row : Option Nat),
      (w.drew.alloc (.cells (xs.toArray ++ Builtin.zeroCells z.cells k ++ Builtin.zeroCells z.cells (grownCap w (n + k) old e - (n + k))) e)).ownsRow base e i.size
        (.slice (some ⟨w.heap.size, 0, none⟩) (n + k) (grownCap w (n + k) old e)) (n + k) (xs ++ (Builtin.zeroCells z.cells k).toList) ∧
      w.grownBy (w.drew.alloc (.cells (xs.toArray ++ Builtin.zeroCells z.cells k ++ Builtin.zeroCells z.cells (grownCap w (n + k) old e - (n + k))) e)) row := by
    intro old ho row
    have hge := grownCap_ge w (n + k) old e
    have hcm : grownCap w (n + k) old e ≤ maxLen := grownCap_le_maxLen w (n + k) old e h63
    refine ⟨⟨hlen, .inr ⟨w.heap.size, _, _, rfl, hbase, heap_alloc_new w.drew _, hge, hcm, ?_, ?_⟩⟩, ⟨rfl, rfl, rfl, by simp, fun j hj _ => heap_alloc_old w.drew _ hj⟩⟩
    · simp only [Array.size_append, List.size_toArray, size_zeroCells, hzs, hown.1, ← Nat.add_mul]
      congr 1
      omega
    · simp only [Array.toList_append, List.append_assoc]
      rw [← List.append_assoc, ← hlen]
      exact List.take_left
  rcases hown.2 with ⟨rfl, rfl⟩ | ⟨g, cap, cur, rfl, hbg, hg, hnc, hcm, hcs, htake⟩
  · have hx : xs = [] := List.eq_nil_of_length_eq_zero (by simpa using hown.1)
    subst hx
    by_cases hk : k = 0
    · subst hk
      refine ⟨.slice none 0 0, w, ?_, by simpa [Builtin.zeroCells] using World.ownsRow_nil w base e i.size, ⟨rfl, rfl, rfl, Nat.le_refl _, fun _ _ _ => rfl⟩, Or.inl rfl⟩
      simp at hw
      simp [Builtin.append_, run_underlying ht, run_underlying htn, sizeOf, typeInfo, zeroValue, hi, hz, asInt, asIntOf, hw, Builtin.firstCells]
    · have hr := run_append_nil_zeros (P := P) w t tn ty e i z kq kn ht htn hi hz k (by omega) hsz (by omega) hkb
      have hgr := grown 0 (by omega) (Value.ownBlock (.slice none 0 0))
      simp only [Nat.zero_add, List.nil_append, Array.empty_append] at hgr ⊢
      exact ⟨_, _, hr, hgr.1, hgr.2, Or.inr rfl⟩
  · by_cases hroom : n + k ≤ cap
    · by_cases hk : k = 0
      · subst hk
        refine ⟨.slice (some ⟨g, 0, none⟩) n cap, w, ?_, by simpa [Builtin.zeroCells] using hown, ⟨rfl, rfl, rfl, Nat.le_refl _, fun _ _ _ => rfl⟩, Or.inl rfl⟩
        simp at hw
        simp [Builtin.append_, run_underlying ht, run_underlying htn, sizeOf, typeInfo, zeroValue, hi, hz, asInt, asIntOf, hw, hnc, storeCells]
      · have hfit : n * i.size + (Builtin.zeroCells z.cells k).toList.length ≤ cur.size := by rw [hzl, hcs, ← Nat.add_mul]; exact Nat.mul_le_mul_right _ hroom
        have hst := run_storeCells_at P g (n * i.size) e (Builtin.zeroCells z.cells k).toList 0 cur w hg (by simpa using hfit) h1
        simp only [Nat.add_zero] at hst
        have hns : ¬ (k * i.size = 0) := Nat.mul_ne_zero hk (by omega)
        have hr : (Builtin.append_ #[t, tn] ty #[.slice (some ⟨g, 0, none⟩) n cap, .int kq k]).run P w = .ok (.slice (some ⟨g, 0, none⟩) (n + k) cap) (w.setRow g (cur.toList.take (n * i.size) ++ (Builtin.zeroCells z.cells k).toList ++ cur.toList.drop (n * i.size + (Builtin.zeroCells z.cells k).toList.length)).toArray) := by
          simp [Builtin.append_, run_underlying ht, run_underlying htn, sizeOf, typeInfo, zeroValue, hi, hz, asInt, asIntOf, hw, hneg, h48i, hns, hroom, Addr.add_lit, hst]
        refine ⟨_, _, hr, ⟨hlen, .inr ⟨g, cap, _, rfl, hbg, setRow_heap w g cur _ e _ hg, hroom, hcm, ?_, ?_⟩⟩, ⟨rfl, rfl, rfl, by simp, fun j hj hk => setRow_other w g j _ (fun e => hk (by simp [Value.ownBlock, e]))⟩, Or.inl rfl⟩
        · simp only [List.size_toArray, List.length_append, List.length_take, List.length_drop, Array.length_toList] at hfit ⊢
          omega
        · rw [htake, ← hlen]
          exact List.take_left
    · have holds : ∀ j u, xs[j]? = some u → w.cell? ((⟨g, 0, none⟩ : Addr).add j) = some u := hown.cells (g := g) rfl
      have hk : 0 < k := by omega
      have hr := run_append_grow_zeros (P := P) w t tn ty e i z kq kn ht htn hi hz (some ⟨g, 0, none⟩) n cap xs (run_firstCells_some (P := P) w.drew i.size n ⟨g, 0, none⟩ n cap xs hown.1 (fun j u h => holds j u h)) k hk hsz (by omega) (by omega) hkb (growslice_fits (by omega) hbytes)
      have hgr := grown cap (by omega) (Value.ownBlock (.slice (some ⟨g, 0, none⟩) n cap))
      exact ⟨_, _, hr, hgr.1, hgr.2, Or.inr rfl⟩
section
variable {α : Type} (S : Shp α)
theorem Shp.flat_zeros (k : Nat) : (Builtin.zeroCells (S.vals S.zero) k).toList = (List.replicate k S.zero).flatMap fun x => (S.vals x).toList := by
  refine List.ext_getElem? fun p => ?_
  by_cases hp : p < k * S.n
  · have h0 := S.pos
    have hq : p / S.n < k := by rw [Nat.div_lt_iff_lt_mul h0]; exact hp
    have hr := Nat.mod_lt p h0
    have he : p = p / S.n * S.n + p % S.n := by have := Nat.div_add_mod p S.n; rw [Nat.mul_comm] at this; omega
    have e1 := S.flat_at (List.replicate k S.zero) (p / S.n) (p % S.n) (by simpa using hq) hr
    rw [← he] at e1
    rw [e1]
    have e2 : S.el (List.replicate k S.zero) (p / S.n) = S.zero := by simp [Shp.el, hq]
    have hs := S.size S.zero
    rw [e2]
    simp [Builtin.zeroCells, hs, hp, hr]
  · rw [List.getElem?_eq_none (by simp [Builtin.zeroCells, S.size]; omega), List.getElem?_eq_none (by rw [S.flat_len]; simp; omega)]
/-- append of zeros, as a step of the walk. -/
theorem Shp.wpList_zeros {P : Program} (w : World) {ops : Array Oper} {rest : List Oper} {o : Oper} {a : Act} {Q : Exit → Act → World → Prop} (hgd : Region.wanted o (yielded ops a.tmps) = true) (s y : Operand) (B : Nat) (t tn : TypeId) (kn kq : IntKind) (z : Value) (bytes : Nat)
    (hop : o.op = .call { callee := .builtin .append, args := #[s, y], argTypes := #[t, tn] }) (ht : P.underlying t = some (.slice S.T)) (htn : P.underlying tn = some (.int kn))
    (hi : (P.info? S.T).map (fun i => (i.zero, i.size, i.bytes)) = some (some z, S.n, bytes)) (hz : z.cells = S.vals S.zero)
    (v : Value) (l : List α) (hs : a.eval s = v) (ho : S.Own B w v l) (k : Nat) (hx : a.eval y = .int kq k) (hn : S.nest w S.zero) (hmo : S.nestO B w S.zero)
    (hb : (l.length + k) * bytes ≤ 140737488355328) (hb1 : 1 ≤ bytes) (hB : B ≤ w.heap.size)
    (h : ∀ v' w', S.Own B w' v' (l ++ List.replicate k S.zero) → w.grownBy w' v.ownBlock → (v'.ownBlock = v.ownBlock ∨ v'.ownBlock = some w.heap.size) → wpList P ops Q rest (a.put o.dst v') w') :
    wpList P ops Q (o :: rest) a w := by
  refine wpList_step fun K hK => ?_
  rw [if_pos hgd]
  obtain ⟨i, hi1, hi2, hi3, hi4⟩ := info_parts hi
  have hlen : l.length + k ≤ 140737488355328 := Nat.le_trans (Nat.le_mul_of_pos_right _ (by omega)) hb
  have hzz : z.cells.size = i.size := by rw [hz, S.size, hi3]
  obtain ⟨v', w', hrun, h2, h3, h4⟩ := run_zeros_own (P := P) w B t tn o.type S.T i z kn kq ht htn hi1 hi2 hzz (by rw [hi3]; exact S.pos) v l.length (l.flatMap fun x => (S.vals x).toList) (by rw [hi3]; exact ho.1) k (by
      rw [hz, S.flat_zeros]
      exact Shp.flat_one (fun x hx => by rw [List.eq_of_mem_replicate hx]; exact hn)) (by simp only [maxLen]; omega) (by rw [hi4]; exact hb) hB
  unfold Oper.wp execOp
  simp only [hop, resolve, invoke, builtin, Sem.run_bind, Sem.run_pure, Result.andThen_ok, List.map_toArray, List.map_cons, List.map_nil, hs, hx, hrun]
  refine hK _ _ (h v' w' ⟨?_, fun e he => ?_⟩ h3 h4)
  · rw [List.flatMap_append, List.length_append, ← S.flat_zeros, ← hz, List.length_replicate, ← hi3]
    exact h2
  · exact S.kept ((List.mem_append.1 he).elim (ho.2 e) (fun h => by rw [List.eq_of_mem_replicate h]; exact hmo)) h3 ho.typed
end

theorem infoC : (Try.prog.info? 61).map (fun i => (i.zero, i.size, i.bytes)) = some (some (.agg #[.int .i64 0, .string ⟨#[]⟩, .int .i64 0, .int .i64 0, .int .i64 0, .int .i64 0]), 6, 56) := by kernel_rfl

theorem isKZ_grow {pool z : List Cst} {n a b : Int} (h : isKZ pool n a b = true) : isKZ (pool ++ z) n a b = true := by
  unfold isKZ at h ⊢
  simp only [Bool.and_eq_true, Bool.or_eq_true, decide_eq_true_eq] at h ⊢
  obtain ⟨h1, h2, h3⟩ := h
  have e : gc (pool ++ z) n.toNat = gc pool n.toNat := by
    unfold gc
    rw [List.getD_eq_getElem?_getD, List.getD_eq_getElem?_getD, List.getElem?_append_left (by omega)]
  refine ⟨h1, by rw [List.length_append]; omega, by rw [e]; exact h3⟩
theorem fitZ_grow {lo lo' : Int} {pool z : List Cst} {x : In} (hl : lo ≤ lo') (h : fitZ lo pool x = true) : fitZ lo' (pool ++ z) x = true := by
  unfold fitZ at h ⊢
  split at h
  · rename_i c
    rw [if_pos c]
    simp only [decide_eq_true_eq] at h ⊢
    omega
  rename_i c
  rw [if_neg c]
  split at h
  · rename_i c
    rw [if_pos c]
    simp only [decide_eq_true_eq] at h ⊢
    omega
  rename_i c
  rw [if_neg c]
  split at h
  · rename_i c
    rw [if_pos c]
    exact isKZ_grow h
  rename_i c
  rw [if_neg c]
  split at h
  · rename_i c
    rw [if_pos c]
    exact isKZ_grow h
  rename_i c
  rw [if_neg c]
  split at h
  · rename_i c
    rw [if_pos c]
    exact isKZ_grow h
  rename_i c
  rw [if_neg c]
  split at h
  · rename_i c
    rw [if_pos c]
    exact isKZ_grow h
  rename_i c
  rw [if_neg c]
theorem handZ_grow {l : List In} {len : Int} {pool z : List Cst} {h : Hd} (hh : handZ l len pool h = true) : handZ l len (pool ++ z) h = true := by
  unfold handZ at hh ⊢
  simp only [Bool.and_eq_true, Bool.or_eq_true, decide_eq_true_eq] at hh ⊢
  obtain ⟨h1, h2, h3, h4, h5⟩ := hh
  exact ⟨h1, h2, h3, h4, h5.imp id isKZ_grow⟩
/-- A method with more locals and stack, and with all of its handlers or none. -/
def Me.more (m : Me) (n : Int) (hs : List Hd) : Me := { m with sk := min 255 (m.sk + n), lo := min 255 (m.lo + n), hs := hs }
theorem checkZ_more {m : Me} {pool z : List Cst} {n : Int} (hn : 0 ≤ n) (h : (checkZ m pool).2.2 = 0) {hs : List Hd} (hh : hs = m.hs ∨ hs = []) : checkZ (m.more n hs) (pool ++ z) = ((checkZ m pool).1, 0, 0) := by
  unfold checkZ chkL at h ⊢
  have e : (m.more n hs).code = m.code := rfl
  rw [e]
  split at h
  · rename_i c0
    rw [if_pos c0, if_pos c0]
    split at h
    · simp at h
    rename_i c1
    rw [if_neg c1]
    split at h
    · rename_i c2
      rw [if_pos c2]
      have hr : roomZ (m.more n hs) = true := by
        have := c2.1
        unfold roomZ at this
        have this := of_decide_eq_true this
        refine decide_eq_true ?_
        show 0 ≤ min 255 (m.sk + n) ∧ min 255 (m.sk + n) ≤ 255 ∧ 0 ≤ min 255 (m.lo + n) ∧ min 255 (m.lo + n) ≤ 255
        omega
      have hl : m.lo ≤ (m.more n hs).lo := by
        have := c2.1
        unfold roomZ at this
        simp only [decide_eq_true_eq, Me.more] at this ⊢
        omega
      have hf : firstNot (fitZ (m.more n hs).lo (pool ++ z)) (cutZ m.code).1 = (0, false) := firstNot_none fun x hx => fitZ_grow hl (firstNot_all (by simpa using c1) x hx)
      have hz : handsZ (cutZ m.code).1 (m.more n hs) (pool ++ z) = true := by
        have h2 := c2.2
        unfold handsZ at h2 ⊢
        simp only [Bool.and_eq_true, List.all_eq_true, decide_eq_true_eq] at h2 ⊢
        rcases hh with rfl | rfl
        · exact ⟨fun x hx => handZ_grow (h2.1 x hx), h2.2⟩
        · exact ⟨fun x hx => by simp [Me.more] at hx, by simp [Me.more]⟩
      rw [hf, if_neg (by simp), if_pos ⟨hr, hz⟩]
    · simp at h
  · rename_i c0
    exact absurd h c0
theorem coverZ_none (t : Int) : coverZ [] t = [] := rfl
theorem checkZ_room {m : Me} {pool : List Cst} (h : (checkZ m pool).2.2 = 0) : 0 ≤ m.sk ∧ m.sk ≤ 255 ∧ 0 ≤ m.lo ∧ m.lo ≤ 255 := by
  unfold checkZ chkL at h
  split at h
  · split at h
    · simp at h
    · split at h
      · rename_i c2
        exact of_decide_eq_true c2.1
      · simp at h
  · rename_i c0
    exact absurd h c0
theorem OwnI.under {B : Nat} {w : World} {v : Value} {l : List In} (h : OwnI B w v l) {g : Nat} (hg : g < B) (j : Nat) (u : Value) : OwnI B (w.setCell ⟨g, j, none⟩ u) v l := by
  obtain ⟨es, he, ho⟩ := h
  have s := only_set (World.grownBy.refl w (some g)) j u
  refine ⟨es, he, ho.kept s (fun g' h' e => ?_) fun x _ hx => ⟨hx.1.kept s fun g' h' e => ?_, hx.2.kept s fun g' h' e => ?_⟩⟩
  · injection e with e
    have := ho.low g' h'
    omega
  · injection e with e
    have := (World.ownsRow.lt hx.1.1 g' h').1
    omega
  · injection e with e
    have := (World.ownsRow.lt hx.2.1 g' h').1
    omega
end Go.Proofs.Ytcgajgileehbbaa
/- A number brought into a range: plain mathematics. -/
namespace Go.Proofs.Ytcgajgileehbbaa

/-- Brought to one from 0 on, below a number. -/
def bring (i n : Int) : Int := if n ≤ 0 then 0 else i % n
theorem bring_pos (i : Int) {n : Int} (h : 0 < n) : bring i n = i % n := by
  unfold bring
  rw [if_neg (by omega)]
theorem tmod_neg {i n : Int} (h : i < 0) (hn : 0 < n) : (i.tmod n = i % n - n ∨ i.tmod n = i % n) ∧ -n < i.tmod n ∧ i.tmod n ≤ 0 := by
  have e := Int.tmod_eq_emod (a := i) (b := n)
  have h1 := Int.emod_nonneg i (show n ≠ 0 by omega)
  have h2 := Int.emod_lt_of_pos i hn
  split at e
  · rename_i hc
    have hd : n ∣ i := by rcases hc with hc | hc; omega; exact hc
    have hz : i % n = 0 := Int.emod_eq_zero_of_dvd hd
    omega
  · have : (n.natAbs : Int) = n := by omega
    omega
theorem bring_nat (i : Int) {n : Nat} (h : 0 < n) : ∃ k : Nat, bring i n = k ∧ k < n := by
  rw [bring_pos i (by omega)]
  have h1 := Int.emod_nonneg i (show (n : Int) ≠ 0 by omega)
  have h2 := Int.emod_lt_of_pos i (show (0 : Int) < n by omega)
  exact ⟨(i % n).toNat, by omega, by omega⟩
end Go.Proofs.Ytcgajgileehbbaa
/- The statements' own helper: a number brought into a range. -/
namespace Go.Proofs.Ytcgajgileehbbaa
open Go.RowKit
set_option linter.unusedVariables false

theorem bring_any (i n : Int) (w : World) (hl : -9223372036854775808 ≤ i) (hh : i ≤ 9223372036854775807) (hl' : -9223372036854775808 ≤ n) (hh' : n ≤ 9223372036854775807) :
    Calls Try.prog 31 #[.int .i64 i, .int .i64 n] w fun e w' => e = .returned (.int .i64 (bring i n)) ∧ w = w' := by
  by_cases hn : n ≤ 0
  · have e : bring i n = 0 := by unfold bring; rw [if_pos hn]
    rw [e]
    clear e
    go_enter Try.func31, Try.ntmps31
    go_wp2
    go_ret
    exact ⟨rfl, rfl⟩
  · have hn1 : 0 < n := by omega
    rw [bring_pos i hn1]
    by_cases h0 : 0 ≤ i
    · have hm : 0 ≤ i % n := Int.emod_nonneg i (by omega)
      go_enter Try.func31, Try.ntmps31
      go_wp2
      go_ret
      exact ⟨rfl, rfl⟩
    · obtain ⟨ht, hb1, hb2⟩ := tmod_neg (i := i) (by omega) hn1
      have hm := Int.emod_nonneg i (show n ≠ 0 by omega)
      have hm2 := Int.emod_lt_of_pos i hn1
      by_cases hz : i.tmod n < 0
      · have e : i % n = i.tmod n + n := by omega
        rw [e]
        clear e ht
        go_enter Try.func31, Try.ntmps31
        go_wp2
        go_ret
        exact ⟨rfl, rfl⟩
      · have e : i % n = i.tmod n := by omega
        rw [e]
        clear e ht
        go_enter Try.func31, Try.ntmps31
        go_wp2
        go_ret
        exact ⟨rfl, rfl⟩

/-- A bool comes back, and all that was there is as it was. -/
def RetB (w : World) (b : Bool) (e : Ending) (w' : World) : Prop := e = .returned (.bool b) ∧ Ext w w'
end Go.Proofs.Ytcgajgileehbbaa
