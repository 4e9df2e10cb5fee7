/- Several texts of this proof, one behind the other. -/
import Derived.Test.YtokmeomjdpfknaaGreatDoorZbAE
import Derived.Lib.AppendStr
import Derived.Test.YtokmeomjdpfknaaGreatDoorZbQ
import Derived.Test.YtokmeomjdpfknaaGreatDoorZbY
namespace Go.Proofs.YtokmeomjdpfknaaGreatDoor
open Go.RowKit
set_option linter.unusedVariables false

def Kp (w w' : World) : Prop := w.heap.size ≤ w'.heap.size ∧ ∀ b cs T, BK w b cs T → T ≠ 5 → T ≠ 68 → BK w' b cs T
theorem Kp.refl (w : World) : Kp w w := ⟨Nat.le_refl _, fun _ _ _ h _ _ => h⟩
theorem Kp.trans {a b c : World} (h : Kp a b) (k : Kp b c) : Kp a c := ⟨Nat.le_trans h.1 k.1, fun x cs T hb h1 h2 => k.2 x cs T (h.2 x cs T hb h1 h2) h1 h2⟩
theorem Kp.ext {a b : World} (e : Ext a b) : Kp a b := ⟨e.size, fun _ _ _ h _ _ => h.ext e⟩
theorem Kp.grown {a b : World} {r : Option Nat} (hg : a.grownBy b r) (hr : ∀ g, r = some g → ∃ c T z, a.heap[g]? = some (.cells c T z) ∧ (T = 5 ∨ T = 68)) : Kp a b := by
  refine ⟨hg.size, fun x cs T hb h1 h2 => (hg.block x hb.lt (fun e => ?_)).trans hb⟩
  obtain ⟨c, T', z, h, h3⟩ := hr x e.symm
  rw [show a.heap[x]? = _ from hb] at h
  injection h with h
  injection h with _ h _
  subst h
  rcases h3 with h3 | h3
  · exact h1 h3
  · exact h2 h3
theorem Own.blk {B : Nat} {w : World} {e : TypeId} {k : IntKind} {v : Value} {l : List Int} (h : Own B w e k v l) : ∀ g, v.ownBlock = some g → ∃ c z, w.heap[g]? = some (.cells c e z) := by
  intro g hg
  rcases h.1.2 with ⟨rfl, _⟩ | ⟨g', cap, cur, rfl, _, hg', _⟩
  · cases hg
  · injection hg with hg
    subst hg
    exact ⟨_, _, hg'⟩
def WR (w0 w : World) (g : Nat) (l : List Int) : Prop :=
  ∃ v, BK w g #[v] 68 ∧ Own w0.heap.size w 5 .u8 v l ∧ Ext w0 w ∧ w0.heap.size ≤ g
section
variable {w0 w w' : World} {g : Nat} {l m : List Int}
theorem WR.lt (h : WR w0 w g l) : g < w.heap.size := by
  obtain ⟨v, hg, _⟩ := h
  exact hg.lt
theorem WR.base (h : WR w0 w g l) : w0.heap.size ≤ g := by
  obtain ⟨v, hg, _, _, h4⟩ := h
  exact h4
theorem WR.ext0 (h : WR w0 w g l) : Ext w0 w := by
  obtain ⟨v, hg, _, h3, h4⟩ := h
  exact h3
theorem WR.ext (h : WR w0 w g l) (he : Ext w w') : WR w0 w' g l := by
  obtain ⟨v, hg, h2, h3, h4⟩ := h
  exact ⟨v, hg.ext he, h2.ext he, h3.trans he, h4⟩
theorem WR.cells (h : WR w0 w g l) : ∃ A n c, w.cell? ⟨g, 0, none⟩ = some (.slice A n c) ∧ w.frozen? ⟨g, 0, none⟩ = false ∧ Own w0.heap.size w 5 .u8 (.slice A n c) l ∧ BK w g #[.slice A n c] 68 := by
  obtain ⟨v, hg, h2, h3, h4⟩ := h
  obtain ⟨A, n, c, rfl⟩ := h2.slice
  exact ⟨A, n, c, hg.cell 0, hg.free 0, h2, hg⟩
theorem WR.app {v v' : Value} (hb : BK w g #[v] 68) (ho : Own w0.heap.size w 5 .u8 v l) (hx : Ext w0 w) (h0 : w0.heap.size ≤ g)
    (ho' : Own w0.heap.size w' 5 .u8 v' m) (hg : w.grownBy w' v.ownBlock) : WR w0 (w'.setCell ⟨g, 0, none⟩ v') g m ∧ Kp w (w'.setCell ⟨g, 0, none⟩ v') := by
  have hne : v.ownBlock ≠ some g := own_ne ho hb (by decide)
  have hb' : BK w' g #[v] 68 := (hg.block g hb.lt (fun e => hne e.symm)).trans hb
  have hne' : v'.ownBlock ≠ some g := own_ne ho' hb' (by decide)
  have s1 := only_set (World.grownBy.refl w' (some g)) 0 v'
  refine ⟨⟨v', hb'.put 0 v', ho'.kept s1 (fun k hk e => by injection e with e; subst e; exact hne' hk), (hx.grown hg (fun k hk => ho.low k hk)).set_ h0 _, h0⟩, ?_⟩
  refine (Kp.grown hg (fun k hk => ?_)).trans (Kp.grown s1 fun k hk => ?_)
  · obtain ⟨c, z, hc⟩ := ho.blk k hk
    exact ⟨c, _, z, hc, .inl rfl⟩
  · injection hk with hk
    subst hk
    exact ⟨_, _, _, hb', .inr rfl⟩
end
def WRet (w0 w : World) (g : Nat) (l : List Int) (x : Ending) (w' : World) : Prop := x = .returned (.tuple #[]) ∧ WR w0 w' g l ∧ Kp w w'
theorem strCells_ub (s : ByteArray) : Lib.strCells s = (ub s).map (Value.int .u8) := by
  unfold Lib.strCells ub
  rw [List.map_map]
  rfl
theorem wpList_appS (w : World) {ops : Array Oper} {rest : List Oper} {o : Oper} {a : Act} {Q : Exit → Act → World → Prop} (hgd : o.guard = none) (s y : Operand) (B : Nat)
    (hop : o.op = .call { callee := .builtin .append, args := #[s, y], argTypes := #[29, 9] })
    (v : Value) (l : List Int) (hs : a.eval s = v) (ho : Own B w 5 .u8 v l) (t : ByteArray) (hx : a.eval y = .string t) (hb : l.length + t.size ≤ 140737488355328) (hB : B ≤ w.heap.size)
    (h : ∀ v' w', Own B w' 5 .u8 v' (l ++ ub t) → w.grownBy w' v.ownBlock → wpList Tryz.prog ops Q rest (a.put o.dst v') w') : wpList Tryz.prog ops Q (o :: rest) a w := by
  obtain ⟨i0, hi, hz0, hz1, hz2⟩ := info_parts info8
  refine Lib.wpList_append_own_string w hgd s y 29 9 hop B 5 i0 Tryz.underlying29 Tryz.underlying9 hi hz0 hz1 hz2 v l.length (l.map (Value.int .u8)) hs ho.1 t hx (by unfold maxLen; omega) hb hB fun v' w' h1 h2 _ => h v' w' ⟨?_, ho.2.app (ub_fit t)⟩ h2
  rw [List.length_append, ub_len, List.map_append, ← strCells_ub]
  exact h1
theorem uS_nn {n : Int} (h : NN n) : uS n = (nu n, 0) := uS_ok h.1 h.2
theorem NN.b64 {n : Int} (h : NN n) : -9223372036854775808 ≤ n ∧ n ≤ 9223372036854775807 := by unfold NN at h; omega
theorem flat_take {ns : List Int} {k : Nat} (h : k < ns.length) : (ns.take (k + 1)).flatMap nu = (ns.take k).flatMap nu ++ nu (gi ns k) := by
  rw [List.take_succ_eq_append_getElem h, List.flatMap_append]
  simp [gi, h]
theorem flat_nu_len {ns : List Int} (h : ∀ n ∈ ns, NN n) : (ns.flatMap nu).length ≤ ns.length * 8 := by
  induction ns with
  | nil => simp
  | cons x l ih =>
    rw [List.flatMap_cons, List.length_append, List.length_cons]
    have := nu_len (h x (List.mem_cons_self ..))
    have := ih fun y hy => h y (List.mem_cons_of_mem _ hy)
    omega
set_option maxRecDepth 100000 in
set_option maxHeartbeats 4000000 in
theorem numbers_any (w0 w : World) (g : Nat) (l ns : List Int) (gn q : Nat) (hq : ns.length = q) (h : WR w0 w g l) (hn : ∀ n ∈ ns, NN n) (hb : BK w gn (ns.map (Value.int .i64)).toArray 3) (hz : l.length + ns.length * 8 ≤ 140737488355328) :
    Calls Tryz.prog 117 #[.pointer (some ⟨g, 0, none⟩), .slice (some ⟨gn, 0, none⟩) q q] w (WRet w0 w g (l ++ ns.flatMap nu)) := by
  have HB := Lib.hid hb
  have HN := Lib.hid hn
  have HQ := Lib.hid hq
  have H := Lib.hid h
  obtain ⟨L, hL⟩ : ∃ L, l ++ ns.flatMap nu = L := ⟨_, rfl⟩
  have HL := Lib.hid hL
  have HZ := Lib.hid hz
  have hq0 : q ≤ 140737488355328 := by omega
  rw [hL]
  clear h hn hb hq hL hz
  go_enter Tryz.func117, Tryz.ntmps117
  go_wp2
  go_loopw [10] (fun i wr => ∃ (k : Nat), i = .int .i64 k ∧ k ≤ q ∧ Hid (WR w0 wr g (l ++ (ns.take k).flatMap nu)) ∧ Hid (Kp w wr)) (fun i _ => q - (intOf i).toNat)
  case atStart => exact ⟨0, rfl, by omega, Lib.hid (by simpa using H.out), Lib.hid (Kp.refl w)⟩
  case round =>
    obtain ⟨k, rfl, hk, HW, HK⟩ := hrel
    rename World => wo
    by_cases hlt : k < q
    · have hkn : k < ns.length := by have := HQ.out; omega
      have y0 : wo.cell? ⟨gn, k, none⟩ = some (.int .i64 (gi ns k)) := by
        rw [(HK.out.2 _ _ _ HB.out (by decide) (by decide)).cell k]
        simp [gi, hkn]
      have hnn := HN.out _ (gi_mem hkn)
      have hft := flat_take hkn
      obtain ⟨n, hnk⟩ : ∃ n, gi ns k = n := ⟨_, rfl⟩
      rw [hnk] at y0 hnn hft
      have hu := U_any n wo hnn.b64.1 hnn.b64.2
      rw [uS_nn hnn] at hu
      have HU := Lib.hid hu
      have hlen : (l ++ (ns.take k).flatMap nu).length + (nu n).length ≤ 140737488355328 := by
        have h1 := flat_nu_len (ns := ns.take (k + 1)) fun x hx => HN.out x (List.mem_of_mem_take hx)
        rw [hft, List.length_append] at h1
        have h2 := HZ.out
        rw [List.length_append]
        have h3 : (ns.take (k + 1)).length ≤ ns.length := by rw [List.length_take]; omega
        have := Nat.mul_le_mul_right 8 h3
        omega
      have HFT := Lib.hid hft
      have HLEN := Lib.hid hlen
      clear hkn hnn hnk hu hft hlen
      go_wp2_with fail
      refine HU.out.mono ?_
      rintro x w1 ⟨v1, rfl, ⟨b1, rfl, ho1⟩, x1⟩
      have W1 := Lib.hid (HW.out.ext x1)
      have K1 := Lib.hid (HK.out.trans (Kp.ext x1))
      have R1 := Lib.hid ho1.row
      obtain ⟨A1, n1, c1, rfl⟩ := ho1.slice
      clear ho1 x1 y0
      obtain ⟨A2, n2, c2, d0, d1, ho2, hb2⟩ := W1.out.cells
      have O2 := Lib.hid ho2
      have B2 := Lib.hid hb2
      have lg := hb2.lt
      clear ho2 hb2
      go_wp2_with (first
        | (at_builtin; go_loud (refine wpList_app _ rfl _ _ w0.heap.size 29 5 _ 1 .u8 rfl Tryz.underlying29 info8 rfl (by omega) (.slice A2 n2 c2) (l ++ (ns.take k).flatMap nu) rfl O2.out (.slice A1 n1 c1) (nu n) rfl R1.out (by have := HLEN.out; omega) W1.out.ext0.size ?_); intro v3 w3 o3 g3 _
           obtain ⟨W3, K3⟩ := WR.app B2.out O2.out W1.out.ext0 W1.out.base o3 g3
           have b3 : BK w3 g #[.slice A2 n2 c2] 68 := (g3.block g B2.out.lt (fun e => own_ne O2.out B2.out (by decide) e.symm)).trans B2.out
           have k3 : w3.cell? ⟨g, 0, none⟩ = some (.slice A2 n2 c2) := b3.cell 0
           have f3 : w3.frozen? ⟨g, 0, none⟩ = false := b3.free 0
           have l3 : g < w3.heap.size := by have := g3.size; omega
           obtain ⟨A3, n3, c3, rfl⟩ := o3.slice
           have HW3 := Lib.hid W3
           have HK3 := Lib.hid (K1.out.trans K3)
           clear W3 K3 o3 g3 d0 d1 b3))
      go_roundw
      case rel => exact ⟨k + 1, by go_num, by omega, Lib.hid (by rw [HFT.out, ← List.append_assoc]; exact HW3.out), HK3⟩
      case measure => simp [intOf]; omega
    · have hk : k = q := by omega
      have HE := Lib.hid (show l ++ (ns.take k).flatMap nu = L by rw [List.take_of_length_le (by have := HQ.out; omega)]; exact HL.out)
      go_wp2
      refine bodyPost_ret (results_tmp0 rfl _ _ _) rfl ?_
      exact ⟨rfl, by rw [← HE.out]; exact HW.out, HK.out⟩
theorem one_flat (n : Int) : ([n] : List Int).flatMap nu = nu n := by simp
set_option maxHeartbeats 2000000 in
theorem mark_any (w0 w : World) (g : Nat) (l : List Int) (b : Bool) (h : WR w0 w g l) (hz : l.length + 8 ≤ 140737488355328) :
    Calls Tryz.prog 63 #[.pointer (some ⟨g, 0, none⟩), .bool b, .int .i64 1] w (WRet w0 w g (l ++ nu (flg b))) := by
  have HN := Lib.hid (numbers_any w0 (w.alloc (.cells #[.int .i64 (flg b)] 3)) g l [flg b] w.heap.size 1 rfl (h.ext ((Ext.refl w).alloc _)) (fun n hn => by rw [List.mem_singleton.1 hn]; exact (flg_nn b).1) (BK.new w _ _) (by simp; omega))
  rw [one_flat] at HN
  have K := Lib.hid (Kp.ext ((Ext.refl w).alloc (.cells #[.int .i64 (flg b)] 3)))
  clear h hz
  cases b
  · rw [show flg false = 0 from rfl] at HN K ⊢
    go_enter Tryz.func63, Tryz.ntmps63
    go_wp2_with fail
    refine HN.out.mono ?_
    rintro x w1 ⟨rfl, h1, k1⟩
    go_wp2
    refine bodyPost_ret (results_tmp0 rfl _ _ _) rfl ?_
    exact ⟨rfl, h1, K.out.trans k1⟩
  · rw [show flg true = 1 from rfl] at HN K ⊢
    go_enter Tryz.func63, Tryz.ntmps63
    go_wp2_with fail
    refine HN.out.mono ?_
    rintro x w1 ⟨rfl, h1, k1⟩
    go_wp2
    refine bodyPost_ret (results_tmp0 rfl _ _ _) rfl ?_
    exact ⟨rfl, h1, K.out.trans k1⟩
theorem size_nn {s : ByteArray} (h : TX s) : NN s.size := by unfold TX at h; unfold NN; omega
theorem txA_len (s : ByteArray) (h : TX s) : (txA s).length ≤ s.size + 8 := by
  unfold txA
  rw [List.length_append, ub_len]
  have := nu_len (size_nn h)
  omega
set_option maxHeartbeats 4000000 in
theorem wtext_any (w0 w : World) (g : Nat) (l : List Int) (s : ByteArray) (h : WR w0 w g l) (ht : TX s) (hz : l.length + s.size + 8 ≤ 140737488355328) :
    Calls Tryz.prog 64 #[.pointer (some ⟨g, 0, none⟩), .string s] w (WRet w0 w g (l ++ txA s)) := by
  have HN := Lib.hid (numbers_any w0 (w.alloc (.cells #[.int .i64 s.size] 3)) g l [(s.size : Int)] w.heap.size 1 rfl (h.ext ((Ext.refl w).alloc _)) (fun n hn => by rw [List.mem_singleton.1 hn]; exact size_nn ht) (BK.new w _ _) (by simp; omega))
  rw [one_flat] at HN
  have K := Lib.hid (Kp.ext ((Ext.refl w).alloc (.cells #[.int .i64 s.size] 3)))
  have HZ := Lib.hid (show (l ++ nu s.size).length + s.size ≤ 140737488355328 by rw [List.length_append]; have := nu_len (size_nn ht); omega)
  have he : l ++ txA s = (l ++ nu s.size) ++ ub s := by unfold txA; rw [List.append_assoc]
  rw [he]
  obtain ⟨L, hL⟩ : ∃ L, l ++ nu s.size = L := ⟨_, rfl⟩
  rw [hL] at HN HZ ⊢
  clear h ht hz he hL
  go_enter Tryz.func64, Tryz.ntmps64
  go_wp2_with fail
  refine HN.out.mono ?_
  rintro x w1 ⟨rfl, h1, k1⟩
  obtain ⟨A2, n2, c2, d0, d1, ho2, hb2⟩ := h1.cells
  have W1 := Lib.hid h1
  have K1 := Lib.hid (K.out.trans k1)
  have O2 := Lib.hid ho2
  have B2 := Lib.hid hb2
  have lg := hb2.lt
  clear ho2 hb2 h1 k1
  go_wp2_with (first
    | (at_builtin; go_loud (refine wpList_appS _ rfl _ _ w0.heap.size rfl (.slice A2 n2 c2) L rfl O2.out s rfl HZ.out W1.out.ext0.size ?_); intro v3 w3 o3 g3
       obtain ⟨W3, K3⟩ := WR.app B2.out O2.out W1.out.ext0 W1.out.base o3 g3
       have b3 : BK w3 g #[.slice A2 n2 c2] 68 := (g3.block g B2.out.lt (fun e => own_ne O2.out B2.out (by decide) e.symm)).trans B2.out
       have k3 : w3.cell? ⟨g, 0, none⟩ = some (.slice A2 n2 c2) := b3.cell 0
       have f3 : w3.frozen? ⟨g, 0, none⟩ = false := b3.free 0
       have l3 : g < w3.heap.size := by have := g3.size; omega
       obtain ⟨A3, n3, c3, rfl⟩ := o3.slice
       have HW3 := Lib.hid W3
       have HK3 := Lib.hid (K1.out.trans K3)
       clear W3 K3 o3 g3 d0 d1 b3))
  refine bodyPost_ret (results_tmp0 rfl _ _ _) rfl ?_
  exact ⟨rfl, HW3.out, HK3.out⟩
end Go.Proofs.YtokmeomjdpfknaaGreatDoor
namespace Go.Proofs.YtokmeomjdpfknaaGreatDoor
open Go.RowKit
set_option linter.unusedVariables false

theorem hasAt_mem {l : List In} {t : Int} (h : hasAt l t = true) : ∃ x ∈ l, x.a = t := by
  unfold hasAt at h
  rw [List.any_eq_true] at h
  obtain ⟨x, hx, e⟩ := h
  exact ⟨x, hx, of_decide_eq_true e⟩
theorem fit_bytes {l : List Int} (h : Fit .u8 l) : Bytes l := fun c hc => h.u8 hc
theorem isKZ_rng {pool : List Cst} {n a b : Int} (h : isKZ pool n a b = true) (hp : pool.length ≤ 4096) : NN n := by
  unfold isKZ at h
  simp at h
  unfold NN
  omega
theorem checkZ_parts {m : Me} {pool : List Cst} (h : (checkZ m pool).2.2 = 0) : (cutZ m.code).2.2 = 0 ∧ roomZ m = true ∧ handsZ (cutZ m.code).1 m pool = true := by
  unfold checkZ chkL at h
  split at h <;> rename_i h1
  · split at h <;> rename_i h2
    · cases h
    · split at h <;> rename_i h3
      · exact ⟨h1, h3.1, h3.2⟩
      · cases h
  · exact absurd h h1
theorem checkZ_nums {m : Me} {pool : List Cst} (hb : Fit .u8 m.code) (h : (checkZ m pool).2.2 = 0) (hp : pool.length ≤ 4096) :
    NN m.sk ∧ NN m.lo ∧ m.code.length ≤ 8192 ∧ m.hs.length ≤ 256 ∧ ∀ h ∈ m.hs, HdOk h := by
  obtain ⟨h1, h2, h3⟩ := checkZ_parts h
  obtain ⟨p1, p2, p3, -, -⟩ := cutZ_parts h1
  have hall := cutF_all (fit_bytes hb) _ 0 rfl (by rw [p3]; exact h1)
  rw [p3] at hall
  have at_ : ∀ {t : Int}, hasAt (cutZ m.code).1 t = true → NN t := fun e => by
    obtain ⟨x, hx, rfl⟩ := hasAt_mem e
    have := hall x hx
    unfold NN
    omega
  unfold roomZ at h2
  have h2 := of_decide_eq_true h2
  unfold handsZ at h3
  rw [Bool.and_eq_true, List.all_eq_true] at h3
  refine ⟨⟨h2.1, by omega⟩, ⟨h2.2.2.1, by omega⟩, p1, of_decide_eq_true h3.2, fun x hx => ?_⟩
  have hz := h3.1 x hx
  unfold handZ at hz
  simp only [Bool.and_eq_true, Bool.or_eq_true, decide_eq_true_eq] at hz
  obtain ⟨z1, z2, z3, z4, z5⟩ := hz
  refine ⟨at_ z1, ?_, at_ z2, ?_⟩
  · rcases z4 with z4 | z4
    · exact at_ z4
    · rw [z4]; exact ⟨by omega, by omega⟩
  · rcases z5 with z5 | z5
    · rw [z5]; exact ⟨by decide, by decide⟩
    · exact isKZ_rng z5 hp
theorem kdZ_nn (m : Me) : NN (kdZ m) ∧ kdZ m ≤ 2 := by
  unfold kdZ
  split
  · exact ⟨⟨by decide, by decide⟩, by decide⟩
  · exact ⟨(flg_nn _).1, by have := (flg_nn m.st).2; omega⟩
theorem gMe_fwd {pool : List Cst} (hp : pool.length ≤ 4096) : Fwd gMe meZ (fun m => okMe pool m = true ∧ Fit .u8 m.code) := fun m r h => by
  obtain ⟨h, hf⟩ := h
  unfold okMe at h
  rw [Bool.and_eq_true, Bool.and_eq_true, decide_eq_true_eq] at h
  obtain ⟨h1, h2, h3⟩ := h
  have e1 := fun q => gUp_fwd 2 (kdZ m) q (kdZ_nn m)
  have e2 := fun q => gTx_fwd m.nm q (by have := nameB_size h1; unfold TX; omega)
  have e3 := fun q => gPr_fwd m.pr q h2
  unfold gMe meZ
  simp only [List.append_assoc, e1, e2, e3]
  by_cases hab : m.ab = true
  · have hk : kdZ m = 2 := by unfold kdZ; rw [if_pos hab]
    rw [if_pos hab] at h3
    simp only [Bool.and_eq_true, Bool.not_eq_true', decide_eq_true_eq] at h3
    obtain ⟨k1, k2, k3, k4, k5⟩ := h3
    simp only [hk, hab, if_true, List.nil_append]
    obtain ⟨st, ab, nm, ret, args, sk, lo, code, hs⟩ := m
    simp only at hab k1 k2 k3 k4 k5
    obtain rfl : code = [] := List.eq_nil_of_length_eq_zero k4
    obtain rfl : hs = [] := List.eq_nil_of_length_eq_zero k5
    subst hab k1 k2 k3
    simp only [Me.pr, tyO_D, map_OD]
    rfl
  · have hab : m.ab = false := by simpa using hab
    have hk : kdZ m = flg m.st := by unfold kdZ; rw [hab]; rfl
    have hk2 : ¬ flg m.st = 2 := by cases m.st <;> decide
    rw [hab] at h3
    simp only [Bool.false_eq_true, if_false, decide_eq_true_eq] at h3
    obtain ⟨c1, c2, c3, c4, c5⟩ := checkZ_nums hf h3 hp
    have g1 := fun q => gU_fwd m.sk q c1
    have g2 := fun q => gU_fwd m.lo q c2
    have g3 := fun q => gU_fwd (m.code.length : Int) q ⟨by omega, by omega⟩
    have g4 := gB_fwd m.code
    have g5 := gLs_fwd 256 (by decide) gHd_fwd m.hs r ⟨by omega, c5⟩
    simp only [hk, hk2, hab, if_false, Bool.false_eq_true]
    unfold gMt meT
    simp only [List.append_assoc, g1, g2, g3, g4, g5, decide_false, flg_one]
    obtain ⟨st, ab, nm, ret, args, sk, lo, code, hs⟩ := m
    simp only at hab
    subst hab
    simp only [Me.pr, tyO_D, map_OD]
theorem gPool_fit {s : RSt} (hf : Fit .u8 s.1) : Fit .u8 (gPool s).2.1 := by
  unfold gPool
  split
  · simp only
    split
    · exact hf
    · exact hf.drop _
  · exact hf
theorem suf_drop {l m : List Int} (h : m <:+ l) : l.drop (l.length - m.length) = m := by
  obtain ⟨p, rfl⟩ := h
  rw [List.length_append, show p.length + m.length - m.length = p.length by omega, List.drop_left]
theorem gPool_fwd {l : List Cst} (hc : checkC l = 0) (ht : Told l) (r : List Int) : gPool (bytesZ l ++ r, false) = (l, r, false) := by
  obtain ⟨h1, h2⟩ := parse_bytes hc ht r
  unfold gPool
  simp only [h2, if_true, h1, Bool.false_eq_true, if_false]
  rw [suf_drop (List.suffix_append _ _)]
theorem gHead_fit {b : List Int} (hf : Fit .u8 b) : Fit .u8 (gHead b).1 := (gB_fit hf).2
theorem gHead_fwd (r : List Int) : gHead ([87, 66, 1] ++ r) = (r, false) := by
  unfold gHead
  rw [show (3 : Int) = ([87, 66, 1] : List Int).length from rfl, gB_fwd]
  simp
theorem okCl_parts {c : Cl} (h : okCl c = true) : checkC c.pool = 0 ∧ nmB c.nm = true ∧ (c.sup = .empty ∨ nmB c.sup = true) ∧ c.ifs.length ≤ 64 ∧ (∀ x ∈ c.ifs, nmB x = true) ∧ c.fds.length ≤ 256 ∧ (∀ x ∈ c.fds, okFd x = true) ∧ c.mts.length ≤ 256 ∧ ∀ x ∈ c.mts, okMe c.pool x = true := by
  unfold okCl at h
  simp only [Bool.and_eq_true, Bool.or_eq_true, decide_eq_true_eq, List.all_eq_true] at h
  exact h
def Good (c : Cl) : Prop := Told c.pool ∧ ∀ m ∈ c.mts, Fit .u8 m.code
theorem gTl_fwd {c : Cl} (h : okCl c = true) (hg : Good c) (r : List Int) : gTl c.pool (tlZ c ++ r, false) = (c, r, false) := by
  obtain ⟨h1, h2, h3, h4, h5, h6, h7, h8, h9⟩ := okCl_parts h
  have hp := (check_all h1).1
  have hs : TX c.sup := by
    rcases h3 with h3 | h3
    · rw [h3]; exact Nat.zero_le _
    · have := nameB_size h3; unfold TX; omega
  have e1 := fun q => gUp_fwd 1 (flg c.inf) q (flg_nn _)
  have e2 := fun q => gTx_fwd c.nm q (by have := nameB_size h2; unfold TX; omega)
  have e3 := fun q => gTx_fwd c.sup q hs
  have e4 := fun q => gLs_fwd 64 (by decide) gTx_fwd c.ifs q ⟨by omega, fun x hx => by have := nameB_size (h5 x hx); unfold TX; omega⟩
  have e5 := fun q => gLs_fwd 256 (by decide) gFd_fwd c.fds q ⟨by omega, h7⟩
  have e6 := fun q => gLs_fwd 256 (by decide) (gMe_fwd hp) c.mts q ⟨by omega, fun x hx => ⟨h9 x hx, hg.2 x hx⟩⟩
  unfold gTl tlZ
  simp only [List.append_assoc, e1, e2, e3, e4, e5, e6, flg_one]
theorem gCl_fwd {c : Cl} (h : okCl c = true) (hg : Good c) (r : List Int) : gCl (clZ c ++ r) = (c, r, false) := by
  have h1 := (okCl_parts h).1
  unfold gCl clZ
  rw [List.append_assoc, gHead_fwd, List.append_assoc, gPool_fwd h1 hg.1]
  exact gTl_fwd h hg r
theorem parseK_fwd {c : Cl} (h : okCl c = true) (hg : Good c) (hl : (clZ c).length ≤ 65535) : parseK (clZ c) = (c, 0) := by
  have e := gCl_fwd h hg []
  rw [List.append_nil] at e
  unfold parseK
  rw [if_neg (by omega), e, if_neg (by simp), if_pos h]
end Go.Proofs.YtokmeomjdpfknaaGreatDoor
