/- Several texts of this proof, one behind the other. -/
import Derived.Test.YtokmeomjdpfknaaGreatDoorZaAG
import Derived.Lib.AppendStr
import Derived.Test.YtokmeomjdpfknaaGreatDoorZaAD
import Derived.Test.YtokmeomjdpfknaaGreatDoorZaAE
/- The program's writer of classes, walked: numbers, mark, text. -/
namespace Go.Proofs.YtokmeomjdpfknaaGreatDoor
open Go.RowKit
set_option linter.unusedVariables false

def Kp (w w' : World) : Prop := w.heap.size ≤ w'.heap.size ∧ ∀ b cs T, BK w b cs T → T ≠ 5 → T ≠ 68 → BK w' b cs T
theorem Kp.refl (w : World) : Kp w w := ⟨Nat.le_refl _, fun _ _ _ h _ _ => h⟩
theorem Kp.trans {a b c : World} (h : Kp a b) (k : Kp b c) : Kp a c := ⟨Nat.le_trans h.1 k.1, fun x cs T hb h1 h2 => k.2 x cs T (h.2 x cs T hb h1 h2) h1 h2⟩
theorem Kp.ext {a b : World} (e : Ext a b) : Kp a b := ⟨e.size, fun _ _ _ h _ _ => h.ext e⟩
theorem Kp.grown {a b : World} {r : Option Nat} (hg : a.grownBy b r) (hr : ∀ g, r = some g → ∃ c T z, a.heap[g]? = some (.cells c T z) ∧ (T = 5 ∨ T = 68)) : Kp a b := by
  refine ⟨hg.size, fun x cs T hb h1 h2 => (hg.block x hb.lt (fun e => ?_)).trans hb⟩
  obtain ⟨c, T', z, h, h3⟩ := hr x e.symm
  rw [show a.heap[x]? = _ from hb] at h
  injection h with h
  injection h with _ h _
  subst h
  rcases h3 with h3 | h3
  · exact h1 h3
  · exact h2 h3
theorem Own.blk {B : Nat} {w : World} {e : TypeId} {k : IntKind} {v : Value} {l : List Int} (h : Own B w e k v l) : ∀ g, v.ownBlock = some g → ∃ c z, w.heap[g]? = some (.cells c e z) := by
  intro g hg
  rcases h.1.2 with ⟨rfl, _⟩ | ⟨g', cap, cur, rfl, _, hg', _⟩
  · cases hg
  · injection hg with hg
    subst hg
    exact ⟨_, _, hg'⟩
def WR (w0 w : World) (g : Nat) (l : List Int) : Prop :=
  ∃ v, BK w g #[v] 68 ∧ Own w0.heap.size w 5 .u8 v l ∧ Ext w0 w ∧ w0.heap.size ≤ g
section
variable {w0 w w' : World} {g : Nat} {l m : List Int}
theorem WR.lt (h : WR w0 w g l) : g < w.heap.size := by
  obtain ⟨v, hg, _⟩ := h
  exact hg.lt
theorem WR.base (h : WR w0 w g l) : w0.heap.size ≤ g := by
  obtain ⟨v, hg, _, _, h4⟩ := h
  exact h4
theorem WR.ext0 (h : WR w0 w g l) : Ext w0 w := by
  obtain ⟨v, hg, _, h3, h4⟩ := h
  exact h3
theorem WR.ext (h : WR w0 w g l) (he : Ext w w') : WR w0 w' g l := by
  obtain ⟨v, hg, h2, h3, h4⟩ := h
  exact ⟨v, hg.ext he, h2.ext he, h3.trans he, h4⟩
theorem WR.cells (h : WR w0 w g l) : ∃ A n c, w.cell? ⟨g, 0, none⟩ = some (.slice A n c) ∧ w.frozen? ⟨g, 0, none⟩ = false ∧ Own w0.heap.size w 5 .u8 (.slice A n c) l ∧ BK w g #[.slice A n c] 68 := by
  obtain ⟨v, hg, h2, h3, h4⟩ := h
  obtain ⟨A, n, c, rfl⟩ := h2.slice
  exact ⟨A, n, c, hg.cell 0, hg.free 0, h2, hg⟩
theorem WR.app {v v' : Value} (hb : BK w g #[v] 68) (ho : Own w0.heap.size w 5 .u8 v l) (hx : Ext w0 w) (h0 : w0.heap.size ≤ g)
    (ho' : Own w0.heap.size w' 5 .u8 v' m) (hg : w.grownBy w' v.ownBlock) : WR w0 (w'.setCell ⟨g, 0, none⟩ v') g m ∧ Kp w (w'.setCell ⟨g, 0, none⟩ v') := by
  have hne : v.ownBlock ≠ some g := own_ne ho hb (by decide)
  have hb' : BK w' g #[v] 68 := (hg.block g hb.lt (fun e => hne e.symm)).trans hb
  have hne' : v'.ownBlock ≠ some g := own_ne ho' hb' (by decide)
  have s1 := only_set (World.grownBy.refl w' (some g)) 0 v'
  refine ⟨⟨v', hb'.put 0 v', ho'.kept s1 (fun k hk e => by injection e with e; subst e; exact hne' hk), (hx.grown hg (fun k hk => ho.low k hk)).set_ h0 _, h0⟩, ?_⟩
  refine (Kp.grown hg (fun k hk => ?_)).trans (Kp.grown s1 fun k hk => ?_)
  · obtain ⟨c, z, hc⟩ := ho.blk k hk
    exact ⟨c, _, z, hc, .inl rfl⟩
  · injection hk with hk
    subst hk
    exact ⟨_, _, _, hb', .inr rfl⟩
end
def WRet (w0 w : World) (g : Nat) (l : List Int) (x : Ending) (w' : World) : Prop := x = .returned (.tuple #[]) ∧ WR w0 w' g l ∧ Kp w w'
theorem strCells_ub (s : ByteArray) : Lib.strCells s = (ub s).map (Value.int .u8) := by
  unfold Lib.strCells ub
  rw [List.map_map]
  rfl
theorem wpList_appS (w : World) {ops : Array Oper} {rest : List Oper} {o : Oper} {a : Act} {Q : Exit → Act → World → Prop} (hgd : o.guard = none) (s y : Operand) (B : Nat)
    (hop : o.op = .call { callee := .builtin .append, args := #[s, y], argTypes := #[29, 9] })
    (v : Value) (l : List Int) (hs : a.eval s = v) (ho : Own B w 5 .u8 v l) (t : ByteArray) (hx : a.eval y = .string t) (hb : l.length + t.size ≤ 140737488355328) (hB : B ≤ w.heap.size)
    (h : ∀ v' w', Own B w' 5 .u8 v' (l ++ ub t) → w.grownBy w' v.ownBlock → wpList Tryz.prog ops Q rest (a.put o.dst v') w') : wpList Tryz.prog ops Q (o :: rest) a w := by
  obtain ⟨i0, hi, hz0, hz1, hz2⟩ := info_parts info8
  refine Lib.wpList_append_own_string w hgd s y 29 9 hop B 5 i0 Tryz.underlying29 Tryz.underlying9 hi hz0 hz1 hz2 v l.length (l.map (Value.int .u8)) hs ho.1 t hx (by unfold maxLen; omega) hb hB fun v' w' h1 h2 _ => h v' w' ⟨?_, ho.2.app (ub_fit t)⟩ h2
  rw [List.length_append, ub_len, List.map_append, ← strCells_ub]
  exact h1
theorem uS_nn {n : Int} (h : NN n) : uS n = (nu n, 0) := uS_ok h.1 h.2
theorem NN.b64 {n : Int} (h : NN n) : -9223372036854775808 ≤ n ∧ n ≤ 9223372036854775807 := by unfold NN at h; omega
theorem flat_take {ns : List Int} {k : Nat} (h : k < ns.length) : (ns.take (k + 1)).flatMap nu = (ns.take k).flatMap nu ++ nu (gi ns k) := by
  rw [List.take_succ_eq_append_getElem h, List.flatMap_append]
  simp [gi, h]
theorem flat_nu_len {ns : List Int} (h : ∀ n ∈ ns, NN n) : (ns.flatMap nu).length ≤ ns.length * 8 := by
  induction ns with
  | nil => simp
  | cons x l ih =>
    rw [List.flatMap_cons, List.length_append, List.length_cons]
    have := nu_len (h x (List.mem_cons_self ..))
    have := ih fun y hy => h y (List.mem_cons_of_mem _ hy)
    omega
set_option maxRecDepth 100000 in
set_option maxHeartbeats 4000000 in
theorem numbers_any (w0 w : World) (g : Nat) (l ns : List Int) (gn q : Nat) (hq : ns.length = q) (h : WR w0 w g l) (hn : ∀ n ∈ ns, NN n) (hb : BK w gn (ns.map (Value.int .i64)).toArray 3) (hz : l.length + ns.length * 8 ≤ 140737488355328) :
    Calls Tryz.prog 117 #[.pointer (some ⟨g, 0, none⟩), .slice (some ⟨gn, 0, none⟩) q q] w (WRet w0 w g (l ++ ns.flatMap nu)) := by
  have HB := Lib.hid hb
  have HN := Lib.hid hn
  have HQ := Lib.hid hq
  have H := Lib.hid h
  obtain ⟨L, hL⟩ : ∃ L, l ++ ns.flatMap nu = L := ⟨_, rfl⟩
  have HL := Lib.hid hL
  have HZ := Lib.hid hz
  have hq0 : q ≤ 140737488355328 := by omega
  rw [hL]
  clear h hn hb hq hL hz
  go_enter Tryz.func117, Tryz.ntmps117
  go_wp2
  go_loopw [10] (fun i wr => ∃ (k : Nat), i = .int .i64 k ∧ k ≤ q ∧ Hid (WR w0 wr g (l ++ (ns.take k).flatMap nu)) ∧ Hid (Kp w wr)) (fun i _ => q - (intOf i).toNat)
  case atStart => exact ⟨0, rfl, by omega, Lib.hid (by simpa using H.out), Lib.hid (Kp.refl w)⟩
  case round =>
    obtain ⟨k, rfl, hk, HW, HK⟩ := hrel
    rename World => wo
    by_cases hlt : k < q
    · have hkn : k < ns.length := by have := HQ.out; omega
      have y0 : wo.cell? ⟨gn, k, none⟩ = some (.int .i64 (gi ns k)) := by
        rw [(HK.out.2 _ _ _ HB.out (by decide) (by decide)).cell k]
        simp [gi, hkn]
      have hnn := HN.out _ (gi_mem hkn)
      have hft := flat_take hkn
      obtain ⟨n, hnk⟩ : ∃ n, gi ns k = n := ⟨_, rfl⟩
      rw [hnk] at y0 hnn hft
      have hu := U_any n wo hnn.b64.1 hnn.b64.2
      rw [uS_nn hnn] at hu
      have HU := Lib.hid hu
      have hlen : (l ++ (ns.take k).flatMap nu).length + (nu n).length ≤ 140737488355328 := by
        have h1 := flat_nu_len (ns := ns.take (k + 1)) fun x hx => HN.out x (List.mem_of_mem_take hx)
        rw [hft, List.length_append] at h1
        have h2 := HZ.out
        rw [List.length_append]
        have h3 : (ns.take (k + 1)).length ≤ ns.length := by rw [List.length_take]; omega
        have := Nat.mul_le_mul_right 8 h3
        omega
      have HFT := Lib.hid hft
      have HLEN := Lib.hid hlen
      clear hkn hnn hnk hu hft hlen
      go_wp2_with fail
      refine HU.out.mono ?_
      rintro x w1 ⟨v1, rfl, ⟨b1, rfl, ho1⟩, x1⟩
      have W1 := Lib.hid (HW.out.ext x1)
      have K1 := Lib.hid (HK.out.trans (Kp.ext x1))
      have R1 := Lib.hid ho1.row
      obtain ⟨A1, n1, c1, rfl⟩ := ho1.slice
      clear ho1 x1 y0
      obtain ⟨A2, n2, c2, d0, d1, ho2, hb2⟩ := W1.out.cells
      have O2 := Lib.hid ho2
      have B2 := Lib.hid hb2
      have lg := hb2.lt
      clear ho2 hb2
      go_wp2_with (first
        | (at_builtin; go_loud (refine wpList_app _ rfl _ _ w0.heap.size 29 5 _ 1 .u8 rfl Tryz.underlying29 info8 rfl (by omega) (.slice A2 n2 c2) (l ++ (ns.take k).flatMap nu) rfl O2.out (.slice A1 n1 c1) (nu n) rfl R1.out (by have := HLEN.out; omega) W1.out.ext0.size ?_); intro v3 w3 o3 g3 _
           obtain ⟨W3, K3⟩ := WR.app B2.out O2.out W1.out.ext0 W1.out.base o3 g3
           have b3 : BK w3 g #[.slice A2 n2 c2] 68 := (g3.block g B2.out.lt (fun e => own_ne O2.out B2.out (by decide) e.symm)).trans B2.out
           have k3 : w3.cell? ⟨g, 0, none⟩ = some (.slice A2 n2 c2) := b3.cell 0
           have f3 : w3.frozen? ⟨g, 0, none⟩ = false := b3.free 0
           have l3 : g < w3.heap.size := by have := g3.size; omega
           obtain ⟨A3, n3, c3, rfl⟩ := o3.slice
           have HW3 := Lib.hid W3
           have HK3 := Lib.hid (K1.out.trans K3)
           clear W3 K3 o3 g3 d0 d1 b3))
      go_roundw
      case rel => exact ⟨k + 1, by go_num, by omega, Lib.hid (by rw [HFT.out, ← List.append_assoc]; exact HW3.out), HK3⟩
      case measure => simp [intOf]; omega
    · have hk : k = q := by omega
      have HE := Lib.hid (show l ++ (ns.take k).flatMap nu = L by rw [List.take_of_length_le (by have := HQ.out; omega)]; exact HL.out)
      go_wp2
      refine bodyPost_ret (results_tmp0 rfl _ _ _) rfl ?_
      exact ⟨rfl, by rw [← HE.out]; exact HW.out, HK.out⟩
theorem one_flat (n : Int) : ([n] : List Int).flatMap nu = nu n := by simp
set_option maxHeartbeats 2000000 in
theorem mark_any (w0 w : World) (g : Nat) (l : List Int) (b : Bool) (h : WR w0 w g l) (hz : l.length + 8 ≤ 140737488355328) :
    Calls Tryz.prog 63 #[.pointer (some ⟨g, 0, none⟩), .bool b, .int .i64 1] w (WRet w0 w g (l ++ nu (flg b))) := by
  have HN := Lib.hid (numbers_any w0 (w.alloc (.cells #[.int .i64 (flg b)] 3)) g l [flg b] w.heap.size 1 rfl (h.ext ((Ext.refl w).alloc _)) (fun n hn => by rw [List.mem_singleton.1 hn]; exact (flg_nn b).1) (BK.new w _ _) (by simp; omega))
  rw [one_flat] at HN
  have K := Lib.hid (Kp.ext ((Ext.refl w).alloc (.cells #[.int .i64 (flg b)] 3)))
  clear h hz
  cases b
  · rw [show flg false = 0 from rfl] at HN K ⊢
    go_enter Tryz.func63, Tryz.ntmps63
    go_wp2_with fail
    refine HN.out.mono ?_
    rintro x w1 ⟨rfl, h1, k1⟩
    go_wp2
    refine bodyPost_ret (results_tmp0 rfl _ _ _) rfl ?_
    exact ⟨rfl, h1, K.out.trans k1⟩
  · rw [show flg true = 1 from rfl] at HN K ⊢
    go_enter Tryz.func63, Tryz.ntmps63
    go_wp2_with fail
    refine HN.out.mono ?_
    rintro x w1 ⟨rfl, h1, k1⟩
    go_wp2
    refine bodyPost_ret (results_tmp0 rfl _ _ _) rfl ?_
    exact ⟨rfl, h1, K.out.trans k1⟩
theorem size_nn {s : ByteArray} (h : TX s) : NN s.size := by unfold TX at h; unfold NN; omega
theorem txA_len (s : ByteArray) (h : TX s) : (txA s).length ≤ s.size + 8 := by
  unfold txA
  rw [List.length_append, ub_len]
  have := nu_len (size_nn h)
  omega
set_option maxHeartbeats 4000000 in
theorem wtext_any (w0 w : World) (g : Nat) (l : List Int) (s : ByteArray) (h : WR w0 w g l) (ht : TX s) (hz : l.length + s.size + 8 ≤ 140737488355328) :
    Calls Tryz.prog 64 #[.pointer (some ⟨g, 0, none⟩), .string s] w (WRet w0 w g (l ++ txA s)) := by
  have HN := Lib.hid (numbers_any w0 (w.alloc (.cells #[.int .i64 s.size] 3)) g l [(s.size : Int)] w.heap.size 1 rfl (h.ext ((Ext.refl w).alloc _)) (fun n hn => by rw [List.mem_singleton.1 hn]; exact size_nn ht) (BK.new w _ _) (by simp; omega))
  rw [one_flat] at HN
  have K := Lib.hid (Kp.ext ((Ext.refl w).alloc (.cells #[.int .i64 s.size] 3)))
  have HZ := Lib.hid (show (l ++ nu s.size).length + s.size ≤ 140737488355328 by rw [List.length_append]; have := nu_len (size_nn ht); omega)
  have he : l ++ txA s = (l ++ nu s.size) ++ ub s := by unfold txA; rw [List.append_assoc]
  rw [he]
  obtain ⟨L, hL⟩ : ∃ L, l ++ nu s.size = L := ⟨_, rfl⟩
  rw [hL] at HN HZ ⊢
  clear h ht hz he hL
  go_enter Tryz.func64, Tryz.ntmps64
  go_wp2_with fail
  refine HN.out.mono ?_
  rintro x w1 ⟨rfl, h1, k1⟩
  obtain ⟨A2, n2, c2, d0, d1, ho2, hb2⟩ := h1.cells
  have W1 := Lib.hid h1
  have K1 := Lib.hid (K.out.trans k1)
  have O2 := Lib.hid ho2
  have B2 := Lib.hid hb2
  have lg := hb2.lt
  clear ho2 hb2 h1 k1
  go_wp2_with (first
    | (at_builtin; go_loud (refine wpList_appS _ rfl _ _ w0.heap.size rfl (.slice A2 n2 c2) L rfl O2.out s rfl HZ.out W1.out.ext0.size ?_); intro v3 w3 o3 g3
       obtain ⟨W3, K3⟩ := WR.app B2.out O2.out W1.out.ext0 W1.out.base o3 g3
       have b3 : BK w3 g #[.slice A2 n2 c2] 68 := (g3.block g B2.out.lt (fun e => own_ne O2.out B2.out (by decide) e.symm)).trans B2.out
       have k3 : w3.cell? ⟨g, 0, none⟩ = some (.slice A2 n2 c2) := b3.cell 0
       have f3 : w3.frozen? ⟨g, 0, none⟩ = false := b3.free 0
       have l3 : g < w3.heap.size := by have := g3.size; omega
       obtain ⟨A3, n3, c3, rfl⟩ := o3.slice
       have HW3 := Lib.hid W3
       have HK3 := Lib.hid (K1.out.trans K3)
       clear W3 K3 o3 g3 d0 d1 b3))
  refine bodyPost_ret (results_tmp0 rfl _ _ _) rfl ?_
  exact ⟨rfl, HW3.out, HK3.out⟩
end Go.Proofs.YtokmeomjdpfknaaGreatDoor
/- The program's writer of classes, walked: a handler, lists, a field. (gen_clwr2.py) -/
namespace Go.Proofs.YtokmeomjdpfknaaGreatDoor
open Go.RowKit
set_option linter.unusedVariables false

theorem flat_leI {α : Type} {f : α → List Int} {b : Nat} : ∀ {l : List α}, (∀ x ∈ l, (f x).length ≤ b) → (l.flatMap f).length ≤ l.length * b := by
  intro l
  induction l with
  | nil => intro _; simp
  | cons x l ih =>
    intro h
    rw [List.flatMap_cons, List.length_append, List.length_cons, Nat.add_mul]
    have := h x (List.mem_cons_self ..)
    have := ih fun y hy => h y (List.mem_cons_of_mem _ hy)
    omega
theorem flat_takeG {α : Type} {f : α → List Int} {l : List α} {k : Nat} {x : α} (h : l[k]? = some x) : (l.take (k + 1)).flatMap f = (l.take k).flatMap f ++ f x := by
  obtain ⟨hk, rfl⟩ := List.getElem?_eq_some_iff.1 h
  rw [List.take_succ_eq_append_getElem hk, List.flatMap_append]
  simp
set_option maxHeartbeats 2000000 in
theorem whandler_any (w0 w : World) (g : Nat) (l : List Int) (x : Hd) (h : WR w0 w g l) (hx : HdOk x) (hz : l.length + 32 ≤ 140737488355328) :
    Calls Tryz.prog 121 #[.pointer (some ⟨g, 0, none⟩), .agg x.vals] w (WRet w0 w g (l ++ hdZ x)) := by
  obtain ⟨a, b, c, d⟩ := x
  obtain ⟨h1, h2, h3, h4⟩ := hx
  simp only at h1 h2 h3 h4
  have e : ([a, b, c, d] : List Int).flatMap nu = hdZ ⟨a, b, c, d⟩ := by simp [hdZ]
  have HN := Lib.hid (numbers_any w0 ((w.alloc (.cells #[.int .i64 a, .int .i64 b, .int .i64 c, .int .i64 d] 58)).alloc (.cells #[.int .i64 a, .int .i64 b, .int .i64 c, .int .i64 d] 3)) g l [a, b, c, d] (w.heap.size + 1) 4 rfl (h.ext (((Ext.refl w).alloc _).alloc _)) (fun n hn => by simp at hn; rcases hn with rfl | rfl | rfl | rfl <;> assumption) (by have := BK.new (w.alloc (.cells #[.int .i64 a, .int .i64 b, .int .i64 c, .int .i64 d] 58)) #[.int .i64 a, .int .i64 b, .int .i64 c, .int .i64 d] 3; simpa [BK] using this) (by simp; omega))
  rw [e] at HN
  have K := Lib.hid (Kp.ext (((Ext.refl w).alloc (.cells #[.int .i64 a, .int .i64 b, .int .i64 c, .int .i64 d] 58)).alloc (.cells #[.int .i64 a, .int .i64 b, .int .i64 c, .int .i64 d] 3)))
  obtain ⟨L, hL⟩ : ∃ L, l ++ hdZ ⟨a, b, c, d⟩ = L := ⟨_, rfl⟩
  rw [hL] at HN ⊢
  unfold Hd.vals
  clear h h1 h2 h3 h4 e hL hz
  go_enter Tryz.func121, Tryz.ntmps121
  go_wp2_with fail
  refine HN.out.mono ?_
  rintro x w1 ⟨rfl, h1, k1⟩
  go_wp2
  refine bodyPost_ret (results_tmp0 rfl _ _ _) rfl ?_
  exact ⟨rfl, h1, K.out.trans k1⟩
set_option maxRecDepth 100000 in
set_option maxHeartbeats 2000000 in
theorem putS_any (w0 w : World) (g : Nat) (l : List Int) (fid : FuncId) (enc : ByteArray → List Int) (M : Nat) (v : Value) (xs : List ByteArray) (h : WR w0 w g l) (hr : ShS.Row w0 v xs) (hn : xs.length ≤ 256) (hz : l.length + 8 + xs.length * M ≤ 140737488355328) (hm : ∀ x ∈ xs, (enc x).length ≤ M)
    (hc : ∀ args W, (callFunc fid args).run Tryz.prog W = .ok (.enter fid args) W) (hone : ∀ W l x, x ∈ xs → WR w0 W g l → l.length + M ≤ 140737488355328 → Calls Tryz.prog fid #[.pointer (some ⟨g, 0, none⟩), .string x] W (WRet w0 W g (l ++ enc x))) :
    Calls Tryz.prog 65 #[.pointer (some ⟨g, 0, none⟩), v, .func (.func fid) #[.pointer (some ⟨g, 0, none⟩)] #[]] w (WRet w0 w g (l ++ lsZ enc xs)) := by
  have HR := Lib.hid hr
  have HN := Lib.hid (numbers_any w0 (w.alloc (.cells #[.int .i64 xs.length] 3)) g l [(xs.length : Int)] w.heap.size 1 rfl (h.ext ((Ext.refl w).alloc _)) (fun n hn => by rw [List.mem_singleton.1 hn]; exact ⟨by omega, by omega⟩) (BK.new w _ _) (by simp; omega))
  rw [one_flat] at HN
  have K0 := Lib.hid (Kp.ext ((Ext.refl w).alloc (.cells #[.int .i64 xs.length] 3)))
  have hl8 := nu_len (n := (xs.length : Int)) ⟨by omega, by omega⟩
  obtain ⟨A, c, rfl, hc0, hcm, -⟩ := hr.cut
  unfold maxLen at hcm
  obtain ⟨n, hnn⟩ : ∃ n, xs.length = n := ⟨_, rfl⟩
  have HNN := Lib.hid hnn
  have HZ := Lib.hid hz
  have HM := Lib.hid hm
  have HO := Lib.hid hone
  have HE : Hid (l ++ lsZ enc xs = (l ++ nu n) ++ xs.flatMap enc) := Lib.hid (by unfold lsZ; rw [hnn, List.append_assoc])
  rw [hnn] at HN K0 hc0 hl8 HR hn ⊢
  have HL8 := Lib.hid (show (l ++ nu n).length ≤ l.length + 8 by rw [List.length_append]; omega)
  obtain ⟨L0, hL0⟩ : ∃ L, l ++ nu (n : Int) = L := ⟨_, rfl⟩
  rw [hL0] at HN HE HL8
  obtain ⟨L, hL⟩ : ∃ L, l ++ lsZ enc xs = L := ⟨_, rfl⟩
  rw [hL] at HE ⊢
  clear h hr hz hm hone hnn hl8 hL0 hL
  go_enter Tryz.func65, Tryz.ntmps65
  go_wp2_with fail
  refine HN.out.mono ?_
  rintro x w1 ⟨rfl, h1, k1⟩
  have H1 := Lib.hid h1
  have K1 := Lib.hid (K0.out.trans k1)
  clear h1 k1
  go_wp2_with fail
  go_loopw [15] (fun i wr => ∃ (k : Nat), i = .int .i64 k ∧ k ≤ n ∧ Hid (WR w0 wr g (L0 ++ (xs.take k).flatMap enc)) ∧ Hid (Kp w wr)) (fun i _ => n - (intOf i).toNat)
  case atStart => exact ⟨0, rfl, by omega, Lib.hid (by simpa using H1.out), K1⟩
  case round =>
    obtain ⟨k, rfl, hk, HW, HK⟩ := hrel
    rename World => wo
    by_cases hlt : k < n
    · have hkl : k < xs.length := by have := HNN.out; omega
      obtain ⟨b, o, rfl, hat⟩ := rowS_at HR.out (by omega)
      have y0 := hat _ HW.out.ext0 k hkl
      have hbz : (L0 ++ (xs.take k).flatMap enc).length + M ≤ 140737488355328 := by
        have h1 := flat_leI (l := xs.take k) fun x hx => HM.out x (List.mem_of_mem_take hx)
        rw [List.length_take, Nat.min_eq_left (by omega)] at h1
        have h2 := HZ.out
        have h3 := HL8.out
        have h4 : (k + 1) * M ≤ xs.length * M := Nat.mul_le_mul_right _ hkl
        rw [Nat.add_mul] at h4
        rw [List.length_append]
        omega
      have hft := flat_takeG (f := enc) (gs_some hkl)
      have hmem : gs xs k ∈ xs := gs_mem hkl
      obtain ⟨x, hx⟩ : ∃ x, gs xs k = x := ⟨_, rfl⟩
      rw [hx] at y0 hft hmem 
      have HFT := Lib.hid hft
      have HC := Lib.hid (HO.out wo _ x hmem HW.out hbz)
      clear hat hx hkl hbz hft 
      go_wp2_with fail
      refine HC.out.mono ?_
      rintro e w2 ⟨rfl, h2, k2⟩
      have H2 := Lib.hid h2
      have K2 := Lib.hid (HK.out.trans k2)
      clear h2 k2
      go_wp2_with fail
      go_roundw
      case rel => exact ⟨k + 1, by go_num, by omega, Lib.hid (by rw [HFT.out, ← List.append_assoc]; exact H2.out), K2⟩
      case measure => simp [intOf]; omega
    · have HE2 := Lib.hid (show L0 ++ (xs.take k).flatMap enc = L by rw [List.take_of_length_le (by have := HNN.out; omega)]; exact HE.out.symm)
      go_wp2
      refine bodyPost_ret (results_tmp0 rfl _ _ _) rfl ?_
      exact ⟨rfl, by rw [← HE2.out]; exact HW.out, HK.out⟩
set_option maxRecDepth 100000 in
set_option maxHeartbeats 2000000 in
theorem putF_any (w0 w : World) (g : Nat) (l : List Int) (fid : FuncId) (enc : Fd → List Int) (M : Nat) (v : Value) (xs : List Fd) (h : WR w0 w g l) (hr : ShF.Row w0 v xs) (hn : xs.length ≤ 256) (hz : l.length + 8 + xs.length * M ≤ 140737488355328) (hm : ∀ x ∈ xs, (enc x).length ≤ M)
    (hc : ∀ args W, (callFunc fid args).run Tryz.prog W = .ok (.enter fid args) W) (hone : ∀ W l x, x ∈ xs → WR w0 W g l → l.length + M ≤ 140737488355328 → Calls Tryz.prog fid #[.pointer (some ⟨g, 0, none⟩), .agg x.vals] W (WRet w0 W g (l ++ enc x))) :
    Calls Tryz.prog 66 #[.pointer (some ⟨g, 0, none⟩), v, .func (.func fid) #[.pointer (some ⟨g, 0, none⟩)] #[]] w (WRet w0 w g (l ++ lsZ enc xs)) := by
  have HR := Lib.hid hr
  have HN := Lib.hid (numbers_any w0 (w.alloc (.cells #[.int .i64 xs.length] 3)) g l [(xs.length : Int)] w.heap.size 1 rfl (h.ext ((Ext.refl w).alloc _)) (fun n hn => by rw [List.mem_singleton.1 hn]; exact ⟨by omega, by omega⟩) (BK.new w _ _) (by simp; omega))
  rw [one_flat] at HN
  have K0 := Lib.hid (Kp.ext ((Ext.refl w).alloc (.cells #[.int .i64 xs.length] 3)))
  have hl8 := nu_len (n := (xs.length : Int)) ⟨by omega, by omega⟩
  obtain ⟨A, c, rfl, hc0, hcm, -⟩ := hr.cut
  unfold maxLen at hcm
  obtain ⟨n, hnn⟩ : ∃ n, xs.length = n := ⟨_, rfl⟩
  have HNN := Lib.hid hnn
  have HZ := Lib.hid hz
  have HM := Lib.hid hm
  have HO := Lib.hid hone
  have HE : Hid (l ++ lsZ enc xs = (l ++ nu n) ++ xs.flatMap enc) := Lib.hid (by unfold lsZ; rw [hnn, List.append_assoc])
  rw [hnn] at HN K0 hc0 hl8 HR hn ⊢
  have HL8 := Lib.hid (show (l ++ nu n).length ≤ l.length + 8 by rw [List.length_append]; omega)
  obtain ⟨L0, hL0⟩ : ∃ L, l ++ nu (n : Int) = L := ⟨_, rfl⟩
  rw [hL0] at HN HE HL8
  obtain ⟨L, hL⟩ : ∃ L, l ++ lsZ enc xs = L := ⟨_, rfl⟩
  rw [hL] at HE ⊢
  clear h hr hz hm hone hnn hl8 hL0 hL
  go_enter Tryz.func66, Tryz.ntmps66
  go_wp2_with fail
  refine HN.out.mono ?_
  rintro x w1 ⟨rfl, h1, k1⟩
  have H1 := Lib.hid h1
  have K1 := Lib.hid (K0.out.trans k1)
  clear h1 k1
  go_wp2_with fail
  go_loopw [15] (fun i wr => ∃ (k : Nat), i = .int .i64 k ∧ k ≤ n ∧ Hid (WR w0 wr g (L0 ++ (xs.take k).flatMap enc)) ∧ Hid (Kp w wr)) (fun i _ => n - (intOf i).toNat)
  case atStart => exact ⟨0, rfl, by omega, Lib.hid (by simpa using H1.out), K1⟩
  case round =>
    obtain ⟨k, rfl, hk, HW, HK⟩ := hrel
    rename World => wo
    by_cases hlt : k < n
    · have hkl : k < xs.length := by have := HNN.out; omega
      obtain ⟨b, o, rfl, hat⟩ := rowF_at HR.out (by omega)
      obtain ⟨y0, y1, y2, y3⟩ := hat _ HW.out.ext0 k hkl
      have hbz : (L0 ++ (xs.take k).flatMap enc).length + M ≤ 140737488355328 := by
        have h1 := flat_leI (l := xs.take k) fun x hx => HM.out x (List.mem_of_mem_take hx)
        rw [List.length_take, Nat.min_eq_left (by omega)] at h1
        have h2 := HZ.out
        have h3 := HL8.out
        have h4 : (k + 1) * M ≤ xs.length * M := Nat.mul_le_mul_right _ hkl
        rw [Nat.add_mul] at h4
        rw [List.length_append]
        omega
      have hft := flat_takeG (f := enc) (gf_some hkl)
      have hmem : gf xs k ∈ xs := gf_mem hkl
      obtain ⟨x, hx⟩ : ∃ x, gf xs k = x := ⟨_, rfl⟩
      rw [hx] at y0 y1 y2 y3 hft hmem 
      have HFT := Lib.hid hft
      have HC := Lib.hid (HO.out (wo.alloc (.cells #[.bool x.st, .string x.nm, .int .i64 x.ty.k, .string x.ty.s] 63)) _ x hmem (HW.out.ext ((Ext.refl wo).alloc _)) hbz)
      unfold Fd.vals at HC
      clear hat hx hkl hbz hft 
      go_wp2_with fail
      refine HC.out.mono ?_
      rintro e w2 ⟨rfl, h2, k2⟩
      have H2 := Lib.hid h2
      have K2 := Lib.hid ((HK.out.trans (Kp.ext ((Ext.refl wo).alloc (.cells #[.bool x.st, .string x.nm, .int .i64 x.ty.k, .string x.ty.s] 63)))).trans k2)
      clear h2 k2
      go_wp2_with fail
      go_roundw
      case rel => exact ⟨k + 1, by go_num, by omega, Lib.hid (by rw [HFT.out, ← List.append_assoc]; exact H2.out), K2⟩
      case measure => simp [intOf]; omega
    · have HE2 := Lib.hid (show L0 ++ (xs.take k).flatMap enc = L by rw [List.take_of_length_le (by have := HNN.out; omega)]; exact HE.out.symm)
      go_wp2
      refine bodyPost_ret (results_tmp0 rfl _ _ _) rfl ?_
      exact ⟨rfl, by rw [← HE2.out]; exact HW.out, HK.out⟩
set_option maxRecDepth 100000 in
set_option maxHeartbeats 2000000 in
theorem putH_any (w0 w : World) (g : Nat) (l : List Int) (fid : FuncId) (enc : Hd → List Int) (M : Nat) (v : Value) (xs : List Hd) (h : WR w0 w g l) (hr : ShH.Row w0 v xs) (hn : xs.length ≤ 256) (hz : l.length + 8 + xs.length * M ≤ 140737488355328) (hm : ∀ x ∈ xs, (enc x).length ≤ M)
    (hc : ∀ args W, (callFunc fid args).run Tryz.prog W = .ok (.enter fid args) W) (hone : ∀ W l x, x ∈ xs → WR w0 W g l → l.length + M ≤ 140737488355328 → Calls Tryz.prog fid #[.pointer (some ⟨g, 0, none⟩), .agg x.vals] W (WRet w0 W g (l ++ enc x))) :
    Calls Tryz.prog 120 #[.pointer (some ⟨g, 0, none⟩), v, .func (.func fid) #[.pointer (some ⟨g, 0, none⟩)] #[]] w (WRet w0 w g (l ++ lsZ enc xs)) := by
  have HR := Lib.hid hr
  have HN := Lib.hid (numbers_any w0 (w.alloc (.cells #[.int .i64 xs.length] 3)) g l [(xs.length : Int)] w.heap.size 1 rfl (h.ext ((Ext.refl w).alloc _)) (fun n hn => by rw [List.mem_singleton.1 hn]; exact ⟨by omega, by omega⟩) (BK.new w _ _) (by simp; omega))
  rw [one_flat] at HN
  have K0 := Lib.hid (Kp.ext ((Ext.refl w).alloc (.cells #[.int .i64 xs.length] 3)))
  have hl8 := nu_len (n := (xs.length : Int)) ⟨by omega, by omega⟩
  obtain ⟨A, c, rfl, hc0, hcm, -⟩ := hr.cut
  unfold maxLen at hcm
  obtain ⟨n, hnn⟩ : ∃ n, xs.length = n := ⟨_, rfl⟩
  have HNN := Lib.hid hnn
  have HZ := Lib.hid hz
  have HM := Lib.hid hm
  have HO := Lib.hid hone
  have HE : Hid (l ++ lsZ enc xs = (l ++ nu n) ++ xs.flatMap enc) := Lib.hid (by unfold lsZ; rw [hnn, List.append_assoc])
  rw [hnn] at HN K0 hc0 hl8 HR hn ⊢
  have HL8 := Lib.hid (show (l ++ nu n).length ≤ l.length + 8 by rw [List.length_append]; omega)
  obtain ⟨L0, hL0⟩ : ∃ L, l ++ nu (n : Int) = L := ⟨_, rfl⟩
  rw [hL0] at HN HE HL8
  obtain ⟨L, hL⟩ : ∃ L, l ++ lsZ enc xs = L := ⟨_, rfl⟩
  rw [hL] at HE ⊢
  clear h hr hz hm hone hnn hl8 hL0 hL
  go_enter Tryz.func120, Tryz.ntmps120
  go_wp2_with fail
  refine HN.out.mono ?_
  rintro x w1 ⟨rfl, h1, k1⟩
  have H1 := Lib.hid h1
  have K1 := Lib.hid (K0.out.trans k1)
  clear h1 k1
  go_wp2_with fail
  go_loopw [15] (fun i wr => ∃ (k : Nat), i = .int .i64 k ∧ k ≤ n ∧ Hid (WR w0 wr g (L0 ++ (xs.take k).flatMap enc)) ∧ Hid (Kp w wr)) (fun i _ => n - (intOf i).toNat)
  case atStart => exact ⟨0, rfl, by omega, Lib.hid (by simpa using H1.out), K1⟩
  case round =>
    obtain ⟨k, rfl, hk, HW, HK⟩ := hrel
    rename World => wo
    by_cases hlt : k < n
    · have hkl : k < xs.length := by have := HNN.out; omega
      obtain ⟨b, o, rfl, hat⟩ := rowH_at HR.out (by omega)
      obtain ⟨y0, y1, y2, y3⟩ := hat _ HW.out.ext0 k hkl
      have hbz : (L0 ++ (xs.take k).flatMap enc).length + M ≤ 140737488355328 := by
        have h1 := flat_leI (l := xs.take k) fun x hx => HM.out x (List.mem_of_mem_take hx)
        rw [List.length_take, Nat.min_eq_left (by omega)] at h1
        have h2 := HZ.out
        have h3 := HL8.out
        have h4 : (k + 1) * M ≤ xs.length * M := Nat.mul_le_mul_right _ hkl
        rw [Nat.add_mul] at h4
        rw [List.length_append]
        omega
      have hft := flat_takeG (f := enc) (gh_some hkl)
      have hmem : gh xs k ∈ xs := gh_mem hkl
      obtain ⟨x, hx⟩ : ∃ x, gh xs k = x := ⟨_, rfl⟩
      rw [hx] at y0 y1 y2 y3 hft hmem 
      have HFT := Lib.hid hft
      have HC := Lib.hid (HO.out (wo.alloc (.cells #[.int .i64 x.f, .int .i64 x.t, .int .i64 x.a, .int .i64 x.c] 58)) _ x hmem (HW.out.ext ((Ext.refl wo).alloc _)) hbz)
      unfold Hd.vals at HC
      clear hat hx hkl hbz hft 
      go_wp2_with fail
      refine HC.out.mono ?_
      rintro e w2 ⟨rfl, h2, k2⟩
      have H2 := Lib.hid h2
      have K2 := Lib.hid ((HK.out.trans (Kp.ext ((Ext.refl wo).alloc (.cells #[.int .i64 x.f, .int .i64 x.t, .int .i64 x.a, .int .i64 x.c] 58)))).trans k2)
      clear h2 k2
      go_wp2_with fail
      go_roundw
      case rel => exact ⟨k + 1, by go_num, by omega, Lib.hid (by rw [HFT.out, ← List.append_assoc]; exact H2.out), K2⟩
      case measure => simp [intOf]; omega
    · have HE2 := Lib.hid (show L0 ++ (xs.take k).flatMap enc = L by rw [List.take_of_length_le (by have := HNN.out; omega)]; exact HE.out.symm)
      go_wp2
      refine bodyPost_ret (results_tmp0 rfl _ _ _) rfl ?_
      exact ⟨rfl, by rw [← HE2.out]; exact HW.out, HK.out⟩
set_option maxRecDepth 100000 in
set_option maxHeartbeats 2000000 in
theorem putM_any (w0 w : World) (g : Nat) (l : List Int) (fid : FuncId) (enc : Me → List Int) (M : Nat) (v : Value) (xs : List Me) (h : WR w0 w g l) (hr : RowM w0 v xs) (hn : xs.length ≤ 256) (hz : l.length + 8 + xs.length * M ≤ 140737488355328) (hm : ∀ x ∈ xs, (enc x).length ≤ M)
    (hc : ∀ args W, (callFunc fid args).run Tryz.prog W = .ok (.enter fid args) W) (hone : ∀ W l x va vc vh, x ∈ xs → MeAt w0 x va vc vh → WR w0 W g l → l.length + M ≤ 140737488355328 → Calls Tryz.prog fid #[.pointer (some ⟨g, 0, none⟩), .agg (x.vals va vc vh)] W (WRet w0 W g (l ++ enc x))) :
    Calls Tryz.prog 68 #[.pointer (some ⟨g, 0, none⟩), v, .func (.func fid) #[.pointer (some ⟨g, 0, none⟩)] #[]] w (WRet w0 w g (l ++ lsZ enc xs)) := by
  have HR := Lib.hid hr
  have HN := Lib.hid (numbers_any w0 (w.alloc (.cells #[.int .i64 xs.length] 3)) g l [(xs.length : Int)] w.heap.size 1 rfl (h.ext ((Ext.refl w).alloc _)) (fun n hn => by rw [List.mem_singleton.1 hn]; exact ⟨by omega, by omega⟩) (BK.new w _ _) (by simp; omega))
  rw [one_flat] at HN
  have K0 := Lib.hid (Kp.ext ((Ext.refl w).alloc (.cells #[.int .i64 xs.length] 3)))
  have hl8 := nu_len (n := (xs.length : Int)) ⟨by omega, by omega⟩
  obtain ⟨A, c, rfl, hc0, hcm, -⟩ := hr.cut
  unfold maxLen at hcm
  obtain ⟨n, hnn⟩ : ∃ n, xs.length = n := ⟨_, rfl⟩
  have HNN := Lib.hid hnn
  have HZ := Lib.hid hz
  have HM := Lib.hid hm
  have HO := Lib.hid hone
  have HE : Hid (l ++ lsZ enc xs = (l ++ nu n) ++ xs.flatMap enc) := Lib.hid (by unfold lsZ; rw [hnn, List.append_assoc])
  rw [hnn] at HN K0 hc0 hl8 HR hn ⊢
  have HL8 := Lib.hid (show (l ++ nu n).length ≤ l.length + 8 by rw [List.length_append]; omega)
  obtain ⟨L0, hL0⟩ : ∃ L, l ++ nu (n : Int) = L := ⟨_, rfl⟩
  rw [hL0] at HN HE HL8
  obtain ⟨L, hL⟩ : ∃ L, l ++ lsZ enc xs = L := ⟨_, rfl⟩
  rw [hL] at HE ⊢
  clear h hr hz hm hone hnn hl8 hL0 hL
  go_enter Tryz.func68, Tryz.ntmps68
  go_wp2_with fail
  refine HN.out.mono ?_
  rintro x w1 ⟨rfl, h1, k1⟩
  have H1 := Lib.hid h1
  have K1 := Lib.hid (K0.out.trans k1)
  clear h1 k1
  go_wp2_with fail
  go_loopw [15] (fun i wr => ∃ (k : Nat), i = .int .i64 k ∧ k ≤ n ∧ Hid (WR w0 wr g (L0 ++ (xs.take k).flatMap enc)) ∧ Hid (Kp w wr)) (fun i _ => n - (intOf i).toNat)
  case atStart => exact ⟨0, rfl, by omega, Lib.hid (by simpa using H1.out), K1⟩
  case round =>
    obtain ⟨k, rfl, hk, HW, HK⟩ := hrel
    rename World => wo
    by_cases hlt : k < n
    · have hkl : k < xs.length := by have := HNN.out; omega
      obtain ⟨b, o, rfl, hat⟩ := HR.out.at (by omega)
      obtain ⟨va, vc, vh, hat⟩ := hat k hkl
      obtain ⟨⟨y0, y1, y2, y3, y4, y5, y6, y7, y8, y9⟩, -⟩ := hat _ HW.out.ext0
      have hme := (hat _ (Ext.refl w0)).2
      have q1 := oneCell_rowG hme.1
      have q2 := oneCell_row hme.2.1
      have q3 := oneCell_rowG hme.2.2
      have hbz : (L0 ++ (xs.take k).flatMap enc).length + M ≤ 140737488355328 := by
        have h1 := flat_leI (l := xs.take k) fun x hx => HM.out x (List.mem_of_mem_take hx)
        rw [List.length_take, Nat.min_eq_left (by omega)] at h1
        have h2 := HZ.out
        have h3 := HL8.out
        have h4 : (k + 1) * M ≤ xs.length * M := Nat.mul_le_mul_right _ hkl
        rw [Nat.add_mul] at h4
        rw [List.length_append]
        omega
      have hft := flat_takeG (f := enc) (gm_some hkl)
      have hmem : gm xs k ∈ xs := gm_mem hkl
      obtain ⟨x, hx⟩ : ∃ x, gm xs k = x := ⟨_, rfl⟩
      rw [hx] at y0 y1 y2 y3 y4 y6 y7 hft hmem hme
      have HFT := Lib.hid hft
      obtain ⟨Va, ca, rfl, -⟩ := (show ShT.Row w0 va x.args from hme.1).cut
      obtain ⟨Vc, cc, rfl, -⟩ := id (show Row w0 .u8 vc x.code from hme.2.1)
      obtain ⟨Vh, ch, rfl, -⟩ := (show ShH.Row w0 vh x.hs from hme.2.2).cut
      have HC := Lib.hid (HO.out (wo.alloc (.cells #[.bool x.st, .bool x.ab, .string x.nm, .int .i64 x.ret.k, .string x.ret.s, .slice Va x.args.length ca, .int .i64 x.sk, .int .i64 x.lo, .slice Vc x.code.length cc, .slice Vh x.hs.length ch] 47)) _ x _ _ _ hmem hme (HW.out.ext ((Ext.refl wo).alloc _)) hbz)
      unfold Me.vals at HC
      clear hat hx hkl hbz hft hme
      go_wp2_with fail
      refine HC.out.mono ?_
      rintro e w2 ⟨rfl, h2, k2⟩
      have H2 := Lib.hid h2
      have K2 := Lib.hid ((HK.out.trans (Kp.ext ((Ext.refl wo).alloc (.cells #[.bool x.st, .bool x.ab, .string x.nm, .int .i64 x.ret.k, .string x.ret.s, .slice Va x.args.length ca, .int .i64 x.sk, .int .i64 x.lo, .slice Vc x.code.length cc, .slice Vh x.hs.length ch] 47)))).trans k2)
      clear h2 k2
      go_wp2_with fail
      go_roundw
      case rel => exact ⟨k + 1, by go_num, by omega, Lib.hid (by rw [HFT.out, ← List.append_assoc]; exact H2.out), K2⟩
      case measure => simp [intOf]; omega
    · have HE2 := Lib.hid (show L0 ++ (xs.take k).flatMap enc = L by rw [List.take_of_length_le (by have := HNN.out; omega)]; exact HE.out.symm)
      go_wp2
      refine bodyPost_ret (results_tmp0 rfl _ _ _) rfl ?_
      exact ⟨rfl, by rw [← HE2.out]; exact HW.out, HK.out⟩
end Go.Proofs.YtokmeomjdpfknaaGreatDoor
