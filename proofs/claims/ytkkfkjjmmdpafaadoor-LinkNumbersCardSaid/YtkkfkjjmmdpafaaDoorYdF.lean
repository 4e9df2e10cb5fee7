/- Several texts of this proof, one behind the other. -/
import Derived.Test.YtkkfkjjmmdpafaaDoorYdE
import Derived.Maps.Own
import Derived.Test.YtkkfkjjmmdpafaaDoorRows
import Derived.Test.YtkkfkjjmmdpafaaDoorCards
import Derived.Test.YtkkfkjjmmdpafaaDoorTie
import Derived.Test.YtkkfkjjmmdpafaaDoorYdC
import Derived.ProofKit
import Derived.OpenShut
import Derived.ShutString
import Derived.ChangeOld
import Derived.SizedLaws
import Derived.Deep.DeepHandedRow
import Derived.Deep.DeepWitnessRowRef
import Derived.Lib.LaidIn
import Derived.Lib.LaidU8T
import Derived.Lib.LaidTab
import Derived.Test.YtkkfkjjmmdpafaaDoorYdD
import Derived.Deep.RegionHeld3
import Derived.BigCall
namespace Go.Proofs.YtkkfkjjmmdpafaaDoor
open Go.RowKit Go.Maps Go.WideMaps
set_option linter.unusedVariables false

def bnm (i : Nat) : ByteArray := (gk builtZ i).nm
def Blt (w : World) : Prop := 0 < w.heap.size ∧ ∀ i, i < 8 → w.cell? ⟨0, i, none⟩ = some (.string (bnm i))
theorem Blt.ext {w w' : World} (h : Blt w) (e : Ext w w') : Blt w' := ⟨Nat.lt_of_lt_of_le h.1 e.size, fun i hi => (e.cell (p := ⟨_, i, none⟩) h.1).trans (h.2 i hi)⟩
def Raw (ns : List Nd) : Prop := ∀ i x, ns[i]? = some x → x.is = [] ∧ x.vs = sl0 ∧ x.ab = [] ∧ x.va = sl0 ∧ x.ln = 0 ∧ (i < 8 → x.su = supI [] i)
theorem Raw.nil : Raw [] := fun i x h => by simp at h
theorem Raw.snoc {ns : List Nd} {nd : Nd} (h : Raw ns) (h1 : nd.is = [] ∧ nd.vs = sl0 ∧ nd.ab = [] ∧ nd.va = sl0 ∧ nd.ln = 0 ∧ (ns.length < 8 → nd.su = supI [] ns.length)) : Raw (ns ++ [nd]) := fun i x hx => by
  rcases Nat.lt_or_ge i ns.length with hi | hi
  · rw [List.getElem?_append_left hi] at hx
    exact h i x hx
  · rw [List.getElem?_append_right hi] at hx
    have h0 : i - ns.length = 0 := by
      have := (List.getElem?_eq_some_iff.1 hx).1
      simp at this
      omega
    rw [h0] at hx
    simp only [List.getElem?_cons_zero, Option.some.injEq] at hx
    subst hx
    have : i = ns.length := by omega
    subst this
    exact h1
theorem SetAt.new (w : World) : SetAt w.heap.size (w.heap.size + 1) w.heap.size sl0 (.map []) ((w.alloc (.map #[] 0)).alloc (.cells #[.slice none 0 0, .map (some w.heap.size)] 69)) [] := by
  have hs : (w.alloc (.map #[] 0)).heap.size = w.heap.size + 1 := by simp
  refine ⟨by omega, by omega, ?_, Shp.Own.nil _ _ _, ?_, numOk_nil, fun x hx => by cases hx⟩
  · have := heap_alloc_new (w.alloc (.map #[] 0)) (.cells #[.slice none 0 0, .map (some w.heap.size)] 69)
    rw [hs] at this
    exact this
  · exact (World.ownsMap_made w _ _ _).alloc _
theorem NdOk.bare {B : Nat} (w : World) (nm : ByteArray) (su : Int) : NdOk B w ⟨⟨nm, ⟨#[]⟩, false, []⟩, sl0, su, [], sl0, [], sl0, 0⟩ := ⟨Shp.Own.nil _ _ _, Own.nil _ _ _ _, Own.nil _ _ _ _⟩
theorem idx8 (W : World) (k : Nat) (hk : k < 8) : (Instr.index 86 (.agg #[.string (bnm 0), .string (bnm 1), .string (bnm 2), .string (bnm 3), .string (bnm 4), .string (bnm 5), .string (bnm 6), .string (bnm 7)]) (.int .i64 k)).run Tryd.prog W = .ok (.string (bnm k)) W := by
  rcases k with _ | _ | _ | _ | _ | _ | _ | _ | k
  · simp [Instr.index, go_sem]
  · simp [Instr.index, go_sem]
  · simp [Instr.index, go_sem]
  · simp [Instr.index, go_sem]
  · simp [Instr.index, go_sem]
  · simp [Instr.index, go_sem]
  · simp [Instr.index, go_sem]
  · simp [Instr.index, go_sem]
  · omega
theorem bnm_size (i : Nat) (h : i < 8) : (bnm i).size ≤ 9 := by
  rcases i with _ | _ | _ | _ | _ | _ | _ | _ | k
  all_goals first | decide | omega
theorem built_snoc (k : Nat) (h : k < 8) : builtZ.take (k + 1) = builtZ.take k ++ [⟨bnm k, ⟨#[]⟩, false, []⟩] := by
  rcases k with _ | _ | _ | _ | _ | _ | _ | _ | k
  all_goals first | rfl | omega
end Go.Proofs.YtkkfkjjmmdpafaaDoor
namespace Go.Proofs.YtkkfkjjmmdpafaaDoor
open Go.ChangeShapes Go.WideShapes Go.ChangeAt Go.RowKit Go.Lib
set_option linter.unusedVariables false
def strData {H : Type} (l : List ByteArray) : DataW H := .agg (l.map fun s => .lit (.string s.data.toList))
def bltNames : List ByteArray := [bnm 0, bnm 1, bnm 2, bnm 3, bnm 4, bnm 5, bnm 6, bnm 7]
theorem blt_eq : (Rows.laid_warpbeam_link_builtInNames : DataW Unit) = strData bltNames := by kernel_rfl
def Listed : List (String × DataW Unit) := [("warpbeam/link.builtInNames", Rows.laid_warpbeam_link_builtInNames)]
theorem Listed_eq : Listed = [("warpbeam/link.builtInNames", strData bltNames)] := by
  unfold Listed
  rw [blt_eq]
theorem cells_of_strs {H : Type} {enc : TypeId × Value → H} {P : Program} {w : World} {base : Nat} {sp : Nat → Bool} {held : Bool} {fuel : Nat} {t e : TypeId} {n : Nat} {cs : List Value} {zs : List ByteArray} {p : List MemPlace}
    (ht : P.underlying t = some (.array n e)) (he : P.underlying e = some .string) (hce : P.cellsOf e = 1) (hct : P.cellsOf t = n)
    (h : DataW.trod enc P w base sp held fuel t cs = some (strData zs, p)) : cs = zs.map fun z => Value.string z := by
  cases fuel with
  | zero => simp [DataW.trod] at h
  | succ fuel =>
    simp only [DataW.trod, ht, hce, hct, Nat.mul_one] at h
    split at h
    · rename_i hl
      obtain ⟨xs, hm, hx⟩ := Option.map_eq_some_iff.1 h
      have hxs : xs.map (·.1) = zs.map fun z => (DataW.lit (.string z.data.toList) : DataW H) := by
        have := congrArg Prod.fst hx
        simpa [strData] using this
      have hxl : xs.length = n := by simpa using mapM_length hm
      have hzl : zs.length = n := by
        have := congrArg List.length hxs
        simp at this
        omega
      apply List.ext_getElem?
      intro i
      by_cases hi : i < n
      · obtain ⟨b, hb, hf⟩ := mapM_at hm i i (by simp [hi])
        obtain ⟨z, hc, rfl, _⟩ := DataW.trod_string he hf
        have h1 : cs[i]? = some (.string z) := by
          have := congrArg (·[0]?) hc
          simpa [List.getElem?_take, List.getElem?_drop] using this
        have h2 : (xs.map (·.1))[i]? = some (DataW.lit (.string z.data.toList) : DataW H) := by simp [hb]
        rw [hxs] at h2
        simp only [List.getElem?_map, Option.map_eq_some_iff, DataW.lit.injEq, Lit.string.injEq] at h2
        obtain ⟨z', hz', e⟩ := h2
        have e : z' = z := by
          obtain ⟨⟨a⟩⟩ := z'
          obtain ⟨⟨b⟩⟩ := z
          simp at e
          rw [e]
        simp [h1, hz', e]
      · rw [List.getElem?_eq_none (by omega), List.getElem?_eq_none (by simp; omega)]
    · cases h
theorem blt_of {W : World} (h : W.var? Tryd.prog "warpbeam/link.builtInNames" = some (bltNames.map fun z => Value.string z).toArray) : Blt W := by
  unfold World.var? at h
  rw [show Tryd.prog.globalNamed "warpbeam/link.builtInNames" = some 0 from by kernel_rfl] at h
  simp only [Option.bind_some] at h
  cases hx : W.heap[0]? with
  | none => simp [hx] at h
  | some o =>
    rw [hx] at h
    cases o with
    | cells cs T z =>
      have h3 : cs = #[Value.string (bnm 0), .string (bnm 1), .string (bnm 2), .string (bnm 3), .string (bnm 4), .string (bnm 5), .string (bnm 6), .string (bnm 7)] := by
        injection h
      subst h3
      refine ⟨lt_of_get hx, fun i hi => ?_⟩
      unfold World.cell?
      simp only [hx]
      match i, hi with
      | 0, _ => rfl
      | 1, _ => rfl
      | 2, _ => rfl
      | 3, _ => rfl
      | 4, _ => rfl
      | 5, _ => rfl
      | 6, _ => rfl
      | 7, _ => rfl
    | _ => simp at h
theorem tabs_of {W : World} (hL : laidMetH Tryd.prog Listed W) : Blt W := by
  rw [Listed_eq] at hL
  refine blt_of ?_
  obtain ⟨g', t', cs, fuel, p, hg', ht', hvar, hd⟩ := Lib.laidMet.reads hL (.head _)
  obtain rfl := Option.some.inj ((show Tryd.prog.globalNamed "warpbeam/link.builtInNames" = some 0 from by kernel_rfl).symm.trans hg')
  obtain rfl := Option.some.inj ((show (Tryd.prog.globals[0]?).map (·.type) = some 86 from by kernel_rfl).symm.trans ht')
  rw [hvar, ← cells_of_strs (n := 8) Tryd.underlying86 Tryd.underlying9 (by kernel_rfl) (by kernel_rfl) hd]
noncomputable def laidWorld (os : Os) : World :=
  let w0 := World.holding Tryd.prog os ⟨#[], #[], []⟩
  let put (h : Array Obj) (g : Nat) (cs : Array Value) : Array Obj := h.modify g fun
    | .cells _ t frozen => .cells cs t frozen
    | o => o
  let h1 := put w0.heap 0 (bltNames.map fun z => Value.string z).toArray
  { w0 with heap := h1 }
theorem laid_met (os : Os) (args : Array Value) : laidMet Tryd.prog Listed ((laidWorld os).forCall (fun _ _ => 0) ⟨#[], args, []⟩).memory := by
  rw [Listed_eq]
  exact (LaidIn.of_run (l := [("warpbeam/link.builtInNames", strData bltNames)]) [0] 8 (by kernel_rfl) (by kernel_rfl) (by kernel_rfl) (by kernel_rfl)).met
end Go.Proofs.YtkkfkjjmmdpafaaDoor
namespace Go.Proofs.YtkkfkjjmmdpafaaDoor
open Go.RowKit Go.Maps
set_option linter.unusedVariables false

theorem findZ_inj {N : List Kl} {x y : ByteArray} (hx : 0 ≤ findZ N x) (h : findZ N y = findZ N x) : y = x := by
  obtain ⟨j, _, h1, h2⟩ := findZ_nn (show ¬ findZ N x < 0 by omega)
  obtain ⟨k, _, h3, h4⟩ := findZ_nn (show ¬ findZ N y < 0 by omega)
  have : j = k := by omega
  subst this
  rw [← h2, ← h4]
theorem contains_any4 {N : List Kl} {x : ByteArray} (hx : 0 ≤ findZ N x) : ∀ l : List ByteArray, (l.map (findZ N)).contains (findZ N x) = l.any (fun y => decide (y = x))
  | [] => rfl
  | y :: l => by
    rw [List.map_cons, List.contains_cons, List.any_cons, contains_any4 hx l]
    congr 1
    by_cases e : y = x
    · subst e; simp
    · have : ¬ findZ N x = findZ N y := fun h => e (findZ_inj hx h.symm)
      simp [e, this]
theorem bad4_step {N : List Kl} {p l : List ByteArray} {k : Nat} {x : ByteArray} (h : p[k]? = some x) : bad4 N (p.take k) (p.drop k) = ((p.take k).any (fun y => decide (y = x)) || !(gk N (findZ N x).toNat).inf || bad4 N (p.take (k + 1)) (p.drop (k + 1))) := by
  obtain ⟨hk, rfl⟩ := List.getElem?_eq_some_iff.1 h
  rw [List.drop_eq_getElem_cons hk, bad4, List.take_succ_eq_append_getElem hk]
section
variable {s m g n c : Nat} {w : World} {ns : List Nd}
set_option maxRecDepth 100000 in
set_option maxHeartbeats 4000000 in
theorem ifacesUnfit_any (h : SetG s m g n c w ns) (ht : Told ns) (i : Nat) (x : Nd) (hx : ns[i]? = some x) (hr : NdR w x) (h2 : ∀ y ∈ x.k.ifs, 0 ≤ findZ (kls ns) y) (h72 : n ≤ 72) :
    Calls Tryd.prog 70 #[.pointer (some ⟨s, 0, none⟩), .int .i64 i] w fun e w' => e = .returned (fv (flt4 (kls ns) i)) ∧ w' = w := by
  obtain ⟨_, x1, _, _, _, _, x8, _⟩ := h.node i x hx
  have hi : i < n := by rw [h.len]; exact (List.getElem?_eq_some_iff.1 hx).1
  have HN := Lib.hid (node_in h i hi h72)
  obtain ⟨-, t2⟩ := ht i x hx
  have his : x.is = x.k.ifs.map (findZ (kls ns)) := by rw [t2]; unfold ifsI; rw [gk_of hx]
  have hfl : flt4 (kls ns) i = if bad4 (kls ns) [] x.k.ifs then some (x.k.nm, 90) else none := by unfold flt4; rw [gk_of hx]
  obtain ⟨R, hR⟩ : ∃ R, flt4 (kls ns) i = R := ⟨_, rfl⟩
  rw [hR] at hfl ⊢
  have HFL := Lib.hid hfl
  have HVS := Lib.hid hr.vs
  unfold Sl.v at HVS
  have HIS := Lib.hid his
  have H2 := Lib.hid h2
  have HII := Lib.hid (fun j z (hz : ns[j]? = some z) => isIface_in h j z hz h72)
  have HK : Hid (∀ y, 0 ≤ findZ (kls ns) y → ∃ (j : Nat) (z : Nd), findZ (kls ns) y = (j : Int) ∧ ns[j]? = some z ∧ gk (kls ns) j = z.k) := Lib.hid (fun y hy => by
    obtain ⟨j, hj, hj2, hj3⟩ := findZ_nn (show ¬ findZ (kls ns) y < 0 by omega)
    obtain ⟨z, hzj⟩ : ∃ z, ns[j]? = some z := ⟨ns[j]'(by simpa [kls] using hj), List.getElem?_eq_getElem _⟩
    exact ⟨j, z, hj2, hzj, gk_of hzj⟩)
  have hln : x.vs.n = x.k.ifs.length := by
    obtain ⟨A, c', e, _⟩ := hr.vs
    unfold Sl.v at e
    injection e with _ e _
    rw [e, his, List.length_map]
  obtain ⟨q, hq⟩ : ∃ q, x.vs.n = q := ⟨_, rfl⟩
  rw [hq] at x8 HVS hln
  have HLN := Lib.hid hln
  obtain ⟨A, hA⟩ : ∃ A, x.vs.A = A := ⟨_, rfl⟩
  obtain ⟨cc, hcc⟩ : ∃ cc, x.vs.c = cc := ⟨_, rfl⟩
  rw [hA, hcc] at x8 HVS
  have hb := HVS.out
  obtain ⟨A', c', e1, e2, e3, -⟩ := hb
  injection e1 with e0 e1 e1c
  clear e0
  have hqc : q ≤ cc := by omega
  have hcm : cc ≤ maxLen := by omega
  unfold maxLen at hcm
  clear h hx t2 his hfl hR hr h2 hln hq hA hcc e1 e2 e3 e1c ht
  go_enter Tryd.func70, Tryd.ntmps70
  go_wp2_with fail
  refine HN.out.mono ?_
  rintro e0 w' ⟨rfl, rfl⟩
  go_wp2_with fail
  go_loopw [17] (fun iv wr => ∃ k : Nat, iv = .int .i64 k ∧ k ≤ q ∧ Hid (bad4 (kls ns) [] x.k.ifs = bad4 (kls ns) (x.k.ifs.take k) (x.k.ifs.drop k)) ∧ wr = w') (fun iv _ => q - (intOf iv).toNat)
  case atStart => exact ⟨0, rfl, by omega, Lib.hid (by simp), rfl⟩
  case round =>
    obtain ⟨k, rfl, hk, HB, rfl⟩ := hrel
    by_cases hlt : k < q
    · obtain ⟨A', c', e1, e2, e3, e4, e5, hcell⟩ := HVS.out
      injection e1 with e1 e6 e7
      subst e1
      obtain ⟨b, o, rfl, hb, hx⟩ := hcell (by omega)
      have y0 := hx k (by omega)
      have hkl : k < x.k.ifs.length := by have := HLN.out; omega
      obtain ⟨y, hy⟩ : ∃ y, x.k.ifs[k]? = some y := ⟨x.k.ifs[k], List.getElem?_eq_getElem hkl⟩
      have hyn := H2.out y (List.mem_of_getElem? hy)
      obtain ⟨j, z, hj1, hj2, hj3⟩ := HK.out y hyn
      have hgi : gi x.is k = (j : Int) := by
        unfold gi
        rw [List.getD_eq_getElem?_getD, HIS.out, List.getElem?_map, hy]
        exact hj1
      rw [hgi] at y0
      have HI := Lib.hid (HII.out j z hj2)
      have hrow := Row.head HVS.out k (by omega)
      have HC := Lib.hid (contains_any hrow (j : Int))
      have hct : (x.is.take k).contains (j : Int) = (x.k.ifs.take k).any (fun t => decide (t = y)) := by rw [HIS.out, ← List.map_take, ← hj1]; exact contains_any4 hyn _
      rw [hct] at HC
      have hst := HB.out.trans (bad4_step (N := kls ns) (l := []) hy)
      rw [hj1, Int.toNat_natCast, hj3] at hst
      have HST := Lib.hid hst
      obtain ⟨b1, hb1⟩ : ∃ b1, (x.k.ifs.take k).any (fun t => decide (t = y)) = b1 := ⟨_, rfl⟩
      obtain ⟨b2, hb2⟩ : ∃ b2, z.k.inf = b2 := ⟨_, rfl⟩
      rw [hb1] at HC HST
      rw [hb2] at HI HST
      have kz : (k : Int) < (q : Int) := by omega
      have kc : ¬ (cc : Int) < (k : Int) := by omega
      have kc2 : k ≤ cc := by omega
      have kc3 : ¬ cc < k := by omega
      have hcc0 : ¬ cc = 0 := by omega
      clear e2 e3 e4 e5 e6 e7 hcell hx hy hyn hj1 hj2 hj3 hgi hrow hct hst hb1 hb2 HB
      cases b2
      case false =>
        have HE : Hid (R = some (x.k.nm, 90)) := Lib.hid (by rw [HFL.out, HST.out]; simp)
        clear HC
        go_wp2_with fail
        refine HI.out.mono ?_
        rintro e0 w' ⟨rfl, rfl⟩
        go_wp2
        go_ret2
        exact ⟨by rw [HE.out]; rfl, rfl⟩
      case true =>
        cases b1
        case true =>
          have HE : Hid (R = some (x.k.nm, 90)) := Lib.hid (by rw [HFL.out, HST.out]; simp)
          go_wp2_with fail
          refine HI.out.mono ?_
          rintro e0 w' ⟨rfl, rfl⟩
          go_wp2_with fail
          refine HC.out.mono ?_
          rintro e0 w' ⟨rfl, rfl⟩
          go_wp2
          go_ret2
          exact ⟨by rw [HE.out]; rfl, rfl⟩
        case false =>
          go_wp2_with fail
          refine HI.out.mono ?_
          rintro e0 w' ⟨rfl, rfl⟩
          go_wp2_with fail
          refine HC.out.mono ?_
          rintro e0 w' ⟨rfl, rfl⟩
          go_wp2
          go_roundw
          case rel => exact ⟨k + 1, by go_num, by omega, Lib.hid (by rw [HST.out]; simp), by first | rfl | trivial⟩
          case measure => first | (simp [intOf]; omega) | simp [intOf]
    · have HE : Hid (R = none) := Lib.hid (by
        rw [HFL.out, HB.out, List.drop_of_length_le (by have := HLN.out; omega)]
        simp [bad4])
      go_wp2
      go_ret2
      exact ⟨by rw [HE.out]; rfl, rfl⟩
end
end Go.Proofs.YtkkfkjjmmdpafaaDoor
namespace Go.Proofs.YtkkfkjjmmdpafaaDoor
open Go.RowKit Go.Maps
set_option linter.unusedVariables false

def ShB : Shp Bool := flat 4 1 (fun b => #[.bool b]) false (by decide) (fun _ => rfl) (fun x u hu => by
  have h : u = .bool x := by simpa using hu
  rw [h]; rfl)
theorem boolAt {B : Nat} {w : World} {gs n c : Nat} {l : List Bool} (h : ShB.Own B w (.slice (some ⟨gs, 0, none⟩) n c) l) (j : Nat) (hj : j < l.length) : w.cell? ⟨gs, j, none⟩ = some (.bool (gbl l j)) := by
  obtain ⟨b, o, hA, hat⟩ := h.row.at (by omega)
  injection hA with hA
  injection hA with h1 h2
  subst h1 h2
  have := (hat w (Ext.refl w) j hj).1 0 (by decide)
  rw [show ShB.n = 1 from rfl, Nat.mul_one, Nat.zero_add, Nat.add_zero] at this
  rw [this]
  rfl
theorem boolFr {B : Nat} {w : World} {gs n c : Nat} {l : List Bool} (h : ShB.Own B w (.slice (some ⟨gs, 0, none⟩) n c) l) (j : Nat) : w.frozen? ⟨gs, j, none⟩ = false := by
  rcases h.1.2 with ⟨h1, h2⟩ | ⟨g, cap, cur, h1, hb, hg, hn, hm, hs, ht⟩
  · cases h1
  · injection h1 with h1
    injection h1 with h1
    injection h1 with h1
    subst h1
    simp [World.frozen?, hg]
theorem boolPut {B : Nat} {w : World} {gs n c : Nat} {l : List Bool} (h : ShB.Own B w (.slice (some ⟨gs, 0, none⟩) n c) l) (j : Nat) (hj : j < l.length) (b : Bool) : ShB.Own B (w.setCell ⟨gs, j, none⟩ (.bool b)) (.slice (some ⟨gs, 0, none⟩) n c) (l.set j b) := by
  have := h.setCell j 0 hj (by decide) (.bool b) b (by simp [ShB, flat]) trivial
  rw [show ShB.n = 1 from rfl, Nat.mul_one, Nat.add_zero] at this
  exact this
theorem infoI : (Tryd.prog.info? 3).map (fun i => (i.zero, i.size, i.bytes)) = some (some (.int .i64 0), 1, 8) := by kernel_rfl
theorem step_appI {P : Program} {ops : Array Oper} {o : Oper} {a : Act} {w : World} {K : Act → World → Prop} {Q : Exit → Act → World → Prop} {E : Prop} (hgd : o.guard = none) (s y : Operand) (B : Nat) (t e : TypeId) (z : Value) (bytes : Nat) (k : IntKind)
    (hop : o.op = .call { callee := .builtin .append, args := #[s, y], argTypes := #[t, t] }) (ht : P.underlying t = some (.slice e))
    (hi : (P.info? e).map (fun i => (i.zero, i.size, i.bytes)) = some (some z, 1, bytes)) (hz : z.cells.size = 1) (hb1 : 1 ≤ bytes)
    (v : Value) (l : List Int) (hs : a.eval s = v) (ho : Own B w e k v l) (x : Value) (m : List Int) (hx : a.eval y = x) (hr : Row w k x m)
    (hb : (l.length + m.length) * bytes ≤ 140737488355328) (hB : B ≤ w.heap.size)
    (h : ∀ v' w', Own B w' e k v' (l ++ m) → w.grownBy w' v.ownBlock → (v'.ownBlock = v.ownBlock ∨ v'.ownBlock = some w.heap.size) → K (a.put o.dst v') w') :
    if Region.wanted o (yielded ops a.tmps) = true then Oper.wp P o a w K Q else E := by
  have hw : Region.wanted o (yielded ops a.tmps) = true := by simp [Region.wanted, hgd]
  rw [if_pos hw]
  obtain ⟨v', w', hrun, h2, h3, h4⟩ := run_app (P := P) w B t o.type e z bytes k ht hi hz v l ho x m hr hb hb1 hB
  unfold Oper.wp execOp
  simp only [hop, resolve, invoke, builtin, Sem.run_bind, Sem.run_pure, Result.andThen_ok, List.map_toArray, List.map_cons, List.map_nil, hs, hx, hrun]
  exact h v' w' h2 h3 h4
theorem own_built1 {B : Nat} (w : World) (e : TypeId) (k : IntKind) (x : Int) (hx : (Lit.int k x).wf = true) (hB : B ≤ w.heap.size) : Own B (w.alloc (.cells #[.int k x] e)) e k (.slice (some ⟨w.heap.size, 0, none⟩) 1 1) [x] :=
  ⟨⟨by simp, .inr ⟨w.heap.size, 1, #[.int k x], rfl, hB, heap_alloc_new w _, Nat.le_refl _, by simp [maxLen], by simp, by simp⟩⟩, fun y hy => by rw [List.mem_singleton.1 hy]; exact hx⟩
def upsN (l : List Int) : List Nat := (l.filter (fun x => decide (0 ≤ x))).map Int.toNat
theorem upsN_none {l : List Int} {k : Nat} (hk : k < l.length) (h : gi l k < 0) : upsN (l.take (k + 1)) = upsN (l.take k) := by
  have e : gi l k = l[k] := by simp [gi, hk]
  unfold upsN
  rw [List.take_succ_eq_append_getElem hk, List.filter_append, ← e]
  simp [show ¬ 0 ≤ gi l k by omega]
theorem upsN_some {l : List Int} {k j : Nat} (hk : k < l.length) (h : gi l k = (j : Int)) : upsN (l.take (k + 1)) = upsN (l.take k) ++ [j] := by
  have e : gi l k = l[k] := by simp [gi, hk]
  unfold upsN
  rw [List.take_succ_eq_append_getElem hk, List.filter_append, ← e, h]
  simp
structure UpsOk (ns : List Nd) (ups : Nat → List Nat) : Prop where
  eq : ∀ (i : Nat) (x : Nd), ns[i]? = some x → upsN (x.su :: x.is) = ups i
  in_ : ∀ (i : Nat) (x : Nd), ns[i]? = some x → ∀ u ∈ x.su :: x.is, u = -1 ∨ ∃ j : Nat, u = (j : Int) ∧ j < ns.length
structure CyEnv (s m g n c bs bn bv gs : Nat) (ns : List Nd) (W : World) : Prop where
  set : SetG s m g n c W ns
  rows : ∀ (i : Nat) (x : Nd), ns[i]? = some x → Row W .i64 x.vs.v x.is
  cs : W.cell? ⟨bs, 0, none⟩ = some (.pointer (some ⟨s, 0, none⟩))
  cn : W.cell? ⟨bn, 0, none⟩ = some (.slice (some ⟨gs, 0, none⟩) n n)
  cv : W.cell? ⟨bv, 0, none⟩ = some (.func (.func 87) #[] #[.pointer (some ⟨bs, 0, none⟩), .pointer (some ⟨bn, 0, none⟩), .pointer (some ⟨bv, 0, none⟩)])
def VisitOk (ups : Nat → List Nat) (N : Nat) : Prop := ∀ (s m g n c bs bn bv gs B : Nat) (ns : List Nd) (w0 w : World) (mk : List Bool) (i : Nat), (∀ W, w0.grownBy W (some gs) → CyEnv s m g n c bs bn bv gs ns W) → UpsOk ns ups → ns.length = n → n ≤ 72 → (∀ x ∈ ns, x.is.length ≤ 1000000) → B ≤ gs → gs < w0.heap.size →
  w0.grownBy w (some gs) → mk.count false ≤ N → i < n → mk.length = n → ShB.Own B w (.slice (some ⟨gs, 0, none⟩) n n) mk →
  Calls Tryd.prog 87 #[.int .i64 i, .pointer (some ⟨bs, 0, none⟩), .pointer (some ⟨bn, 0, none⟩), .pointer (some ⟨bv, 0, none⟩)] w fun e w' => e = .returned (.tuple #[]) ∧ w.grownBy w' (some gs) ∧ ∃ mk', Vis ups mk mk' (ups i) ∧ ShB.Own B w' (.slice (some ⟨gs, 0, none⟩) n n) mk'
set_option maxRecDepth 100000 in
set_option maxHeartbeats 4000000 in
theorem visit_step {ups : Nat → List Nat} (N : Nat) (ih : ∀ M, M < N → VisitOk ups M) : VisitOk ups N := by
  intro s m g n c bs bn bv gs B ns w0 w mk i hE hU hln h72 hil hBg hg0 hg hN hi hmk ho
  obtain ⟨x, hx⟩ : ∃ x, ns[i]? = some x := ⟨ns[i], List.getElem?_eq_getElem (by omega)⟩
  have HE := Lib.hid hE
  have HU := Lib.hid hU
  have HIL := Lib.hid hil
  have HIH := Lib.hid ih
  have env := hE w hg
  have HN := Lib.hid (node_in env.set i hi h72)
  obtain ⟨_, _, _, _, _, x7, x8, _, _⟩ := env.set.node i x hx
  have cs := env.cs
  have hR := env.rows i x hx
  have hlen : x.is.length ≤ 1000000 := hil x (List.mem_of_getElem? hx)
  have hwf : (Lit.int .i64 x.su).wf = true := by
    rcases hU.in_ i x hx x.su (List.mem_cons_self ..) with h1 | ⟨j, h1, h2⟩
    · rw [h1]; decide
    · rw [h1]; simp [Lit.wf, IntKind.min, IntKind.max, IntKind.signed, IntKind.bits]; omega
  have hgw : gs < w.heap.size := Nat.lt_of_lt_of_le hg0 hg.size
  have hW1 : Ext w (w.alloc (.cells #[.int .i64 x.su] 3)).drew := ((Ext.refl w).alloc _).drew
  have HO1 := Lib.hid ((own_built1 (B := w.heap.size) w 3 .i64 x.su hwf (Nat.le_refl _)).ext ((Ext.refl _).drew))
  have HR1 := Lib.hid (hR.ext hW1)
  unfold Sl.v at HR1
  have HW1 := Lib.hid hW1
  have HXX := Lib.hid hx
  have HOM := Lib.hid ho
  have HG := Lib.hid hg
  obtain ⟨is, his⟩ : ∃ is, x.is = is := ⟨_, rfl⟩
  obtain ⟨su, hsu⟩ : ∃ su, x.su = su := ⟨_, rfl⟩
  rw [his] at HR1 hlen
  rw [hsu] at HO1 HR1 HW1 x7
  have HIS := Lib.hid (And.intro his hsu)
  clear hE hU hil ih env hx hR hwf hW1 ho hg his hsu
  go_enter Tryd.func87, Tryd.ntmps87
  go_wp2_with fail
  refine HN.out.mono ?_
  rintro e0 w' ⟨rfl, rfl⟩
  rename World => w
  go_wp2_with fail
  have hgb : g < w.heap.size := World.block_lt_of_cell? w _ x7
  obtain ⟨nl, hnl⟩ : ∃ nl, ([su] ++ is).length = nl := ⟨_, rfl⟩
  have HNL := Lib.hid hnl
  have hnl2 : nl ≤ 1000001 := by simp at hnl; omega
  clear hnl
  go_region_held3 (fun w' => w'.cell? ⟨g, i * 11 + 7, none⟩ = some (.int .i64 su) ∧ w'.cell? ⟨g, i * 11 + 8, none⟩ = some (.slice x.vs.A x.vs.n x.vs.c)) (first | go_keep | assumption) (first
    | ((refine step_appI rfl _ _ w.heap.size 48 3 _ 8 .i64 rfl Tryd.underlying48 infoI rfl (by omega) (.slice (some ⟨w.heap.size, 0, none⟩) 1 1) [su] rfl HO1.out _ is rfl HR1.out (by first | omega | (simp only [List.length_singleton]; omega)) (by exact HW1.out.size) ?_); intro v4 w4 o4 g4 b4; obtain ⟨A4, c4, e4, hc4, hm4, -⟩ := id o4.row; rw [HNL.out] at e4 hc4; subst e4; have X4 := Lib.hid (HW1.out.grown g4 HO1.out.low); have O4 := Lib.hid o4; have z7 : w4.cell? ⟨g, i * 11 + 7, none⟩ = some (.int .i64 su) := (X4.out.cell (p := ⟨g, i * 11 + 7, none⟩) hgb).trans x7; have z8 : w4.cell? ⟨g, i * 11 + 8, none⟩ = some (.slice x.vs.A x.vs.n x.vs.c) := (X4.out.cell (p := ⟨g, i * 11 + 8, none⟩) hgb).trans x8; clear o4 g4 b4))
  go_wp2_with fail
  have HNE : Hid (∀ q, (Value.slice A4 nl c4).ownBlock = some q → some gs ≠ some q) := Lib.hid fun q hq e => by
    have := O4.out.low q hq
    injection e with e
    omega
  have HR4 := Lib.hid O4.out.row
  have HM4 : Hid (∃ mk', Vis ups mk mk' (upsN (([su] ++ is).take 0)) ∧ ShB.Own B w4 (.slice (some ⟨gs, 0, none⟩) n n) mk') := Lib.hid ⟨mk, Vis.nil mk, HOM.out.ext X4.out⟩
  have HG4 := Lib.hid (grown_extG (World.grownBy.refl w (some gs)) X4.out)
  have HUU : Hid (∀ u ∈ [su] ++ is, u = -1 ∨ ∃ j : Nat, u = (j : Int) ∧ j < n) := by
    have := HU.out.in_ i x HXX.out
    rw [HIS.out.1, HIS.out.2, hln] at this
    exact this
  have HUE : Hid (upsN ([su] ++ is) = ups i) := by
    have := HU.out.eq i x HXX.out
    rw [HIS.out.1, HIS.out.2] at this
    exact this
  have HLN := Lib.hid hln
  have HMK := Lib.hid (And.intro hmk hN)
  obtain ⟨L, hL⟩ : ∃ L, [su] ++ is = L := ⟨_, rfl⟩
  rw [hL] at HR4 HM4 HUU HUE HNL
  unfold maxLen at hm4
  have hBg2 := Lib.hid (And.intro hBg hg0)
  clear hL O4 X4 x7 x8 cs z7 z8 HO1 HR1 HW1 hln hmk hN hBg hg0 hgw hgb hlen HOM
  go_loopw [22] (fun iv wr => ∃ k : Nat, iv = .int .i64 k ∧ k ≤ nl ∧ Hid (Row wr .i64 (.slice A4 nl c4) L) ∧ Hid (∃ mk', Vis ups mk mk' (upsN (L.take k)) ∧ ShB.Own B wr (.slice (some ⟨gs, 0, none⟩) n n) mk') ∧ Hid (w.grownBy wr (some gs))) (fun iv _ => nl - (intOf iv).toNat)
  case atStart => exact ⟨0, rfl, by omega, HR4, HM4, HG4⟩
  case round =>
    obtain ⟨k, rfl, hk, HR, HM, HGr⟩ := hrel
    rename World => wr
    clear HR4 HM4 HG4
    by_cases hlt : k < nl
    · have hkl : k < L.length := by have := HNL.out; omega
      have hltz : (k : Int) < (nl : Int) := by omega
      obtain ⟨A', c', e1, e2, e3, e4, e5, hcell⟩ := HR.out
      injection e1 with e1 e6 e7
      subst e1
      obtain ⟨b, o, rfl, hb, hx⟩ := hcell (by omega)
      have y0 := hx k hkl
      have hu := HUU.out (gi L k) (gi_mem hkl)
      obtain ⟨mk', hv, hom⟩ := HM.out
      have hg1 := HG.out.trans HGr.out
      have env := HE.out wr hg1
      have cn := env.cn
      clear e2 e3 e4 e5 e6 e7 hcell hx
      rcases hu with hu | ⟨j, hu, hj⟩
      · rw [hu] at y0
        have HM2 : Hid (∃ mk', Vis ups mk mk' (upsN (L.take (k + 1))) ∧ ShB.Own B wr (.slice (some ⟨gs, 0, none⟩) n n) mk') := Lib.hid ⟨mk', by rw [upsN_none hkl (by omega)]; exact hv, hom⟩
        clear hu hkl hv hom hg1 env cn
        go_wp2_with fail
        go_roundw
        case rel => exact ⟨k + 1, by go_num, by omega, HR, HM2, HGr⟩
        case measure => first | (simp [intOf]; omega) | simp [intOf]
      · rw [hu] at y0
        have hml : mk'.length = n := hv.len.trans HMK.out.1
        have y1 := boolAt hom j (by omega)
        have hfr := boolFr hom j
        have hj1 : ((j : Int) != -1) = true := by rw [bne_iff_ne]; omega
        have hjz : (j : Int) < (n : Int) := by omega
        have hus := upsN_some hkl hu
        by_cases hsn : gbl mk' j = true
        · rw [hsn] at y1
          have HM2 : Hid (∃ mk', Vis ups mk mk' (upsN (L.take (k + 1))) ∧ ShB.Own B wr (.slice (some ⟨gs, 0, none⟩) n n) mk') := Lib.hid ⟨mk', by rw [hus]; exact hv.trans (Vis.seen hsn), hom⟩
          clear hu hkl hv hom hg1 env hus hsn hml
          go_wp2_with fail
          go_roundw
          case rel => exact ⟨k + 1, by go_num, by omega, HR, HM2, HGr⟩
          case measure => first | (simp [intOf]; omega) | simp [intOf]
        · have hsn : gbl mk' j = false := by simpa using hsn
          rw [hsn] at y1
          have hjm : j < mk'.length := by omega
          have hct := count_set hjm hsn
          have hcv := hv.count
          have hom2 := boolPut hom j hjm true
          have hg2 := only_set hg1 j (.bool true)
          have env2 := HE.out _ hg2
          have cv2 := env2.cv
          have HC := Lib.hid (HIH.out ((mk'.set j true).count false) (by have := HMK.out.2; omega) s m g n c bs bn bv gs B ns w0 _ (mk'.set j true) j HE.out HU.out HLN.out h72 HIL.out hBg2.out.1 hBg2.out.2 hg2 (Nat.le_refl _) hj (by rw [List.length_set]; exact hml) hom2)
          have HGs := Lib.hid (only_set HGr.out j (.bool true))
          have HRs := Lib.hid (HR.out.kept (only_set (World.grownBy.refl wr (some gs)) j (.bool true)) HNE.out)
          have HV : Hid (∀ m2, Vis ups (mk'.set j true) m2 (ups j) → Vis ups mk m2 (upsN (L.take (k + 1)))) := Lib.hid fun m2 h => by rw [hus]; exact hv.trans (Vis.one hjm h)
          clear hu hkl hv hom hg1 env hus hsn hml hjm hct hcv hom2 hg2 env2
          go_wp2_with fail
          refine HC.out.mono ?_
          rintro e0 w5 ⟨rfl, q1, m2, q2, q3⟩
          have HM2 : Hid (∃ mk', Vis ups mk mk' (upsN (L.take (k + 1))) ∧ ShB.Own B w5 (.slice (some ⟨gs, 0, none⟩) n n) mk') := Lib.hid ⟨m2, HV.out m2 q2, q3⟩
          have HG5 := Lib.hid (HGs.out.trans q1)
          have HR5 := Lib.hid (HRs.out.kept q1 HNE.out)
          clear q1 q2 q3 HC HGs HRs cv2
          go_wp2_with fail
          go_roundw
          case rel => exact ⟨k + 1, by go_num, by omega, HR5, HM2, HG5⟩
          case measure => first | (simp [intOf]; omega) | simp [intOf]
    · have hltz : ¬ (k : Int) < (nl : Int) := by omega
      go_wp2
      go_end0
      obtain ⟨mk', hv, hom⟩ := HM.out
      rw [List.take_of_length_le (by have := HNL.out; omega), HUE.out] at hv
      exact ⟨rfl, HGr.out, mk', hv, hom⟩
theorem visit_any (ups : Nat → List Nat) : ∀ N, VisitOk ups N := fun N => Nat.strongRecOn N fun N ih => visit_step N ih
end Go.Proofs.YtkkfkjjmmdpafaaDoor
namespace Go.Proofs.YtkkfkjjmmdpafaaDoor
open Go.RowKit Go.Maps Go.WideMaps
set_option linter.unusedVariables false

def Nd.wi (x : Nd) (is : List Int) (vs : Sl) : Nd := ⟨x.k, x.vi, x.su, is, vs, x.ab, x.va, x.ln⟩
structure InI (b0 g n c : Nat) (W1 : World) (ns : List Nd) (k : Nat) (x : Nd) (vs : Sl) (is : List Int) (wr : World) : Prop where
  gr : W1.grownBy wr (some g)
  own : ShN.Own b0 wr (.slice (some ⟨g, 0, none⟩) n c) (ns.set k (x.wi is vs))
  vs : Own W1.heap.size wr 3 .i64 vs.v is
theorem set_same {α : Type} {l : List α} {k : Nat} {x : α} (h : l[k]? = some x) : l.set k x = l := by
  apply List.ext_getElem?
  intro q
  rw [List.getElem?_set]
  by_cases hq : k = q
  · subst hq
    rw [if_pos rfl, h, if_pos (List.getElem?_eq_some_iff.1 h).1]
  · rw [if_neg hq]
theorem SetAt.low {B s m g n c : Nat} {D : DataW Unit} {w : World} {ns : List Nd} (h : SetAt B s m ⟨some ⟨g, 0, none⟩, n, c⟩ D w ns) : g < w.heap.size ∧ B ≤ g ∧ ∃ cs z, w.heap[g]? = some (.cells cs 72 z) := by
  obtain ⟨cs, z, hg⟩ := h.own.typed g rfl
  exact ⟨lt_of_get hg, h.own.low g rfl, cs, z, hg⟩
theorem InI.start {b0 s m g n c : Nat} {D : DataW Unit} {W1 : World} {ns : List Nd} {k : Nat} {x : Nd} (h : SetAt b0 s m ⟨some ⟨g, 0, none⟩, n, c⟩ D W1 ns) (hx : ns[k]? = some x) (h1 : x.is = []) (h2 : x.vs = sl0) : InI b0 g n c W1 ns k x sl0 [] W1 := by
  have e : x.wi [] sl0 = x := by
    obtain ⟨a1, a2, a3, a4, a5, a6, a7, a8⟩ := x
    simp only at h1 h2
    subst h1 h2
    rfl
  refine ⟨World.grownBy.refl _ _, ?_, Own.nil _ _ _ _⟩
  rw [e, set_same hx]
  exact h.own
theorem InI.set {b0 s m g n c : Nat} {D : DataW Unit} {W1 wr : World} {ns : List Nd} {k : Nat} {x : Nd} {vs : Sl} {is : List Int} (h : SetAt b0 s m ⟨some ⟨g, 0, none⟩, n, c⟩ D W1 ns) (hb : b0 ≤ W1.heap.size) (hx : ns[k]? = some x) (hi : InI b0 g n c W1 ns k x vs is wr) : SetAt b0 s m ⟨some ⟨g, 0, none⟩, n, c⟩ D wr (ns.set k (x.wi is vs)) := by
  obtain ⟨cs, z, hg⟩ := h.own.typed g rfl
  have hr : ∀ q, some g = some q → ∃ o, W1.heap[q]? = some o ∧ (∀ c z, o ≠ .cells c ShS.T z) ∧ (∀ c z, o ≠ .cells c 3 z) := fun q hq => by
    injection hq with hq
    subst hq
    refine ⟨_, hg, fun c z e => ?_, fun c z e => ?_⟩
    · injection e with _ e _; exact absurd e (by decide)
    · injection e with _ e _; exact absurd e (by decide)
  have hkl : k < ns.length := (List.getElem?_eq_some_iff.1 hx).1
  refine ⟨h.bs, h.bm, ?_, hi.own, ?_, ?_, fun y hm => ?_⟩
  · refine (hi.gr.block s (lt_of_get h.blk) (fun e => ?_)).trans h.blk
    injection e with e
    subst e
    have := h.blk
    rw [hg] at this
    injection this with this
    injection this with _ e _
    exact absurd e (by decide)
  · rw [List.length_set]
    refine h.map.kept hi.gr (fun e => ?_)
    injection e with e
    subst e
    obtain ⟨es, clock, hb, _⟩ := h.map
    rw [hg] at hb
    cases hb
  · have e : (ns.set k (x.wi is vs)).map (·.k) = ns.map (·.k) := by
      rw [List.map_set]
      exact set_same (by rw [List.getElem?_map, hx]; rfl)
    rw [e]; exact h.num
  · rcases List.mem_or_eq_of_mem_set hm with hm | rfl
    · exact (h.ok y hm).kept hi.gr hr
    · have h5 := (h.ok x (List.mem_of_getElem? hx)).kept hi.gr hr
      exact ⟨h5.vi, hi.vs.base hb, h5.va⟩
theorem InI.step {b0 g n c : Nat} {W1 wr w' w4 : World} {ns : List Nd} {k : Nat} {x : Nd} {vs v' : Sl} {is is' : List Int} (hi : InI b0 g n c W1 ns k x vs is wr) (hg1 : g < W1.heap.size) (hk : k < ns.length) (e : Ext wr w') (ho : Own W1.heap.size w4 3 .i64 v'.v is') (hg : w'.grownBy w4 vs.v.ownBlock) :
    InI b0 g n c W1 ns k x v' is' (w4.setCell ⟨g, k * 11 + 8, none⟩ v'.v) ∧ w4.cell? ⟨g, k * 11 + 8, none⟩ = some (.slice vs.A vs.n vs.c) ∧ w4.frozen? ⟨g, k * 11 + 8, none⟩ = false := by
  have hv := hi.vs.ext e
  have own' := hi.own.ext e
  have hne : ∀ q, (Value.slice (some ⟨g, 0, none⟩) n c).ownBlock = some q → vs.v.ownBlock ≠ some q := fun q hq e2 => by
    have := hv.low q e2
    have hq : some g = some q := hq
    injection hq with hq
    omega
  have own4 := own'.kept hg hne (fun _ _ h => h)
  have g4 : W1.grownBy w4 (some g) := by
    have g1 : W1.grownBy w' (some g) := ⟨e.os.trans hi.gr.os, e.tape.trans hi.gr.tape, e.output.trans hi.gr.output, Nat.le_trans hi.gr.size e.size, fun b hb hne => (e.block b (Nat.lt_of_lt_of_le hb hi.gr.size)).trans (hi.gr.block b hb hne)⟩
    exact ⟨hg.os.trans g1.os, hg.tape.trans g1.tape, hg.output.trans g1.output, Nat.le_trans g1.size hg.size, fun b hb hne => (hg.block b (Nat.lt_of_lt_of_le hb g1.size) (fun e2 => by have := hv.low b e2.symm; omega)).trans (g1.block b hb hne)⟩
  have hel : ShN.el (ns.set k (x.wi is vs)) k = x.wi is vs := by
    have := ShN.el_get (l := ns.set k (x.wi is vs)) (j := k) (by rw [List.length_set]; exact hk)
    rw [this]
    simp
  have own5 := own4.setCell k 8 (by rw [List.length_set]; exact hk) (by decide) v'.v (x.wi is' v') (by rw [hel]; rfl) trivial
  rw [List.set_set] at own5
  obtain ⟨b, o, hA, hat⟩ := Shp.Row.at own4.row (by rw [List.length_set]; omega)
  refine ⟨⟨only_set g4 _ _, own5, ho.kept (set_grownK w4 g (k * 11 + 8) v'.v) (fun q hq e2 => ?_)⟩, ?_, ?_⟩
  · injection e2 with e2
    have := ho.low q hq
    omega
  · injection hA with hA
    injection hA with e1 e2 _
    subst e1 e2
    have h8 := (hat w4 (Ext.refl _) k (by rw [List.length_set]; exact hk)).1 8 (by decide)
    rw [hel, Nat.zero_add] at h8
    exact h8
  · obtain ⟨cs, z, h5⟩ := Shp.Own.typed own4 g rfl
    rcases own4.1.2 with ⟨h1, _⟩ | ⟨g', cap, cur, h1, hb, h2, _⟩
    · cases h1
    · injection h1 with e1 e2 e3
      injection e1 with e1
      injection e1 with e1 _ _
      subst e1
      simp [World.frozen?, h2]
def Half (N : List Kl) (k : Nat) (ns : List Nd) : Prop := ∀ i x, ns[i]? = some x → x.ab = [] ∧ x.va = sl0 ∧ x.ln = 0 ∧ (i < k → x.su = supI N i ∧ x.is = ifsI N i) ∧ (k ≤ i → x.is = [] ∧ x.vs = sl0)
theorem Half.start {ns : List Nd} {r : List Kl} (h : Raw ns) (hb : kls ns = builtZ ++ r) : Half (builtZ ++ r) 8 ns := fun i x hx => by
  obtain ⟨h1, h2, h3, h4, h5, h6⟩ := h i x hx
  refine ⟨h3, h4, h5, fun hi => ⟨?_, ?_⟩, fun _ => ⟨h1, h2⟩⟩
  · rw [h6 hi]
    unfold supI
    rw [if_pos hi, if_pos hi]
  · rw [h1, (ifs_built r i hi).1]
theorem Half.step {N : List Kl} {k : Nat} {ns : List Nd} {x : Nd} {vs : Sl} (h : Half N k ns) (hx : ns[k]? = some x) : Half N (k + 1) (ns.set k ⟨x.k, x.vi, supI N k, ifsI N k, vs, x.ab, x.va, x.ln⟩) := fun i y hy => by
  rw [List.getElem?_set] at hy
  by_cases hi : k = i
  · subst hi
    rw [if_pos rfl, if_pos (List.getElem?_eq_some_iff.1 hx).1] at hy
    injection hy with hy
    subst hy
    obtain ⟨h1, h2, h3, -⟩ := h k x hx
    exact ⟨h1, h2, h3, fun _ => ⟨rfl, rfl⟩, fun h => by omega⟩
  · rw [if_neg hi] at hy
    obtain ⟨h1, h2, h3, h4, h5⟩ := h i y hy
    exact ⟨h1, h2, h3, fun h => h4 (by omega), fun h => h5 (by omega)⟩
theorem Half.done {N : List Kl} {ns : List Nd} (h : Half N ns.length ns) (hb : kls ns = N) : Told ns ∧ ∀ x ∈ ns, x.ab = [] ∧ x.va = sl0 ∧ x.ln = 0 := by
  subst hb
  refine ⟨fun i x hx => (h i x hx).2.2.2.1 (List.getElem?_eq_some_iff.1 hx).1, fun x hx => ?_⟩
  obtain ⟨i, hi⟩ := List.mem_iff_getElem?.1 hx
  obtain ⟨h1, h2, h3, -⟩ := h i x hi
  exact ⟨h1, h2, h3⟩
theorem step_callL {P : Program} {ops : Array Oper} {o : Oper} {a : Act} {w : World} {K : Act → World → Prop} {Q : Exit → Act → World → Prop} {E : Prop} (hgd : o.guard = none) (f : FuncId) (xs : Array Operand) (ats : Array TypeId)
    (hop : o.op = .call { callee := .value (.func f), args := xs, argTypes := ats }) (args : Array Value) (hargs : #[] ++ xs.map a.eval ++ #[] = args) (hrun : (callFunc f args).run P w = .ok (.enter f args) w)
    (h : Calls P f args w fun e w' => ∃ v, e = .returned v ∧ K (a.put o.dst v) w') : if Region.wanted o (yielded ops a.tmps) = true then Oper.wp P o a w K Q else E := by
  have hw : Region.wanted o (yielded ops a.tmps) = true := by simp [Region.wanted, hgd]
  rw [if_pos hw]
  obtain ⟨dst, op, ty, pos, after, guard⟩ := o
  subst hop
  unfold Oper.wp
  rw [execOp_call_go, hargs, hrun, Oper.upon_enter]
  refine h.mono ?_
  rintro e w' ⟨v, rfl, hv⟩
  exact hv
end Go.Proofs.YtkkfkjjmmdpafaaDoor
namespace Go.Proofs.YtkkfkjjmmdpafaaDoor
open Go.RowKit
set_option linter.unusedVariables false

theorem cmp_facts {W0 w : World} {B len c g : Nat} {T : List (KlV × Nat)} {p q : Nat} {x y : KlV × Nat} (h : OwnT W0 B w (some ⟨g, 0, none⟩) len c T) (hp : T[p]? = some x) (hq : T[q]? = some y) :
    p < len ∧ q < len ∧ ∀ W, Ext w W → AtK W g (p * 7) x.1 ∧ AtK W g (q * 7) y.1 := by
  obtain ⟨c1, -, l1⟩ := h.at p x hp
  obtain ⟨c2, -, l2⟩ := h.at q y hq
  obtain ⟨-, -, hl, -⟩ := h.head (by omega)
  have hgb : g < w.heap.size := (Shp.Own.high (S := ShKW W0) h) g rfl
  exact ⟨by omega, by omega, fun W e => ⟨c1.ext e hgb, c2.ext e hgb⟩⟩
def Merged (W0 : World) (B g len c : Nat) (P L R S : List (KlV × Nat)) (w : World) (e : Ending) (w' : World) : Prop :=
  e = .returned (.tuple #[]) ∧ (∃ E, Srt tK E ∧ E.Perm (L ++ R) ∧ OwnT W0 B w' (some ⟨g, 0, none⟩) len c (P ++ (E ++ S))) ∧ w.grownBy w' (some g)
set_option maxRecDepth 100000 in
set_option maxHeartbeats 8000000 in
theorem symMerge_one {W0 w : World} {B a m b len c g : Nat} (P R S : List (KlV × Nat)) (x : KlV × Nat) (ha : P.length = a) (hm : a + 1 = m) (hb : m + R.length = b) (hR : Srt tK R) (hag : Agr (fun a b => cbK a.1 b.1) tK [x] R)
    (ho : OwnT W0 B w (some ⟨g, 0, none⟩) len c (P ++ ([x] ++ (R ++ S)))) (hl : (P ++ ([x] ++ (R ++ S))).length ≤ 64) :
    Calls Tryd.prog 93 #[.slice (some ⟨g, 0, none⟩) len c, .int .i64 a, .int .i64 m, .int .i64 b, cmpV] w (Merged W0 B g len c P [x] R S w) := by
  have hl2 : P.length + (1 + (R.length + S.length)) ≤ 64 := by simp at hl; omega
  have hb64 : b ≤ 64 := by omega
  have HL := Lib.hid (And.intro ha (And.intro hm (And.intro hb hl2)))
  have HR := Lib.hid hR
  have HAG := Lib.hid hag
  have HOW := Lib.hid ho
  have H0 : Hid ((∀ y ∈ R.take (m - m), tK y x) ∧ ∀ y ∈ R.drop (b - m), tK x y) := Lib.hid ⟨fun y hy => by simp at hy, fun y hy => by rw [List.drop_of_length_le (by omega)] at hy; cases hy⟩
  have hma : (m : Int) - (a : Int) = 1 := by omega
  have hmb : m ≤ b := by omega
  have ham : a < m := by omega
  clear ha hm hb hR hag ho hl hl2
  go_enter Tryd.func93, Tryd.ntmps93
  go_wp2_with fail
  go_loopw [10, 11] (fun i j wr => ∃ p q : Nat, i = .int .i64 p ∧ j = .int .i64 q ∧ m ≤ p ∧ p ≤ q ∧ q ≤ b ∧ Hid ((∀ y ∈ R.take (p - m), tK y x) ∧ ∀ y ∈ R.drop (q - m), tK x y) ∧ Hid (Ext w wr)) (fun i j _ => (intOf j).toNat - (intOf i).toNat)
  case atStart => exact ⟨m, b, rfl, rfl, Nat.le_refl _, hmb, Nat.le_refl _, H0, Lib.hid (Ext.refl _)⟩
  case round =>
    obtain ⟨p, q, rfl, rfl, hmp, hpq, hqb, HI, HX⟩ := hrel
    rename World => wr
    clear H0
    by_cases hlt : p < q
    · have hltz : (p : Int) < (q : Int) := by omega
      obtain ⟨h, hh⟩ : ∃ h, (p + q) / 2 = h := ⟨_, rfl⟩
      have hh2 : ((p : Int) + (q : Int)) / 2 = (h : Int) := by omega
      have hph : p ≤ h := by omega
      have hhq : h < q := by omega
      have HO := Lib.hid (HOW.out.ext HX.out)
      obtain ⟨z, hz⟩ : ∃ z, R[h - m]? = some z := ⟨R[h - m]'(by have := HL.out; omega), List.getElem?_eq_getElem _⟩
      have hp : (P ++ ([x] ++ (R ++ S)))[h]? = some z := by
        have := HL.out
        have hz2 := (List.getElem?_eq_some_iff.1 hz).1
        rw [List.getElem?_append_right (by omega), List.getElem?_append_right (by simp; omega), List.getElem?_append_left (by simp; omega), ← hz]
        congr 1
        simp; omega
      have hq : (P ++ ([x] ++ (R ++ S)))[a]? = some x := by
        have := HL.out
        rw [List.getElem?_append_right (by omega), show a - P.length = 0 by omega]
        rfl
      have hmem : z ∈ R := List.mem_of_getElem? hz
      have hord := HAG.out x (List.mem_singleton.2 rfl) z hmem
      have hlow : tK z x → (∀ y ∈ R.take (h + 1 - m), tK y x) := fun h1 => by
        obtain ⟨h2, h3⟩ := List.getElem?_eq_some_iff.1 hz
        have := bs_low (tl_tr swoK) HR.out h2 (by rw [h3]; exact h1)
        rw [show h - m + 1 = h + 1 - m by omega] at this
        exact this
      have hhigh : tK x z → (∀ y ∈ R.drop (h - m), tK x y) := fun h1 => by
        obtain ⟨h2, h3⟩ := List.getElem?_eq_some_iff.1 hz
        exact bs_high (tl_tr swoK) HR.out h2 (by rw [h3]; exact h1)
      have hdec : (Hid (∀ y ∈ R.take (h + 1 - m), tK y x) ∧ cfK z.1 x.1 < 0) ∨ (Hid (∀ y ∈ R.drop (h - m), tK x y) ∧ ¬ cfK z.1 x.1 < 0) := by
        cases e : cbK z.1 x.1
        · exact .inr ⟨hhigh (hord.2 e), cf_no e⟩
        · exact .inl ⟨hlow (hord.1 e), cf_yes e⟩
      have HFF := cmp_facts HO.out hp hq
      have hpl : h < len := HFF.1
      have hql : a < len := HFF.2.1
      obtain ⟨x', hx'⟩ : ∃ x', z.1 = x' := ⟨_, rfl⟩
      obtain ⟨y', hy'⟩ : ∃ y', x.1 = y' := ⟨_, rfl⟩
      have HF := Lib.hid HFF.2.2
      rw [hx', hy'] at HF
      have HXY := Lib.hid (And.intro hx' hy')
      have HC := Lib.hid (fun W => cmp_any x' y' W)
      have e1 := (Ext.refl wr).drew
      have f0 := HF.out _ e1
      unfold AtK at f0
      rw [hx', hy'] at hdec
      obtain ⟨rv, hr⟩ : ∃ rv, cfK x' y' = rv := ⟨_, rfl⟩
      rw [hr] at hdec HC
      have hplz : (h : Int) < (len : Int) := by omega
      have hqlz : (a : Int) < (len : Int) := by omega
      clear HFF hx' hy' hr
      unfold KlV.vals at HC
      clear hp hq hmem hord hlow hhigh hz
      rcases hdec with ⟨HD, hneg⟩ | ⟨HD, hneg⟩
      · go_wp2_with fail
        go_region_held3 (fun w' => w'.cell? ⟨g, h * 7, none⟩ = some (.slice x'.vp.A x'.vp.n x'.vp.c) ∧ w'.cell? ⟨g, h * 7 + 1, none⟩ = some (.string x'.k.nm) ∧ w'.cell? ⟨g, h * 7 + 2, none⟩ = some (.string x'.k.sup) ∧ w'.cell? ⟨g, h * 7 + 3, none⟩ = some (.bool x'.k.inf) ∧ w'.cell? ⟨g, h * 7 + 4, none⟩ = some (.slice x'.vi.A x'.vi.n x'.vi.c) ∧ w'.cell? ⟨g, h * 7 + 5, none⟩ = some (.slice x'.vf.A x'.vf.n x'.vf.c) ∧ w'.cell? ⟨g, h * 7 + 6, none⟩ = some (.slice x'.vm.A x'.vm.n x'.vm.c) ∧ w'.cell? ⟨g, a * 7, none⟩ = some (.slice y'.vp.A y'.vp.n y'.vp.c) ∧ w'.cell? ⟨g, a * 7 + 1, none⟩ = some (.string y'.k.nm) ∧ w'.cell? ⟨g, a * 7 + 2, none⟩ = some (.string y'.k.sup) ∧ w'.cell? ⟨g, a * 7 + 3, none⟩ = some (.bool y'.k.inf) ∧ w'.cell? ⟨g, a * 7 + 4, none⟩ = some (.slice y'.vi.A y'.vi.n y'.vi.c) ∧ w'.cell? ⟨g, a * 7 + 5, none⟩ = some (.slice y'.vf.A y'.vf.n y'.vf.c) ∧ w'.cell? ⟨g, a * 7 + 6, none⟩ = some (.slice y'.vm.A y'.vm.n y'.vm.c)) (first | go_keep | with_reducible assumption | assumption) (first
          | (go_at_call 65; (with_reducible refine (HC.out _).mono ?_); rintro e w5 ⟨rfl, x5⟩; have e5 := e1.grown x5 (fun g h => by cases h); have f1 := HF.out w5 e5; unfold AtK at f1))
        have HX5 := Lib.hid (HX.out.trans e5)
        clear f1 f0 x5 e5 e1
        go_wp2_with fail
        go_roundw
        case rel => exact ⟨h + 1, q, by go_num, rfl, by omega, by omega, hqb, Lib.hid ⟨HD.out, HI.out.2⟩, HX5⟩
        case measure => first | (simp [intOf]; omega) | simp [intOf]
      · go_wp2_with fail
        go_region_held3 (fun w' => w'.cell? ⟨g, h * 7, none⟩ = some (.slice x'.vp.A x'.vp.n x'.vp.c) ∧ w'.cell? ⟨g, h * 7 + 1, none⟩ = some (.string x'.k.nm) ∧ w'.cell? ⟨g, h * 7 + 2, none⟩ = some (.string x'.k.sup) ∧ w'.cell? ⟨g, h * 7 + 3, none⟩ = some (.bool x'.k.inf) ∧ w'.cell? ⟨g, h * 7 + 4, none⟩ = some (.slice x'.vi.A x'.vi.n x'.vi.c) ∧ w'.cell? ⟨g, h * 7 + 5, none⟩ = some (.slice x'.vf.A x'.vf.n x'.vf.c) ∧ w'.cell? ⟨g, h * 7 + 6, none⟩ = some (.slice x'.vm.A x'.vm.n x'.vm.c) ∧ w'.cell? ⟨g, a * 7, none⟩ = some (.slice y'.vp.A y'.vp.n y'.vp.c) ∧ w'.cell? ⟨g, a * 7 + 1, none⟩ = some (.string y'.k.nm) ∧ w'.cell? ⟨g, a * 7 + 2, none⟩ = some (.string y'.k.sup) ∧ w'.cell? ⟨g, a * 7 + 3, none⟩ = some (.bool y'.k.inf) ∧ w'.cell? ⟨g, a * 7 + 4, none⟩ = some (.slice y'.vi.A y'.vi.n y'.vi.c) ∧ w'.cell? ⟨g, a * 7 + 5, none⟩ = some (.slice y'.vf.A y'.vf.n y'.vf.c) ∧ w'.cell? ⟨g, a * 7 + 6, none⟩ = some (.slice y'.vm.A y'.vm.n y'.vm.c)) (first | go_keep | with_reducible assumption | assumption) (first
          | (go_at_call 65; (with_reducible refine (HC.out _).mono ?_); rintro e w5 ⟨rfl, x5⟩; have e5 := e1.grown x5 (fun g h => by cases h); have f1 := HF.out w5 e5; unfold AtK at f1))
        have HX5 := Lib.hid (HX.out.trans e5)
        clear f1 f0 x5 e5 e1
        go_wp2_with fail
        go_roundw
        case rel => exact ⟨p, h, rfl, by go_num, by omega, by omega, by omega, Lib.hid ⟨HI.out.1, HD.out⟩, HX5⟩
        case measure => first | (simp [intOf]; omega) | simp [intOf]
    · have hltz : ¬ (p : Int) < (q : Int) := by omega
      obtain rfl : p = q := by omega
      have e1 : R.take (p - m) ++ R.drop (p - m) = R := List.take_append_drop _ _
      have l1 : (R.take (p - m)).length = p - m := by have := HL.out; simp; omega
      have h1 := HI.out
      have HJ0 : Hid (∃ R1 R2 : List (KlV × Nat), R = R1 ++ R2 ∧ R1.length = p - m ∧ (∀ y ∈ R1, tK y x) ∧ (∀ y ∈ R2, tK x y)) := Lib.hid ⟨_, _, e1.symm, l1, h1.1, h1.2⟩
      clear e1 l1 h1 HI
      obtain ⟨R1, R2, r1, r2, r3, r4⟩ := HJ0.out
      subst r1
      have HR2 := Lib.hid r2
      have HR3 := Lib.hid r3
      have HR4 := Lib.hid r4
      have HOX : Hid (OwnT W0 B wr (some ⟨g, 0, none⟩) len c (P ++ (R1.take 0 ++ (x :: (R1.drop 0 ++ (R2 ++ S)))))) := Lib.hid (by simpa using HOW.out.ext HX.out)
      have HGX := Lib.hid (grown_extG (World.grownBy.refl w (some g)) HX.out)
      clear HJ0 r2 r3 r4 HX HOW
      go_wp2_with fail
      go_loopw [13] (fun k ws => ∃ t : Nat, k = .int .i64 (a + t : Nat) ∧ t ≤ p - m ∧ Hid (OwnT W0 B ws (some ⟨g, 0, none⟩) len c (P ++ (R1.take t ++ (x :: (R1.drop t ++ (R2 ++ S)))))) ∧ Hid (w.grownBy ws (some g))) (fun k _ => 64 - (intOf k).toNat)
      case atStart => exact ⟨0, by go_num, by omega, HOX, HGX⟩
      case round =>
        obtain ⟨t, rfl, htp, HO, HG⟩ := hrel
        rename World => ws
        clear HOX HGX
        by_cases hlt2 : t < p - m
        · have hltz2 : ((a + t : Nat) : Int) < (p : Int) - 1 := by omega
          obtain ⟨z, hz⟩ : ∃ z, R1[t]? = some z := ⟨R1[t]'(by have := HR2.out; omega), List.getElem?_eq_getElem _⟩
          obtain ⟨ht1, ht2⟩ := List.getElem?_eq_some_iff.1 hz
          have hd : R1.drop t = z :: R1.drop (t + 1) := by rw [← ht2]; exact List.drop_eq_getElem_cons ht1
          have htk : R1.take (t + 1) = R1.take t ++ [z] := by rw [← ht2]; exact List.take_succ_eq_append_getElem ht1
          have hln : (P ++ R1.take t).length = a + t := by have := HL.out; simp; omega
          have O1 : OwnT W0 B ws (some ⟨g, 0, none⟩) len c ((P ++ R1.take t) ++ x :: z :: (R1.drop (t + 1) ++ (R2 ++ S))) := by
            have := HO.out; rw [hd] at this; simpa using this
          obtain ⟨c1, n1, -⟩ := O1.at (a + t) x (by rw [← hln]; simp)
          obtain ⟨c2, n2, -⟩ := O1.at (a + t + 1) z (by rw [← hln, List.getElem?_append_right (by omega)]; simp)
          obtain ⟨g2, hg2, hlen, -, hfr⟩ := O1.head (by simp; omega)
          injection hg2 with hg2
          injection hg2 with hg2
          subst hg2
          have hat : a + t + 1 < len := by rw [hlen]; simp at hln ⊢; omega
          have O2 := O1.swap' n1 n2
          rw [hln] at O2
          obtain ⟨p', hp'⟩ : ∃ p', a + t = p' := ⟨_, rfl⟩
          rw [hp'] at O2 c1 c2 hat hltz2 ⊢
          have G3 := Lib.hid (grown_drewG (st7_only (st7_only (show w.grownBy ws (some g) from HG.out) (p' * 7) z.1) ((p' + 1) * 7) x.1))
          have O3 : Hid (OwnT W0 B (st7 (st7 ws g (p' * 7) z.1) g ((p' + 1) * 7) x.1).drew (some ⟨g, 0, none⟩) len c (P ++ (R1.take (t + 1) ++ (x :: (R1.drop (t + 1) ++ (R2 ++ S)))))) := Lib.hid (by rw [htk]; simpa using O2)
          obtain ⟨x', hx'⟩ : ∃ x', x.1 = x' := ⟨_, rfl⟩
          obtain ⟨y', hy'⟩ : ∃ y', z.1 = y' := ⟨_, rfl⟩
          rw [hx', hy'] at O3 G3
          rw [hx'] at c1
          rw [hy'] at c2
          obtain ⟨x0, x1, x2, x3, x4, x5, x6⟩ := c1
          obtain ⟨y0, y1, y2, y3, y4, y5, y6⟩ := c2
          obtain ⟨W, hW⟩ : ∃ W, (st7 (st7 ws g (p' * 7) y') g ((p' + 1) * 7) x').drew = W := ⟨_, rfl⟩
          rw [hW] at O3 G3
          unfold st7 at hW
          have hpl : (p' : Int) + 1 < (len : Int) := by omega
          have hpl0 : (p' : Int) < (len : Int) := by omega
          have p0 : (0 : Int) ≤ (p' : Int) + 1 := by omega
          have p1 : ((p' : Int) + 1).toNat = p' + 1 := by omega
          have hwp : IntKind.i64.wrap ((p' : Int) + 1) = (p' : Int) + 1 := by rw [IntKind.wrap_i64]; omega
          clear O1 O2 n1 n2 hd htk hln hlen ht1 ht2 hz hx' hy'
          go_wp2_with fail
          go_region
          try rw [hW]
          clear hW x0 x1 x2 x3 x4 x5 x6 y0 y1 y2 y3 y4 y5 y6 hfr
          go_wp2_with fail
          go_roundw
          case rel => exact ⟨t + 1, by go_num, by omega, O3, G3⟩
          case measure => first | (simp [intOf]; omega) | simp [intOf]
        · have hltz2 : ¬ ((a + t : Nat) : Int) < (p : Int) - 1 := by omega
          go_wp2
          go_end0
          have h1 := HR2.out
          obtain rfl : t = R1.length := by omega
          have h2 := HO.out
          rw [List.take_length, List.drop_length] at h2
          refine ⟨rfl, ⟨R1 ++ x :: R2, ins_done HR.out HR3.out HR4.out, List.perm_middle, ?_⟩, HG.out⟩
          simpa using h2
end Go.Proofs.YtkkfkjjmmdpafaaDoor
