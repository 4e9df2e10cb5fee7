/- Several texts of this proof, one behind the other. -/
import Derived.Test.YtladeaofhdaloaaDoorYaO
import Derived.Test.YtladeaofhdaloaaDoorYaK
import Derived.OwnWalk
import Derived.BigQuiet
namespace Go.Proofs.YtladeaofhdaloaaDoor
open Go.RowKit Go.Maps Go.WideMaps
set_option linter.unusedVariables false

theorem SetAt.ev {B s m g n c : Nat} {D : DataW Unit} {w : World} {ns : List Nd} (h : SetAt B s m ⟨some ⟨g, 0, none⟩, n, c⟩ D w ns) : SetEv s m g n c ns w := fun W e => by
  have h2 := h.ext e
  refine ⟨h2.get, fun i x hx => ?_⟩
  have h3 := h2.ok x (List.mem_of_getElem? hx)
  exact ⟨h3.vs.row, h3.vi.row⟩
theorem ints_back {l : List Int} (h : ∀ u ∈ l, 0 ≤ u) : ints (l.map Int.toNat) = l := by
  unfold ints
  rw [List.map_map]
  refine (List.map_congr_left fun u hu => ?_).trans (List.map_id l)
  have := h u hu
  simp
  omega
theorem told_gr {ns : List Nd} {r : List Kl} (ht : Told ns) (hb : kls ns = builtZ ++ r) (h0 : fltZ (kls ns) = none) : ∀ i x, ns[i]? = some x → x.su = supV (grK (kls ns)) i ∧ x.is = ints ((grK (kls ns)).ifs i) := by
  intro i x hx
  have hf := fltZ_none.1 h0
  have hlt : i < (kls ns).length := by have := (List.getElem?_eq_some_iff.1 hx).1; simpa [kls] using this
  obtain ⟨t1, t2⟩ := ht i x hx
  have h1 : supI (kls ns) i = -1 ∨ 0 ≤ supI (kls ns) i := by
    rcases Nat.lt_or_ge i 8 with h8 | h8
    · rw [hb, sup_built r i h8]
      split
      · exact .inl rfl
      · right; split <;> omega
    · rw [supI_own h8]
      exact .inr (flt2_some (hf i h8 hlt).2.1).1
  have h2 : ∀ u ∈ ifsI (kls ns) i, 0 ≤ u := by
    rcases Nat.lt_or_ge i 8 with h8 | h8
    · rw [hb, (ifs_built r i h8).1]
      intro u hu
      cases hu
    · intro u hu
      obtain ⟨y, hy, rfl⟩ := List.mem_map.1 hu
      exact (flt2_some (hf i h8 hlt).2.1).2 y hy
  refine ⟨?_, ?_⟩
  · rw [t1]
    show _ = (match supN (kls ns) i with | none => -1 | some j => (j : Int))
    unfold supN
    rcases h1 with h1 | h1
    · rw [if_pos (by omega), h1]
    · rw [if_neg (by omega)]
      simp
      omega
  · rw [t2]
    exact (ints_back h2).symm
def Tld (g : Gr) (k : Nat) (ns : List Nd) : Prop := ∀ i x, ns[i]? = some x → i < k → x.ab = ints (g.above i) ∧ x.ln = ((g.chain i).length : Int)
structure SetNew (B s m g n c : Nat) (D : DataW Unit) (N : List Kl) (w : World) (ns : List Nd) : Prop where
  set : SetAt B s m ⟨some ⟨g, 0, none⟩, n, c⟩ D w ns
  kl : kls ns = N
  told : Told ns
  above : Tld (grK N) n ns
def New (l : List KlV) : List Kl := builtZ ++ (sortZ cbK l).map (·.k)
set_option maxRecDepth 100000 in
theorem new_limit {w : World} {A : Option Addr} {n c : Nat} (hn : 64 < n) (hm : n ≤ 140737488355328) : Calls Tryd.prog 12 #[.slice A n c] w fun e w' => e = .returned (.tuple #[.pointer none, .string ⟨#[]⟩, .int .i64 5]) ∧ w' = w := by
  have hz : (64 : Int) < (n : Int) := by omega
  go_enter Tryd.func12, Tryd.ntmps12
  go_wp2
  go_ret3
  exact ⟨rfl, rfl⟩
theorem fltZ_err {N : List Kl} {nm : ByteArray} {er : Int} (h : fltZ N = some (nm, er)) : er = 90 ∨ er = 91 ∨ er = 92 := by
  have one : ∀ k, (ownK N).findSome? (fltC k N) = some (nm, er) → er = 90 ∨ er = 91 ∨ er = 92 := fun k h => by
    obtain ⟨i, -, hi⟩ := List.exists_of_findSome?_eq_some h
    exact flt_err hi
  unfold fltZ at h
  rcases Option.or_eq_some_iff.1 h with h | ⟨-, h⟩
  · exact one 0 h
  rcases Option.or_eq_some_iff.1 h with h | ⟨-, h⟩
  · exact one 1 h
  rcases Option.or_eq_some_iff.1 h with h | ⟨-, h⟩
  · exact one 2 h
  rcases Option.or_eq_some_iff.1 h with h | ⟨-, h⟩
  · exact one 3 h
  · exact one 4 h
def Nd.wa (x : Nd) (ab : List Int) (va : Sl) (ln : Int) : Nd := ⟨x.k, x.vi, x.su, x.is, x.vs, ab, va, ln⟩
theorem kls_set {ns : List Nd} {i : Nat} {x y : Nd} (hx : ns[i]? = some x) (h : y.k = x.k) : kls (ns.set i y) = kls ns := by
  unfold kls
  rw [List.map_set, h]
  exact set_same (by rw [List.getElem?_map, hx]; rfl)
theorem Told.set {ns : List Nd} {i : Nat} {x : Nd} {ab : List Int} {va : Sl} {ln : Int} (h : Told ns) (hx : ns[i]? = some x) : Told (ns.set i (x.wa ab va ln)) := fun j y hy => by
  rw [kls_set (y := x.wa ab va ln) hx rfl]
  rw [List.getElem?_set] at hy
  by_cases hj : i = j
  · subst hj
    rw [if_pos rfl, if_pos (List.getElem?_eq_some_iff.1 hx).1] at hy
    injection hy with hy
    subst hy
    exact h i x hx
  · rw [if_neg hj] at hy
    exact h j y hy
theorem Tld.step {g : Gr} {ns : List Nd} {i : Nat} {x : Nd} {va : Sl} (h : Tld g i ns) (hx : ns[i]? = some x) : Tld g (i + 1) (ns.set i (x.wa (ints (g.above i)) va ((g.chain i).length : Int))) := fun j y hy hlt => by
  rw [List.getElem?_set] at hy
  by_cases hj : i = j
  · subst hj
    rw [if_pos rfl, if_pos (List.getElem?_eq_some_iff.1 hx).1] at hy
    injection hy with hy
    subst hy
    exact ⟨rfl, rfl⟩
  · rw [if_neg hj] at hy
    exact h j y hy (by omega)
theorem SetAt.put2 {B s m g n c : Nat} {D : DataW Unit} {w : World} {ns : List Nd} (h : SetAt B s m ⟨some ⟨g, 0, none⟩, n, c⟩ D w ns) {i : Nat} {x : Nd} (hx : ns[i]? = some x) {ab : List Int} {va : Sl} (ln : Int) (ho : Own B w 3 .i64 va.v ab) :
    SetAt B s m ⟨some ⟨g, 0, none⟩, n, c⟩ D ((w.setCell ⟨g, i * 11 + 9, none⟩ va.v).setCell ⟨g, i * 11 + 10, none⟩ (.int .i64 ln)) (ns.set i (x.wa ab va ln)) := by
  have hil := (List.getElem?_eq_some_iff.1 hx).1
  have hel : ShN.el ns i = x := by
    rw [ShN.el_get hil]
    exact (List.getElem?_eq_some_iff.1 hx).2
  have hok := h.ok x (List.mem_of_getElem? hx)
  have h1 := h.put i 9 hil (by decide) va.v (x.wa ab va x.ln) (by rw [hel]; rfl) (by rw [hel]; rfl) ⟨hok.vi, hok.vs, ho⟩
  have hil2 : i < (ns.set i (x.wa ab va x.ln)).length := by rw [List.length_set]; exact hil
  have hg2 : (ns.set i (x.wa ab va x.ln))[i]? = some (x.wa ab va x.ln) := by rw [List.getElem?_set, if_pos rfl, if_pos hil]
  have hel2 : ShN.el (ns.set i (x.wa ab va x.ln)) i = x.wa ab va x.ln := by
    rw [ShN.el_get hil2]
    exact (List.getElem?_eq_some_iff.1 hg2).2
  have hok2 := h1.ok _ (List.mem_of_getElem? hg2)
  have h2 := h1.put i 10 hil2 (by decide) (.int .i64 ln) (x.wa ab va ln) (by rw [hel2]; rfl) (by rw [hel2]; rfl) ⟨hok2.vi, hok2.vs, hok2.va⟩
  rw [List.set_set] at h2
  exact h2
set_option maxRecDepth 100000 in
set_option maxHeartbeats 4000000 in
theorem new_any {w : World} {v : Value} {l : List KlV} (hb : Blt w) (h : ShK.Row w v l) (hl : l.length ≤ 64)
    (hz : ∀ x ∈ l, x.k.nm.size ≤ 140737488351232 ∧ x.k.sup.size ≤ 140737488351232 ∧ (∀ y ∈ x.k.ifs, y.size ≤ 140737488351232) ∧ x.k.ifs.length * 16 ≤ 140737488351232) (hnil : ∀ x ∈ l, x.vp = sl0 ∧ x.vf = sl0 ∧ x.vm = sl0) :
    Calls Tryd.prog 12 #[v] w fun e w' => Ext w w' ∧ ((∃ nm er, fltZ (New l) = some (nm, er) ∧ e = .returned (.tuple #[.pointer none, .string nm, .int .i64 er])) ∨
      (fltZ (New l) = none ∧ ∃ s m g n c D ns, e = .returned (.tuple #[.pointer (some ⟨s, 0, none⟩), .string ⟨#[]⟩, .int .i64 0]) ∧ SetNew w.heap.size s m g n c D (New l) w' ns)) := by
  have HG := Lib.hid (gather_any hb h hl hz hnil)
  have HZ := Lib.hid hz
  obtain ⟨A, c0, rfl, -, -, -⟩ := h.cut
  obtain ⟨n, hn⟩ : ∃ n, l.length = n := ⟨_, rfl⟩
  have HN := Lib.hid hn
  rw [hn] at hl HG ⊢
  have hlz : ¬ (64 : Int) < (n : Int) := by omega
  obtain ⟨b0, hb0⟩ : ∃ b0, w.heap.size = b0 := ⟨_, rfl⟩
  have HB0 := Lib.hid hb0
  rw [hb0] at HG ⊢
  obtain ⟨N, hN⟩ : ∃ N, New l = N := ⟨_, rfl⟩
  have HNE := Lib.hid hN
  rw [hN]
  obtain ⟨R, hR⟩ : ∃ R, fltZ N = R := ⟨_, rfl⟩
  rw [hR]
  have HR := Lib.hid hR
  clear hb h hz hnil hn hb0 hN hR
  go_enter Tryd.func12, Tryd.ntmps12
  go_wp2_with fail
  refine HG.out.mono ?_
  rintro e w1 ⟨s, m, g, c, D, ns, rfl, hset, hk, ht, h0, hx⟩
  have hk : kls ns = New l := hk
  have hlen : ns.length = 8 + n := by
    have : (kls ns).length = 8 + n := by
      rw [hk]; unfold New
      rw [List.length_append, List.length_map, (sortZ_perm cbK l).length_eq, HN.out]
      rfl
    simpa [kls] using this
  have hsz : SzOk ns := by
    have h1 : ∀ x ∈ ns, x.k.nm.size ≤ 140737488351232 ∧ x.k.sup.size ≤ 140737488351232 ∧ (∀ y ∈ x.k.ifs, y.size ≤ 140737488351232) := fun x hx => by
      have hm : x.k ∈ kls ns := List.mem_map.2 ⟨x, hx, rfl⟩
      rw [hk] at hm
      rcases List.mem_append.1 hm with hm | hm
      · have : ∀ y ∈ builtZ, y.nm.size ≤ 140737488351232 ∧ y.sup.size ≤ 140737488351232 ∧ y.ifs = [] := by decide
        obtain ⟨h1, h2, h3⟩ := this _ hm
        exact ⟨h1, h2, by rw [h3]; intro y hy; cases hy⟩
      · obtain ⟨y, hy, he⟩ := List.mem_map.1 hm
        obtain ⟨z1, z2, z3, -⟩ := HZ.out y ((sortZ_perm cbK l).mem_iff.1 hy)
        rw [← he]
        exact ⟨z1, z2, z3⟩
    exact ⟨fun x hx => (h1 x hx).1, fun x hx => (h1 x hx).2.1, fun x hx => (h1 x hx).2.2⟩
  obtain ⟨n3, hn3⟩ : ∃ n3, ns.length = n3 := ⟨_, rfl⟩
  rw [hn3] at hset hlen
  have hn72 : n3 ≤ 72 := by omega
  have hn8 : 8 ≤ n3 := by omega
  have HFA := Lib.hid (fault_any hset.ev hsz ht hk hn72)
  rw [hk] at HFA
  rw [HNE.out] at HFA hk
  rw [HR.out] at HFA
  have HNL : Hid (N.length = n3) := Lib.hid (by rw [← hk, ← hn3]; simp [kls])
  have HS := Lib.hid hset
  have HK := Lib.hid hk
  have HT := Lib.hid ht
  have HX := Lib.hid hx
  clear HG hset hk ht h0 hx hlen hsz hn3
  go_wp2_with fail
  refine HFA.out.mono ?_
  rintro e w2 ⟨rfl, x2⟩
  have HX2 := Lib.hid (HX.out.trans x2)
  have HS2 := Lib.hid (HS.out.ext x2)
  clear HFA HS HX x2
  rcases R with _ | ⟨nm, er⟩
  · dsimp only [fv]
    have HBN : Hid (N = builtZ ++ (sortZ cbK l).map (·.k)) := Lib.hid (by rw [← HNE.out]; rfl)
    have HOK : Hid (grK N).Ok := Lib.hid (by rw [HBN.out]; exact gr_ok _ (by rw [← HBN.out]; exact HR.out))
    have hs0 := HS2.out.c0
    dsimp only at hs0
    clear hk
    go_wp2_with fail
    go_loopw [26] (fun iv wr => ∃ (k : Nat) (ns : List Nd), iv = .int .i64 k ∧ k ≤ n3 ∧ Hid (SetAt b0 s m ⟨some ⟨g, 0, none⟩, n3, c⟩ D wr ns) ∧ Hid (kls ns = N) ∧ Hid (Told ns) ∧ Hid (Tld (grK N) k ns) ∧ Hid (Ext w wr)) (fun iv _ => n3 - (intOf iv).toNat)
    case atStart => exact ⟨0, ns, rfl, by omega, HS2, HK, HT, Lib.hid (fun i x hx h => by omega), HX2⟩
    case round =>
      obtain ⟨i, ns1, rfl, hin, HS, HK1, HT1, HA, HX⟩ := hrel
      rename World => wa
      clear HS2 HK HT HX2 hs0
      have hs0 := HS.out.c0
      dsimp only at hs0
      have HLN : Hid (ns1.length = n3) := Lib.hid (by rw [← HNL.out, ← HK1.out]; simp [kls])
      by_cases hlt : i < n3
      · have hltz : (i : Int) < (n3 : Int) := by omega
        have hil : i < ns1.length := by have := HLN.out; omega
        obtain ⟨x, hx⟩ : ∃ x, ns1[i]? = some x := ⟨ns1[i], List.getElem?_eq_getElem hil⟩
        have htg := told_gr (r := (sortZ cbK l).map (·.k)) HT1.out (HK1.out.trans HBN.out) (by rw [HK1.out]; exact HR.out)
        rw [HK1.out] at htg
        have hf := fltZ_none.1 (show fltZ (kls ns1) = none by rw [HK1.out]; exact HR.out)
        have hshort := is_short (r := (sortZ cbK l).map (·.k)) HT1.out (HK1.out.trans HBN.out) (by rw [HK1.out, HNL.out]; exact hn72) (fun j h1 h2 => (hf j h1 h2).2.1) (fun j h1 h2 => (hf j h1 h2).2.2.2.1)
        have HC := Lib.hid (climb_any HOK.out HS.out.ev (show (grK N).n = n3 from HNL.out) hn72 (fun j y h => (htg j y h).1) (fun j y h => (htg j y h).2) HLN.out hshort i hlt)
        have HPUT : Hid (∀ (W : World) (va : Sl), Ext wa W → Own b0 W 3 .i64 va.v (ints ((grK N).above i)) → SetAt b0 s m ⟨some ⟨g, 0, none⟩, n3, c⟩ D ((W.setCell ⟨g, i * 11 + 9, none⟩ va.v).setCell ⟨g, i * 11 + 10, none⟩ (.int .i64 ((grK N).chain i).length)) (ns1.set i (x.wa (ints ((grK N).above i)) va (((grK N).chain i).length : Int)))) := Lib.hid fun W va e ho => (HS.out.ext e).put2 hx _ ho
        have HFC : Hid (∀ W, Ext wa W → W.cell? ⟨g, i * 11 + 9, none⟩ = some (.slice x.va.A x.va.n x.va.c) ∧ W.cell? ⟨g, i * 11 + 10, none⟩ = some (.int .i64 x.ln) ∧ W.frozen? ⟨g, i * 11 + 9, none⟩ = false ∧ W.frozen? ⟨g, i * 11 + 10, none⟩ = false) := Lib.hid fun W e => by
          have h := HS.out.ext e
          obtain ⟨-, -, -, -, -, -, -, d9, d10⟩ := h.get.node i x hx
          rcases h.own.1.2 with ⟨e1, _⟩ | ⟨g', cap, cur, e1, _, e2, _⟩
          · cases e1
          · injection e1 with e1
            injection e1 with e1
            injection e1 with e1
            subst e1
            exact ⟨d9, d10, by simp [World.frozen?, e2], by simp [World.frozen?, e2]⟩
        have HAN : Hid (∀ va : Sl, Tld (grK N) (i + 1) (ns1.set i (x.wa (ints ((grK N).above i)) va (((grK N).chain i).length : Int)))) := Lib.hid fun va => HA.out.step hx
        have HKN : Hid (∀ va : Sl, kls (ns1.set i (x.wa (ints ((grK N).above i)) va (((grK N).chain i).length : Int))) = N) := Lib.hid fun va => (kls_set (y := x.wa (ints ((grK N).above i)) va (((grK N).chain i).length : Int)) hx rfl).trans HK1.out
        have HTN : Hid (∀ va : Sl, Told (ns1.set i (x.wa (ints ((grK N).above i)) va (((grK N).chain i).length : Int)))) := Lib.hid fun va => HT1.out.set hx
        have HBW : Hid (b0 ≤ wa.heap.size) := Lib.hid (by have := HX.out.size; have := HB0.out; omega)
        have HBG : Hid (b0 ≤ g) := Lib.hid HS.out.low.2.1
        obtain ⟨ab, hab⟩ : ∃ ab, ints ((grK N).above i) = ab := ⟨_, rfl⟩
        obtain ⟨ln, hln⟩ : ∃ ln, ((grK N).chain i).length = ln := ⟨_, rfl⟩
        rw [hab, hln] at HPUT HAN HKN HTN
        rw [hab, hln] at HC
        clear hx htg hf hshort hil hab hln
        go_wp2_with fail
        refine HC.out.mono ?_
        rintro e w5 ⟨v', rfl, ho5, x5⟩
        obtain ⟨A', c', e4, hc4, hm4, -⟩ := id ho5.row
        obtain ⟨nn, hnn⟩ : ∃ nn, ab.length = nn := ⟨_, rfl⟩
        rw [hnn] at e4
        subst e4
        have HO5 : Hid (Own b0 w5 3 .i64 (.slice A' nn c') ab) := Lib.hid (ho5.base HBW.out)
        have HP5 := Lib.hid (HPUT.out w5 ⟨A', nn, c'⟩ x5 HO5.out)
        unfold Sl.v at HP5
        have HX5 := Lib.hid (HX.out.trans x5)
        obtain ⟨q9, q10, r9, r10⟩ := HFC.out w5 x5
        clear ho5 x5 hc4 hm4 hnn HC HPUT HFC
        go_wp2_with fail
        have HX6 : Hid (Ext w ((w5.setCell ⟨g, i * 11 + 9, none⟩ (.slice A' nn c')).setCell ⟨g, i * 11 + 10, none⟩ (.int .i64 ln))) := Lib.hid ((HX5.out.set_ (by rw [HB0.out]; exact HBG.out) _).set_ (by rw [HB0.out]; exact HBG.out) _)
        go_roundw
        case rel => exact ⟨i + 1, _, by go_num, by omega, HP5, Lib.hid (HKN.out _), Lib.hid (HTN.out _), Lib.hid (HAN.out _), HX6⟩
        case measure => first | (simp [intOf]; omega) | simp [intOf]
      · have hltz : ¬ (i : Int) < (n3 : Int) := by omega
        have hin3 : i = n3 := by omega
        subst hin3
        have HF : Hid (∃ s' m g' n c D ns, (s' = s) ∧ SetNew b0 s' m g' n c D N wa ns) := Lib.hid ⟨s, m, g, _, c, D, ns1, rfl, HS.out, HK1.out, HT1.out, HA.out⟩
        go_wp2
        go_ret3
        obtain ⟨s', m, g', n, c, D, ns, rfl, hF⟩ := HF.out
        exact ⟨HX.out, _, rfl, _, _, _, _, _, _, hF⟩
  · dsimp only [fv]
    have her := fltZ_err HR.out
    rcases her with rfl | rfl | rfl
    all_goals
      go_wp2
      go_ret3
      exact ⟨HX2.out, .inl ⟨_, _, rfl, rfl⟩⟩
end Go.Proofs.YtladeaofhdaloaaDoor
namespace Go.Proofs.YtladeaofhdaloaaDoor
open Go.RowKit Go.Maps Go.WideMaps
set_option linter.unusedVariables false

theorem insZ_mapG {α β : Type} (f : α → β) (p : β → β → Bool) (x : α) : ∀ l : List α, (insZ (fun a b => p (f a) (f b)) x l).map f = insZ p (f x) (l.map f)
  | [] => rfl
  | y :: l => by
    unfold insZ
    simp only [List.map_cons]
    by_cases h : p (f x) (f y) = true
    · rw [if_pos h, if_pos h]; rfl
    · rw [if_neg h, if_neg h, List.map_cons, insZ_mapG f p x l]
theorem sortZ_mapG {α β : Type} (f : α → β) (p : β → β → Bool) (l : List α) : (sortZ (fun a b => p (f a) (f b)) l).map f = sortZ p (l.map f) := by
  unfold sortZ
  have : ∀ (l out : List α), (l.foldl (fun out x => insZ (fun a b => p (f a) (f b)) x out) out).map f = (l.map f).foldl (fun out x => insZ p x out) (out.map f) := by
    intro l
    induction l with
    | nil => intro out; rfl
    | cons x l ih => intro out; rw [List.foldl_cons, ih, insZ_mapG f p x out]; rfl
  exact this l []
theorem new_setZ (l : List KlV) : New l = setZ nlt (l.map (·.k)) := by
  unfold New setZ
  rw [← sortZ_mapG (fun x : KlV => x.k) (fun a b => nlt a.nm b.nm) l]
  rfl
set_option maxRecDepth 100000 in
theorem cloneI_any {w : World} {v : Value} {l : List Int} (h : Row w .i64 v l) (hl : l.length ≤ 1000000) :
    Calls Tryd.prog 53 #[v] w fun e w' => ∃ v', e = .returned v' ∧ Own w.heap.size w' 3 .i64 v' l ∧ Ext w w' := by
  obtain ⟨A, c, rfl, h2, h3, h4, h5, h6⟩ := h
  have hq := fun (W : World) (A : Option Addr) (n c : Nat) => Lib.run_eql_slice_nil (P := Tryd.prog) W 48 3 A n c 0 0 Tryd.underlying48
  rcases A with _ | ad
  · have hc := h4 rfl
    have hl : l = [] := List.eq_nil_of_length_eq_zero (by omega)
    subst hl
    subst hc
    clear h6 h5 h4
    go_enter Tryd.func53, Tryd.ntmps53
    go_wp2
    go_ret
    exact ⟨_, rfl, Own.nil _ _ _ _, Ext.refl _⟩
  · have h : Row w .i64 (.slice (some ad) l.length c) l := ⟨_, _, rfl, h2, h3, h4, h5, h6⟩
    clear h6 h5 h4
    go_enter Tryd.func53, Tryd.ntmps53
    go_wp2_with (at_builtin; go_loud (refine wpList_app _ rfl _ _ w.heap.size 48 3 _ 8 .i64 rfl Tryd.underlying48 infoI rfl (by omega) _ [] rfl (Own.made _ _ _ _ (Nat.le_refl _)) _ l rfl ?hh (by simp; omega) (by simp) ?_))
    case hh => exact h.ext ((Ext.refl _).alloc _)
    intro v' w' ho hg _
    go_wp2
    go_ret
    exact ⟨_, rfl, by simpa using ho, ((Ext.refl _).alloc _).grown hg (fun g hg => by simp [Value.ownBlock] at hg; omega)⟩
section
variable {B s m g n c : Nat} {D : DataW Unit} {N : List Kl} {w : World} {ns : List Nd}
theorem SetNew.ext {w' : World} (h : SetNew B s m g n c D N w ns) (e : Ext w w') : SetNew B s m g n c D N w' ns := ⟨h.set.ext e, h.kl, h.told, h.above⟩
theorem SetNew.len (h : SetNew B s m g n c D N w ns) : ns.length = n ∧ N.length = n := by
  have h1 := h.set.get.len
  exact ⟨h1.symm, by rw [← h.kl]; simp [kls, h1]⟩
theorem SetNew.at (h : SetNew B s m g n c D N w ns) (i : Nat) (hi : i < n) : ∃ x, ns[i]? = some x ∧ x.k = gk N i ∧ x.ab = ints ((grK N).above i) ∧ x.ln = ((grK N).chain i).length := by
  have hl := h.len.1
  obtain ⟨x, hx⟩ : ∃ x, ns[i]? = some x := ⟨ns[i]'(by omega), List.getElem?_eq_getElem (by omega)⟩
  obtain ⟨h1, h2⟩ := h.above i x hx hi
  exact ⟨x, hx, by rw [← h.kl, gk_of hx], h1, h2⟩
set_option maxRecDepth 100000 in
theorem name_in (h : SetNew B s m g n c D N w ns) (h72 : n ≤ 72) (i : Nat) (hi : i < n) (hz : (gk N i).nm.size ≤ 140737488351232) : Calls Tryd.prog 20 #[.pointer (some ⟨s, 0, none⟩), .int .i64 i] w fun e w' => e = .returned (.string (gk N i).nm) ∧ Ext w w' := by
  obtain ⟨x, hx, hk, -, -⟩ := h.at i hi
  obtain ⟨-, x1, -⟩ := h.set.get.node i x hx
  rw [hk] at x1
  have HN := Lib.hid (node_in h.set.get i hi h72)
  have HC := Lib.hid (fun W => sclone_any (gk N i).nm W hz)
  obtain ⟨nm, hnm⟩ : ∃ nm, (gk N i).nm = nm := ⟨_, rfl⟩
  rw [hnm] at HC x1 ⊢
  clear h hx hk hz hnm
  go_enter Tryd.func20, Tryd.ntmps20
  go_wp2_with fail
  refine HN.out.mono ?_
  rintro e w' ⟨rfl, rfl⟩
  go_wp2_with fail
  refine (HC.out _).mono ?_
  rintro e w5 ⟨rfl, x5⟩
  go_wp2
  go_ret
  exact ⟨rfl, x5⟩
theorem above_len (hok : (grK N).Ok) {i : Nat} (hi : i < N.length) : ((grK N).above i).length ≤ N.length := by
  have h := (hok.above_wd i hi).nd
  exact nodup_len h.1 h.2
set_option maxRecDepth 100000 in
theorem above_in (h : SetNew B s m g n c D N w ns) (hok : (grK N).Ok) (h72 : n ≤ 72) (i : Nat) (hi : i < n) : Calls Tryd.prog 30 #[.pointer (some ⟨s, 0, none⟩), .int .i64 i] w fun e w' => ∃ v', e = .returned v' ∧ Own w.heap.size w' 3 .i64 v' (ints ((grK N).above i)) ∧ Ext w w' := by
  obtain ⟨x, hx, hk, hab, -⟩ := h.at i hi
  obtain ⟨-, -, -, -, -, -, -, x9, -⟩ := h.set.get.node i x hx
  have hr : Row w .i64 (.slice x.va.A x.va.n x.va.c) (ints ((grK N).above i)) := by rw [← hab]; exact (h.set.ok x (List.mem_of_getElem? hx)).va.row
  have HN := Lib.hid (node_in h.set.get i hi h72)
  have HC := Lib.hid (cloneI_any hr (by rw [ints_len]; have := above_len hok (i := i) (by rw [h.len.2]; exact hi); have := h.len.2; omega))
  clear h hx hk hr hab
  go_enter Tryd.func30, Tryd.ntmps30
  go_wp2_with fail
  refine HN.out.mono ?_
  rintro e w' ⟨rfl, rfl⟩
  go_wp2_with fail
  refine HC.out.mono ?_
  rintro e w5 ⟨v', rfl, ho, x5⟩
  go_wp2
  go_ret
  exact ⟨_, rfl, ho, x5⟩
set_option maxRecDepth 100000 in
theorem below_in (h : SetNew B s m g n c D N w ns) (h72 : n ≤ 72) (i : Nat) (hi : i < n) (j : Int) : Calls Tryd.prog 32 #[.pointer (some ⟨s, 0, none⟩), .int .i64 i, .int .i64 j] w fun e w' => e = .returned (.bool ((ints ((grK N).above i)).contains j)) ∧ w' = w := by
  obtain ⟨x, hx, hk, hab, -⟩ := h.at i hi
  obtain ⟨-, -, -, -, -, -, -, x9, -⟩ := h.set.get.node i x hx
  have hr : Row w .i64 (.slice x.va.A x.va.n x.va.c) (ints ((grK N).above i)) := by rw [← hab]; exact (h.set.ok x (List.mem_of_getElem? hx)).va.row
  have HN := Lib.hid (node_in h.set.get i hi h72)
  have HC := Lib.hid (contains_any hr j)
  obtain ⟨bb, hbb⟩ : ∃ bb, (ints ((grK N).above i)).contains j = bb := ⟨_, rfl⟩
  rw [hbb] at HC ⊢
  clear h hx hk hr hab hbb
  go_enter Tryd.func32, Tryd.ntmps32
  go_wp2_with fail
  refine HN.out.mono ?_
  rintro e w' ⟨rfl, rfl⟩
  go_wp2_with fail
  refine HC.out.mono ?_
  rintro e w5 ⟨rfl, rfl⟩
  go_wp2
  go_ret
  exact ⟨rfl, rfl⟩
set_option maxRecDepth 100000 in
theorem number_any (h : SetNew B s m g n c D N w ns) (nm : ByteArray) (hz : nm.size ≤ 140737488351232) : Calls Tryd.prog 16 #[.pointer (some ⟨s, 0, none⟩), .string nm] w fun e w' => e = .returned (.tuple #[.int .i64 (if findZ N nm < 0 then 0 else findZ N nm), .bool (decide (0 ≤ findZ N nm))]) ∧ w' = w := by
  have c1 := h.set.get.c1
  have hlk := h.set.get.look nm hz
  rw [show ns.map (·.k) = N from h.kl] at hlk
  obtain ⟨a, ha⟩ : ∃ a : Int, (if findZ N nm < 0 then 0 else findZ N nm) = a := ⟨_, rfl⟩
  obtain ⟨b, hb⟩ : ∃ b, decide (0 ≤ findZ N nm) = b := ⟨_, rfl⟩
  rw [ha, hb] at hlk ⊢
  clear h ha hb
  go_enter Tryd.func16, Tryd.ntmps16
  go_wp2
  go_ret2
  exact ⟨rfl, rfl⟩
end
end Go.Proofs.YtladeaofhdaloaaDoor
namespace Go.Proofs.YtladeaofhdaloaaDoor
open Go.RowKit Go.Maps Go.WideMaps
set_option linter.unusedVariables false
section
variable {B s m g n c : Nat} {D : DataW Unit} {N : List Kl} {w : World} {ns : List Nd}
theorem above_pre (hok : (grK N).Ok) {i : Nat} (hi : i < N.length) : ∃ t, (grK N).above i = (grK N).chain i ++ t := (hok.above_wd i hi).pre
set_option maxRecDepth 100000 in
theorem upw_in (h : SetNew B s m g n c D N w ns) (hok : (grK N).Ok) (h72 : n ≤ 72) (i : Nat) (hi : i < n) : Calls Tryd.prog 58 #[.pointer (some ⟨g, i * 11, none⟩)] w fun e w' => ∃ A k, e = .returned (.slice A ((grK N).chain i).length k) ∧ Row w' .i64 (.slice A ((grK N).chain i).length k) (ints ((grK N).chain i)) ∧ Ext w w' := by
  obtain ⟨x, hx, hk, hab, hln⟩ := h.at i hi
  obtain ⟨-, -, -, -, -, -, -, x9, x10⟩ := h.set.get.node i x hx
  have hr : Row w .i64 (.slice x.va.A x.va.n x.va.c) (ints ((grK N).above i)) := by rw [← hab]; exact (h.set.ok x (List.mem_of_getElem? hx)).va.row
  obtain ⟨t, ht⟩ := above_pre hok (i := i) (by rw [h.len.2]; exact hi)
  rw [hln] at x10
  obtain ⟨A, hA⟩ : ∃ A, x.va.A = A := ⟨_, rfl⟩
  obtain ⟨vn, hvn⟩ : ∃ vn, x.va.n = vn := ⟨_, rfl⟩
  obtain ⟨vc, hvc⟩ : ∃ vc, x.va.c = vc := ⟨_, rfl⟩
  rw [hA, hvn, hvc] at hr x9
  have hcl : 0 < ((grK N).chain i).length := List.length_pos_of_mem (hok.chain_all i (by show i < N.length; rw [h.len.2]; exact hi)).2.1
  have hlen : ((grK N).chain i).length ≤ (ints ((grK N).above i)).length := by rw [ints_len, ht, List.length_append]; omega
  have hhd := hr.head ((grK N).chain i).length hlen
  have htk : (ints ((grK N).above i)).take ((grK N).chain i).length = ints ((grK N).chain i) := by
    rw [ht]; unfold ints; rw [List.map_append, List.take_left' (by simp)]
  rw [htk] at hhd
  have HHD := Lib.hid hhd
  obtain ⟨A', c', e1, hc1, hc2, hc3, -⟩ := hr
  have hvv : vn = (ints ((grK N).above i)).length ∧ vc = c' ∧ A = A' := by injection e1 with e1 e2 e3; exact ⟨e2, e3, e1⟩
  have hA0 : A ≠ none := fun e => by
    have h1 := hc3 (hvv.2.2.symm.trans e)
    omega
  obtain ⟨ad, rfl⟩ : ∃ ad, A = some ad := by
    rcases A with _ | ad
    · exact absurd rfl hA0
    · exact ⟨ad, rfl⟩
  obtain ⟨ln, hl⟩ : ∃ ln, ((grK N).chain i).length = ln := ⟨_, rfl⟩
  rw [hl] at HHD x10 hlen ⊢
  have hlc : ln ≤ vc := by omega
  have hvc2 : vc ≤ 9223372036854775807 := by unfold maxLen at hc2; omega
  have hz0 : ¬ (ln : Int) < 0 := by omega
  have hz1 : (ln : Int) ≤ (vc : Int) := by omega
  clear h hx hk hab hln ht hcl hlen hhd htk e1 hc1 hc2 hc3 hvv hA0 hl hA hvn hvc
  go_enter Tryd.func58, Tryd.ntmps58
  go_wp2_with fail
  go_quiet (fail)
  go_wp2
  go_ret
  exact ⟨_, _, rfl, HHD.out.ext ((Ext.refl w).drewN nq), (Ext.refl w).drewN nq⟩
theorem firstEq_drop {X Y : List Nat} {k x y : Nat} (hx : X[k]? = some x) (hy : Y[k]? = some y) : firstEq (X.drop k) (Y.drop k) = if y = x then some x else firstEq (X.drop (k + 1)) (Y.drop (k + 1)) := by
  obtain ⟨h1, rfl⟩ := List.getElem?_eq_some_iff.1 hx
  obtain ⟨h2, rfl⟩ := List.getElem?_eq_some_iff.1 hy
  rw [List.drop_eq_getElem_cons h1, List.drop_eq_getElem_cons h2]
  rfl
theorem rowN_at {w : World} {b o z k : Nat} {X : List Nat} (h : Row w .i64 (.slice (some ⟨b, o, none⟩) z k) (ints X)) : X.length = z ∧ ∀ (j x : Nat), X[j]? = some x → w.cell? ⟨b, o + j, none⟩ = some (.int .i64 (x : Int)) := by
  obtain ⟨A', c', e1, u1, u2, u3, -, u4⟩ := h
  injection e1 with e1 e2 e3
  rw [ints_len] at e2
  refine ⟨e2.symm, fun j x hx => ?_⟩
  have hj := (List.getElem?_eq_some_iff.1 hx).1
  obtain ⟨b', o', h1, -, h2⟩ := u4 (by rw [ints_len]; omega)
  rw [← e1] at h1
  injection h1 with h1
  injection h1 with h3 h4 _
  subst h3 h4
  rw [h2 j (by rw [ints_len]; exact hj)]
  have : gi (ints X) j = (x : Int) := by
    unfold gi ints
    rw [List.getD_eq_getElem?_getD, List.getElem?_map, hx]
    rfl
  rw [this]
set_option maxRecDepth 100000 in
set_option maxHeartbeats 4000000 in
theorem common_in (h : SetNew B s m g n c D N w ns) (hok : (grK N).Ok) (h72 : n ≤ 72) (i j : Nat) (hi : i < n) (hj : j < n) (r : Nat) (hr : (grK N).common i j = some r) : Calls Tryd.prog 34 #[.pointer (some ⟨s, 0, none⟩), .int .i64 i, .int .i64 j] w fun e w' => e = .returned (.int .i64 r) ∧ Ext w w' := by
  have HN := Lib.hid (fun W (e : Ext w W) => node_in (h.ext e).set.get i hi h72)
  have HM := Lib.hid (fun W (e : Ext w W) => node_in (h.ext e).set.get j hj h72)
  have HU := Lib.hid (fun W (e : Ext w W) => upw_in (h.ext e) hok h72 i hi)
  have HV := Lib.hid (fun W (e : Ext w W) => upw_in (h.ext e) hok h72 j hj)
  have HT := Lib.hid (hok.common_tails i j (show i < N.length by rw [h.len.2]; exact hi) (show j < N.length by rw [h.len.2]; exact hj))
  rw [hr] at HT
  have hp0 : 0 < ((grK N).chain i).length := List.length_pos_of_mem (hok.chain_all i (by show i < N.length; rw [h.len.2]; exact hi)).2.1
  have hq0 : 0 < ((grK N).chain j).length := List.length_pos_of_mem (hok.chain_all j (by show j < N.length; rw [h.len.2]; exact hj)).2.1
  obtain ⟨X, hX⟩ : ∃ X, (grK N).chain i = X := ⟨_, rfl⟩
  obtain ⟨Y, hY⟩ : ∃ Y, (grK N).chain j = Y := ⟨_, rfl⟩
  rw [hX] at HU HT hp0
  rw [hY] at HV HT hq0
  obtain ⟨p, hp⟩ : ∃ p, X.length = p := ⟨_, rfl⟩
  obtain ⟨q, hq⟩ : ∃ q, Y.length = q := ⟨_, rfl⟩
  rw [hp] at HU HT hp0
  rw [hq] at HV HT hq0
  have HP := Lib.hid hp
  have HQ := Lib.hid hq
  clear h hX hY hp hq hr
  go_enter Tryd.func34, Tryd.ntmps34
  go_wp2_with fail
  refine (HN.out _ (Ext.refl w)).mono ?_
  rintro e w1 ⟨rfl, rfl⟩
  go_wp2_with fail
  refine (HU.out _ (Ext.refl w1)).mono ?_
  rintro e w2 ⟨A1, k1, rfl, r1, x1⟩
  have HX1 := Lib.hid x1
  have HR1 := Lib.hid r1
  clear x1 r1
  go_wp2_with fail
  refine (HM.out _ HX1.out).mono ?_
  rintro e w3 ⟨rfl, rfl⟩
  go_wp2_with fail
  refine (HV.out _ HX1.out).mono ?_
  rintro e w4 ⟨A2, k2, rfl, r2, x2⟩
  have HX2 := Lib.hid (HX1.out.trans x2)
  have HR2 := Lib.hid r2
  have HR1 := Lib.hid (HR1.out.ext x2)
  clear x2 r2 HN HM HU HV
  obtain ⟨A', c', e1, u1, u2, u3, -, u4⟩ := HR1.out
  obtain ⟨b1, o1, rfl, -⟩ := u4 (by rw [ints_len, HP.out]; exact hp0)
  have hpk : p ≤ k1 ∧ k1 ≤ 9223372036854775807 := by
    injection e1 with _ e2 e3
    unfold maxLen at u2
    omega
  have hA1 : A1 = some ⟨b1, o1, none⟩ := by injection e1
  subst hA1
  clear e1 u1 u2 u3 u4
  obtain ⟨A', c', e1, u1, u2, u3, -, u4⟩ := HR2.out
  obtain ⟨b2, o2, rfl, -⟩ := u4 (by rw [ints_len, HQ.out]; exact hq0)
  have hqk : q ≤ k2 ∧ k2 ≤ 9223372036854775807 := by
    injection e1 with _ e2 e3
    unfold maxLen at u2
    omega
  have hA2 : A2 = some ⟨b2, o2, none⟩ := by injection e1
  subst hA2
  clear e1 u1 u2 u3 u4
  have HR1 := Lib.hid HR1.out
  obtain ⟨z, hz⟩ : ∃ z, min p q = z := ⟨_, rfl⟩
  rw [hz] at HT
  have hzb : 0 < z ∧ z ≤ p ∧ z ≤ q := by omega
  obtain ⟨d1, hd1⟩ : ∃ d1, p - z = d1 := ⟨_, rfl⟩
  obtain ⟨d2, hd2⟩ : ∃ d2, q - z = d2 := ⟨_, rfl⟩
  rw [hd1, hd2] at HT
  have hmin : min (p : Int) (q : Int) = (z : Int) := by omega
  have hs1 : (p : Int) - (z : Int) = (d1 : Int) := by omega
  have hs2 : (q : Int) - (z : Int) = (d2 : Int) := by omega
  have m1 : ¬ (d1 : Int) < 0 := by omega
  have m2 : ¬ (d2 : Int) < 0 := by omega
  have m3 : (d1 : Int) ≤ (p : Int) := by omega
  have m4 : (d2 : Int) ≤ (q : Int) := by omega
  have m5 : (p : Int) ≤ (k1 : Int) := by omega
  have m6 : (q : Int) ≤ (k2 : Int) := by omega
  have m7 : ¬ k1 = d1 := by omega
  have m8 : ¬ k2 = d2 := by omega
  have HD := Lib.hid (And.intro hd1 hd2)
  clear hd1 hd2 hz
  go_upto_region 3 with fail
  try rw [hmin]
  go_quiet (fail)
  go_upto_region 4 with fail
  obtain ⟨W, hW⟩ : ∃ W, w4.drewN nq = W := ⟨_, rfl⟩
  have HX4 : Hid (Ext w1 W) := Lib.hid (by rw [← hW]; exact HX2.out.trans ((Ext.refl w4).drewN nq))
  have hz1 : p - d1 = z := by have := HD.out; omega
  have hz2 : q - d2 = z := by have := HD.out; omega
  have hmapX : (ints X).drop d1 = ints (X.drop d1) := by unfold ints; rw [List.map_drop]
  have hmapY : (ints Y).drop d2 = ints (Y.drop d2) := by unfold ints; rw [List.map_drop]
  have hrx := (HR1.out.tail d1 (by rw [ints_len, HP.out]; omega)).ext ((Ext.refl w4).drewN nq)
  have hry := (HR2.out.tail d2 (by rw [ints_len, HQ.out]; omega)).ext ((Ext.refl w4).drewN nq)
  rw [hmapX, hz1, hW] at hrx
  rw [hmapY, hz2, hW] at hry
  have HCX := Lib.hid (rowN_at hrx)
  have HCY := Lib.hid (rowN_at hry)
  rw [hz1, hz2, hW]
  obtain ⟨X2, hX2⟩ : ∃ X2, X.drop d1 = X2 := ⟨_, rfl⟩
  obtain ⟨Y2, hY2⟩ : ∃ Y2, Y.drop d2 = Y2 := ⟨_, rfl⟩
  rw [hX2] at HT HCX
  rw [hY2] at HT HCY
  obtain ⟨kc1, hk1⟩ : ∃ kc1, k1 - d1 = kc1 := ⟨_, rfl⟩
  obtain ⟨kc2, hk2⟩ : ∃ kc2, k2 - d2 = kc2 := ⟨_, rfl⟩
  rw [hk1, hk2]
  have hzc1 : z ≤ kc1 := by omega
  have hzc2 : z ≤ kc2 := by omega
  have HF0 : Hid (firstEq (X2.drop 0) (Y2.drop 0) = some r) := HT
  clear hW hz1 hz2 hmapX hmapY hrx hry hX2 hY2 hk1 hk2 HR1 HR2 HT hmin hs1 hs2 m1 m2 m3 m4 m5 m6 m7 m8 HX2 HX1 HP HQ HD hp0 hq0
  go_wp2_with fail
  go_loopw [39] (fun iv wr => ∃ k : Nat, iv = .int .i64 k ∧ k ≤ z ∧ wr = W ∧ Hid (firstEq (X2.drop k) (Y2.drop k) = some r)) (fun iv _ => z - (intOf iv).toNat)
  case atStart => exact ⟨0, rfl, by omega, rfl, HF0⟩
  case round =>
    obtain ⟨k, rfl, hk, rfl, HF⟩ := hrel
    clear HF0
    by_cases hlt : k < z
    · have hltz : (k : Int) < (z : Int) := by omega
      obtain ⟨x, hx⟩ : ∃ x, X2[k]? = some x := ⟨X2[k]'(by have := HCX.out.1; omega), List.getElem?_eq_getElem _⟩
      obtain ⟨y, hy⟩ : ∃ y, Y2[k]? = some y := ⟨Y2[k]'(by have := HCY.out.1; omega), List.getElem?_eq_getElem _⟩
      have c1 := HCX.out.2 k x hx
      have c2 := HCY.out.2 k y hy
      have HFE := Lib.hid (firstEq_drop hx hy)
      clear hx hy
      by_cases hxy : y = x
      · subst hxy
        have hr : y = r := by have h := HF.out; rw [HFE.out, if_pos rfl] at h; injection h
        subst hr
        go_wp2
        go_ret
        exact ⟨rfl, HX4.out⟩
      · have hxz : ¬ (y : Int) = (x : Int) := by omega
        have HF2 : Hid (firstEq (X2.drop (k + 1)) (Y2.drop (k + 1)) = some r) := Lib.hid (by have h := HF.out; rw [HFE.out, if_neg hxy] at h; exact h)
        go_wp2_with fail
        go_roundw
        case rel => exact ⟨k + 1, by go_num, by omega, by first | rfl | trivial, HF2⟩
        case measure => first | (simp [intOf]; omega) | simp [intOf]
    · exfalso
      have h := HF.out
      have hkz : k = z := by omega
      rw [List.drop_of_length_le (by rw [HCX.out.1]; omega)] at h
      cases h
end
end Go.Proofs.YtladeaofhdaloaaDoor
namespace Go.Proofs.YtladeaofhdaloaaDoor
open Go.RowKit Go.Maps Go.WideMaps
set_option linter.unusedVariables false
def ndNone : Nd := ⟨kl0, sl0, -1, [], sl0, [], sl0, 0⟩
section
variable {s m g n c : Nat} {w : World} {ns : List Nd}
set_option maxRecDepth 100000 in
theorem node_out (h : SetG s m g n c w ns) (h72 : n ≤ 72) (i : Int) (hi : i < 0 ∨ (n : Int) ≤ i) : Calls Tryd.prog 52 #[.pointer (some ⟨s, 0, none⟩), .int .i64 i] w fun e w' => ∃ b, e = .returned (.pointer (some ⟨b, 0, none⟩)) ∧ w'.heap[b]? = some (.cells ndNone.vals 72 (0, 0)) ∧ Ext w w' := by
  have c0 := h.c0
  have HL := Lib.hid (len_any h)
  by_cases i0 : i < 0
  · clear h hi
    go_enter Tryd.func52, Tryd.ntmps52
    go_wp2
    go_ret
    exact ⟨_, rfl, heap_alloc_new w (.cells ndNone.vals 72), (Ext.refl w).alloc _⟩
  · have i1 : (n : Int) ≤ i := by omega
    clear h hi
    go_enter Tryd.func52, Tryd.ntmps52
    go_wp2_with fail
    refine HL.out.mono ?_
    rintro e w' ⟨rfl, rfl⟩
    go_wp2
    go_ret
    exact ⟨_, rfl, heap_alloc_new w' (.cells ndNone.vals 72), (Ext.refl w').alloc _⟩
theorem none_cells {W : World} {b : Nat} (h : W.heap[b]? = some (.cells ndNone.vals 72 (0, 0))) : W.cell? ⟨b, 1, none⟩ = some (.string ⟨#[]⟩) ∧ W.cell? ⟨b, 3, none⟩ = some (.bool false) ∧ W.cell? ⟨b, 7, none⟩ = some (.int .i64 (-1)) ∧ W.cell? ⟨b, 8, none⟩ = some (.slice none 0 0) ∧ W.cell? ⟨b, 9, none⟩ = some (.slice none 0 0) ∧ W.cell? ⟨b, 10, none⟩ = some (.int .i64 0) := by
  refine ⟨?_, ?_, ?_, ?_, ?_, ?_⟩
  all_goals
    rw [cell_of_row W b _ _ _ (0, 0) h]
    rfl
set_option maxRecDepth 100000 in
theorem above_out (h : SetG s m g n c w ns) (h72 : n ≤ 72) (i : Int) (hi : i < 0 ∨ (n : Int) ≤ i) : Calls Tryd.prog 30 #[.pointer (some ⟨s, 0, none⟩), .int .i64 i] w fun e w' => ∃ v', e = .returned v' ∧ Own w.heap.size w' 3 .i64 v' [] ∧ Ext w w' := by
  have HN := Lib.hid (node_out h h72 i hi)
  have HC := Lib.hid (fun W => cloneI_any (l := []) (Own.nil 0 W 3 .i64).row (by simp))
  clear h hi
  go_enter Tryd.func30, Tryd.ntmps30
  go_wp2_with fail
  refine HN.out.mono ?_
  rintro e w1 ⟨b, rfl, hb, x1⟩
  obtain ⟨c1, c3, c7, c8, c9, c10⟩ := none_cells hb
  have HX := Lib.hid x1
  clear hb x1
  go_wp2_with fail
  refine (HC.out _).mono ?_
  rintro e w5 ⟨v', rfl, ho, x5⟩
  go_wp2
  go_ret
  exact ⟨_, rfl, ho.base HX.out.size, HX.out.trans x5⟩
set_option maxRecDepth 100000 in
theorem below_out (h : SetG s m g n c w ns) (h72 : n ≤ 72) (i : Int) (hi : i < 0 ∨ (n : Int) ≤ i) (j : Int) : Calls Tryd.prog 32 #[.pointer (some ⟨s, 0, none⟩), .int .i64 i, .int .i64 j] w fun e w' => e = .returned (.bool false) ∧ Ext w w' := by
  have HN := Lib.hid (node_out h h72 i hi)
  have HC := Lib.hid (fun W => contains_any (l := []) (Own.nil 0 W 3 .i64).row j)
  clear h hi
  go_enter Tryd.func32, Tryd.ntmps32
  go_wp2_with fail
  refine HN.out.mono ?_
  rintro e w1 ⟨b, rfl, hb, x1⟩
  obtain ⟨c1, c3, c7, c8, c9, c10⟩ := none_cells hb
  have HX := Lib.hid x1
  clear hb x1
  go_wp2_with fail
  refine (HC.out _).mono ?_
  rintro e w5 ⟨rfl, rfl⟩
  go_wp2
  go_ret
  exact ⟨rfl, HX.out⟩
set_option maxRecDepth 100000 in
theorem super_out (h : SetG s m g n c w ns) (h72 : n ≤ 72) (i : Int) (hi : i < 0 ∨ (n : Int) ≤ i) : Calls Tryd.prog 22 #[.pointer (some ⟨s, 0, none⟩), .int .i64 i] w fun e w' => e = .returned (.int .i64 (-1)) ∧ Ext w w' := by
  have HN := Lib.hid (node_out h h72 i hi)
  clear h hi
  go_enter Tryd.func22, Tryd.ntmps22
  go_wp2_with fail
  refine HN.out.mono ?_
  rintro e w1 ⟨b, rfl, hb, x1⟩
  obtain ⟨c1, c3, c7, c8, c9, c10⟩ := none_cells hb
  have HX := Lib.hid x1
  clear hb x1
  go_wp2
  go_ret
  exact ⟨rfl, HX.out⟩
set_option maxRecDepth 100000 in
theorem name_out (h : SetG s m g n c w ns) (h72 : n ≤ 72) (i : Int) (hi : i < 0 ∨ (n : Int) ≤ i) : Calls Tryd.prog 20 #[.pointer (some ⟨s, 0, none⟩), .int .i64 i] w fun e w' => e = .returned (.string ⟨#[]⟩) ∧ Ext w w' := by
  have HN := Lib.hid (node_out h h72 i hi)
  have HC := Lib.hid (fun W => sclone_any ⟨#[]⟩ W (by decide))
  clear h hi
  go_enter Tryd.func20, Tryd.ntmps20
  go_wp2_with fail
  refine HN.out.mono ?_
  rintro e w1 ⟨b, rfl, hb, x1⟩
  obtain ⟨c1, c3, c7, c8, c9, c10⟩ := none_cells hb
  have HX := Lib.hid x1
  clear hb x1
  go_wp2_with fail
  refine (HC.out _).mono ?_
  rintro e w5 ⟨rfl, x5⟩
  go_wp2
  go_ret
  exact ⟨rfl, HX.out.trans x5⟩
end
end Go.Proofs.YtladeaofhdaloaaDoor
