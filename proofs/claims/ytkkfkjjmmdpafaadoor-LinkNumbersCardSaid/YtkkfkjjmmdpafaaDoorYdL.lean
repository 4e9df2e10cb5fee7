/- Several texts of this proof, one behind the other. -/
import Derived.Test.YtkkfkjjmmdpafaaDoorYdK
import Derived.Test.YtkkfkjjmmdpafaaDoorYdD
import Derived.Test.YtkkfkjjmmdpafaaDoorYdF
import Derived.Test.YtkkfkjjmmdpafaaDoorYdG
namespace Go.Proofs.YtkkfkjjmmdpafaaDoor
open Go.RowKit
set_option linter.unusedVariables false
theorem sortZ_snoc {γ : Type} (f : γ → γ → Bool) (l : List γ) (x : γ) : sortZ f (l ++ [x]) = insZ f x (sortZ f l) := by
  unfold sortZ
  rw [List.foldl_append]
  rfl
theorem insZ_none {γ : Type} {f : γ → γ → Bool} {x : γ} : ∀ {A : List γ}, (∀ y ∈ A, f x y = false) → insZ f x A = A ++ [x]
  | [], _ => rfl
  | y :: A, h => by
    unfold insZ
    rw [h y (List.mem_cons_self ..), insZ_none (fun z hz => h z (List.mem_cons_of_mem _ hz))]
    rfl
theorem insZ_here {γ : Type} {f : γ → γ → Bool} {x z : γ} (hz : f x z = true) : ∀ {A : List γ}, (∀ y ∈ A, f x y = false) → insZ f x (A ++ [z]) = A ++ [x] ++ [z]
  | [], _ => by
    unfold insZ
    simp [hz]
  | y :: A, h => by
    rw [List.cons_append]
    unfold insZ
    rw [h y (List.mem_cons_self ..), insZ_here hz (fun z hz => h z (List.mem_cons_of_mem _ hz))]
    rfl
theorem insZ_past {γ : Type} {f : γ → γ → Bool} {x : γ} (B : List γ) : ∀ {A : List γ}, (∃ y ∈ A, f x y = true) → insZ f x (A ++ B) = insZ f x A ++ B
  | [], h => by obtain ⟨y, hy, _⟩ := h; cases hy
  | y :: A, h => by
    rw [List.cons_append]
    unfold insZ
    cases hf : f x y
    · obtain ⟨z, hz, h1⟩ := h
      have : ∃ z ∈ A, f x z = true := by
        rcases List.mem_cons.1 hz with e | hz
        · rw [e, hf] at h1; cases h1
        · exact ⟨z, hz, h1⟩
      simp [insZ_past B this]
    · simp
def Ins (x : KlV) (O : List KlV) (k : Nat) (b : Bool) (X : List KlV) : Prop := (b = false ∧ X = O.take k ∧ ∀ y ∈ O.take k, cbK x y = false) ∨ (b = true ∧ X = insZ cbK x (O.take k) ∧ ∃ y ∈ O.take k, cbK x y = true)
theorem take_snoc {O : List KlV} {k : Nat} {y : KlV} (hy : O[k]? = some y) : O.take (k + 1) = O.take k ++ [y] := by
  rw [List.take_add_one, hy]; rfl
theorem Ins.miss {x y : KlV} {O X : List KlV} {k : Nat} (h : Ins x O k false X) (hy : O[k]? = some y) (hf : cbK x y = false) : Ins x O (k + 1) false (X ++ [y]) := by
  rcases h with ⟨-, h1, h2⟩ | ⟨h1, -⟩
  · left
    refine ⟨rfl, by rw [take_snoc hy, h1], fun z hz => ?_⟩
    rw [take_snoc hy] at hz
    rcases List.mem_append.1 hz with hz | hz
    · exact h2 z hz
    · rw [List.mem_singleton.1 hz]; exact hf
  · cases h1
theorem Ins.hit {x y : KlV} {O X : List KlV} {k : Nat} (h : Ins x O k false X) (hy : O[k]? = some y) (hf : cbK x y = true) : Ins x O (k + 1) true (X ++ [x] ++ [y]) := by
  rcases h with ⟨-, h1, h2⟩ | ⟨h1, -⟩
  · right
    rw [take_snoc hy]
    exact ⟨rfl, by rw [insZ_here hf h2, h1], ⟨y, by simp, hf⟩⟩
  · cases h1
theorem Ins.on {x y : KlV} {O X : List KlV} {k : Nat} (h : Ins x O k true X) (hy : O[k]? = some y) : Ins x O (k + 1) true (X ++ [y]) := by
  rcases h with ⟨h1, -⟩ | ⟨-, h1, h2⟩
  · cases h1
  · right
    rw [take_snoc hy]
    obtain ⟨z, hz, h3⟩ := h2
    exact ⟨rfl, by rw [insZ_past [y] ⟨z, hz, h3⟩, h1], ⟨z, List.mem_append.2 (.inl hz), h3⟩⟩
theorem Ins.endF {x : KlV} {O X : List KlV} (h : Ins x O O.length false X) : X ++ [x] = insZ cbK x O := by
  rcases h with ⟨-, h1, h2⟩ | ⟨h1, -⟩
  · rw [List.take_of_length_le (Nat.le_refl _)] at h1 h2
    rw [h1, insZ_none h2]
  · cases h1
theorem Ins.endT {x : KlV} {O X : List KlV} (h : Ins x O O.length true X) : X = insZ cbK x O := by
  rcases h with ⟨h1, -⟩ | ⟨-, h1, -⟩
  · cases h1
  · rw [List.take_of_length_le (Nat.le_refl _)] at h1
    exact h1
theorem rowKW_at {W0 w : World} {A : Option Addr} {n c : Nat} {L : List KlV} (h : (ShKW W0).Row w (.slice A n c) L) (hl : 0 < L.length) : ∃ b o, A = some ⟨b, o, none⟩ ∧ ∀ W, Ext w W → ∀ (k : Nat) (y : KlV), L[k]? = some y → AtK W b (o + k * 7) y ∧ NestK W0 y := by
  obtain ⟨b, o, hA, hat⟩ := h.at hl
  refine ⟨b, o, hA, fun W e k y hy => ?_⟩
  have hk := (List.getElem?_eq_some_iff.1 hy).1
  have h := hat W e k hk
  rw [show (ShKW W0).el L k = y by rw [(ShKW W0).el_get hk]; exact (List.getElem?_eq_some_iff.1 hy).2, show (ShKW W0).n = 7 from rfl] at h
  exact ⟨AtK.ofW h.1, h.2⟩
set_option maxRecDepth 100000 in
set_option maxHeartbeats 8000000 in
theorem rsorted_any {w : World} {v : Value} {l : List KlV} (h : ShK.Row w v l) (hl : l.length ≤ 64) : Calls Tryd.prog 44 #[v] w fun e w' => ∃ A c, e = .returned (.slice A l.length c) ∧ (ShKW w).Own w.heap.size w' (.slice A l.length c) (sortZ cbK l) ∧ Ext w w' := by
  obtain ⟨A, cp, rfl, hc, hm, -⟩ := h.cut
  have HR := Lib.hid h
  obtain ⟨n, hn⟩ : ∃ n, l.length = n := ⟨_, rfl⟩
  have HN := Lib.hid hn
  rw [hn] at hc HR hl ⊢
  unfold maxLen at hm
  obtain ⟨b0, hb0⟩ : ∃ b0, w.heap.size = b0 := ⟨_, rfl⟩
  have HB0 := Lib.hid hb0
  rw [hb0]
  clear h hn hb0
  go_enter Tryd.func44, Tryd.ntmps44
  go_wp2_with fail
  go_loopw [3, 4] (fun ov iv wr => ∃ (i : Nat) (O : List KlV) (A' : Option Addr) (c' : Nat), iv = .int .i64 i ∧ i ≤ n ∧ ov = .slice A' i c' ∧ Hid ((ShKW w).Own b0 wr (.slice A' i c') O) ∧ Hid (O = sortZ cbK (l.take i)) ∧ Hid (O.length = i) ∧ Hid (Ext w wr)) (fun _ iv _ => n - (intOf iv).toNat)
  case atStart => exact ⟨0, [], none, 0, rfl, by omega, rfl, Lib.hid (Shp.Own.nil _ _ _), Lib.hid rfl, Lib.hid rfl, Lib.hid (Ext.refl w)⟩
  case round =>
    obtain ⟨i, O, A', c', rfl, hin, rfl, HO, HS, HOL, HX⟩ := hrel
    rename World => wr
    by_cases hlt : i < n
    · have hltz : (i : Int) < (n : Int) := by omega
      have hil : i < l.length := by have := HN.out; omega
      obtain ⟨b, o, hA, hat⟩ := rowK_at HR.out (by have := HN.out; omega)
      subst hA
      obtain ⟨x, hx⟩ : ∃ x, l[i]? = some x := ⟨l[i], List.getElem?_eq_getElem hil⟩
      have HAX := Lib.hid (fun W (e : Ext w W) => (hat W e i x hx).1)
      have HNX : Hid (NestK w x) := Lib.hid (hat w (Ext.refl w) i x hx).2
      have HNXT : Hid (sortZ cbK (l.take (i + 1)) = insZ cbK x O) := Lib.hid (by rw [take_snoc hx, sortZ_snoc, HS.out])
      obtain ⟨bN, hbN⟩ : ∃ bN, wr.heap.size = bN := ⟨_, rfl⟩
      have HBN := Lib.hid hbN
      have HB0N : Hid (b0 ≤ bN) := Lib.hid (by have := HX.out.size; have := HB0.out; omega)
      clear hil hat hx hbN
      go_wp2_with fail
      go_loopw [5, 6, 7] (fun nv pv kv wq => ∃ (k : Nat) (b : Bool) (X : List KlV) (A2 : Option Addr) (nl c2 : Nat), kv = .int .i64 k ∧ k ≤ i ∧ pv = .bool b ∧ nv = .slice A2 nl c2 ∧ nl ≤ 66 ∧ Hid (nl ≤ k + 1) ∧ Hid ((ShKW w).Own bN wq (.slice A2 nl c2) X) ∧ Hid (X.length = nl) ∧ Hid (Ins x O k b X) ∧ Hid (Ext wr wq)) (fun _ _ kv _ => i - (intOf kv).toNat)
      case atStart => exact ⟨0, false, [], none, 0, 0, rfl, by omega, rfl, rfl, by omega, Lib.hid (by omega), Lib.hid (Shp.Own.nil _ _ _), Lib.hid rfl, Lib.hid (.inl ⟨rfl, rfl, fun y hy => by cases hy⟩), Lib.hid (Ext.refl _)⟩
      case round =>
        obtain ⟨k, pb, X, A2, nl, c2, rfl, hk, rfl, rfl, hnl, HNL, HOX, HXL, HIN, HXQ⟩ := hrel
        rename World => wq
        by_cases hlk : k < i
        · have hlkz : (k : Int) < (i : Int) := by omega
          have hkl : k < O.length := by have := HOL.out; omega
          obtain ⟨bo, oo, hA, hat⟩ := rowKW_at HO.out.row (by omega)
          subst hA
          obtain ⟨y, hy⟩ : ∃ y, O[k]? = some y := ⟨O[k], List.getElem?_eq_getElem hkl⟩
          have HAY := Lib.hid (fun W (e : Ext wr W) => (hat W e k y hy).1)
          have HNY : Hid (NestK w y) := Lib.hid (hat wr (Ext.refl wr) k y hy).2
          have HY := Lib.hid hy
          have HXW := Lib.hid (HX.out.trans HXQ.out)
          obtain ⟨nlk, hnlk⟩ : ∃ nlk, nl = nlk := ⟨_, rfl⟩
          have hnk : nl ≤ k + 1 := HNL.out
          have hnl2 : nl ≤ 65 := by omega
          clear hat hy hkl hnlk
          cases pb
          · have hcb : ∃ q, cbK x y = q := ⟨_, rfl⟩
            obtain ⟨q, hq⟩ := hcb
            have HCB := Lib.hid hq
            have a1 := (HAX.out wq HXW.out).2.1
            have d1 := (HAY.out wq HXQ.out).2.1
            have hless : Op.bytesLess x.k.nm.toList y.k.nm.toList = q := by rw [← hq]; rfl
            clear hq
            have HXD : Hid (∀ m, Ext wr (wq.drewN m)) := Lib.hid fun m => HXQ.out.drewN m
            have HOD : Hid (∀ m, (ShKW w).Own bN (wq.drewN m) (.slice A2 nl c2) X) := Lib.hid fun m => HOX.out.ext ((Ext.refl wq).drewN m)
            go_upto_region 10 with fail
            go_quiet (fail)
            obtain ⟨W, hW⟩ : ∃ W, wq.drewN nq = W := ⟨_, rfl⟩
            have XW : Hid (Ext wr W) := Lib.hid (by rw [← hW]; exact HXD.out nq)
            have OW : Hid ((ShKW w).Own bN W (.slice A2 nl c2) X) := Lib.hid (by rw [← hW]; exact HOD.out nq)
            rw [hW]
            clear hW a1 d1 hless HXD HOD
            cases q
            · have IN2 := Lib.hid (HIN.out.miss HY.out HCB.out)
              obtain ⟨m0, m1, m2, m3, m4, m5, m6⟩ := HAY.out W XW.out
              have R8 : Hid ((ShKW w).Row (W.alloc (.cells #[.slice y.vp.A y.vp.n y.vp.c, .string y.k.nm, .string y.k.sup, .bool y.k.inf, .slice y.vi.A y.vi.n y.vi.c, .slice y.vf.A y.vf.n y.vf.c, .slice y.vm.A y.vm.n y.vm.c] 36)) (.slice (some ⟨W.heap.size, 0, none⟩) 1 1) [y]) := Lib.hid (Shp.Row.single (S := ShKW w) (T := 36) (heap_alloc_new W _) HNY.out)
              have P8 := Lib.hid (OW.out.ext ((Ext.refl W).alloc (.cells #[.slice y.vp.A y.vp.n y.vp.c, .string y.k.nm, .string y.k.sup, .bool y.k.inf, .slice y.vi.A y.vi.n y.vi.c, .slice y.vf.A y.vf.n y.vf.c, .slice y.vm.A y.vm.n y.vm.c] 36)))
              have B8 : Hid (bN ≤ (W.alloc (.cells #[.slice y.vp.A y.vp.n y.vp.c, .string y.k.nm, .string y.k.sup, .bool y.k.inf, .slice y.vi.A y.vi.n y.vi.c, .slice y.vf.A y.vf.n y.vf.c, .slice y.vm.A y.vm.n y.vm.c] 36)).heap.size) := Lib.hid (by have := XW.out.size; have := HBN.out; simp; omega)
              have D8 : Hid (((X).length + [y].length) * 136 ≤ 140737488355328) := Lib.hid (by rw [HXL.out, List.length_singleton]; omega)
              go_wp2_with (at_builtin; go_loud (refine (ShKW w).wpList_app _ rfl _ _ bN 22 (.agg klv0.vals) 136 rfl Tryd.underlying22 infoK sizeK (by omega) _ (X) rfl P8.out _ [y] rfl R8.out (fun e he => by rw [List.mem_singleton.1 he]; exact HNY.out) D8.out B8.out ?_); go_loud (intro v8 w8 o8 g8 b8); go_loud (clear b8); go_loud (obtain ⟨A8, c8, e8, hc8, hm8⟩ := o8.slice); go_loud (rw [List.length_append, HXL.out, List.length_singleton] at e8 hc8); go_loud (subst e8); go_loud (have O8 := Lib.hid o8); go_loud (have X8 := Lib.hid ((XW.out.alloc (.cells #[.slice y.vp.A y.vp.n y.vp.c, .string y.k.nm, .string y.k.sup, .bool y.k.inf, .slice y.vi.A y.vi.n y.vi.c, .slice y.vf.A y.vf.n y.vf.c, .slice y.vm.A y.vm.n y.vm.c] 36)).grown g8 (fun g hg => by rw [HBN.out]; exact OW.out.low g hg))); go_loud (clear o8 g8))
              go_wp2_with fail
              go_roundw
              case rel => exact ⟨k + 1, false, X ++ [y], A8, nl + 1, c8, by go_num, by omega, rfl, rfl, by omega, Lib.hid (by omega), O8, Lib.hid (by rw [List.length_append, HXL.out]; rfl), IN2, X8⟩
              case measure => first | (simp [intOf]; omega) | simp [intOf]
            · have IN2 := Lib.hid (HIN.out.hit HY.out HCB.out)
              have HNE2 : Hid (nl + 1 + 1 ≤ k + 1 + 1) := Lib.hid (by
                rcases HIN.out with ⟨-, e, -⟩ | ⟨e, -⟩
                · have h := congrArg List.length e
                  rw [HXL.out, List.length_take, HOL.out] at h
                  omega
                · cases e)
              have HXL1 : Hid ((X ++ [x]).length = nl + 1) := Lib.hid (by rw [List.length_append, HXL.out]; rfl)
              obtain ⟨m0, m1, m2, m3, m4, m5, m6⟩ := HAX.out W (HX.out.trans XW.out)
              have R8 : Hid ((ShKW w).Row (W.alloc (.cells #[.slice x.vp.A x.vp.n x.vp.c, .string x.k.nm, .string x.k.sup, .bool x.k.inf, .slice x.vi.A x.vi.n x.vi.c, .slice x.vf.A x.vf.n x.vf.c, .slice x.vm.A x.vm.n x.vm.c] 36)) (.slice (some ⟨W.heap.size, 0, none⟩) 1 1) [x]) := Lib.hid (Shp.Row.single (S := ShKW w) (T := 36) (heap_alloc_new W _) HNX.out)
              have P8 := Lib.hid (OW.out.ext ((Ext.refl W).alloc (.cells #[.slice x.vp.A x.vp.n x.vp.c, .string x.k.nm, .string x.k.sup, .bool x.k.inf, .slice x.vi.A x.vi.n x.vi.c, .slice x.vf.A x.vf.n x.vf.c, .slice x.vm.A x.vm.n x.vm.c] 36)))
              have B8 : Hid (bN ≤ (W.alloc (.cells #[.slice x.vp.A x.vp.n x.vp.c, .string x.k.nm, .string x.k.sup, .bool x.k.inf, .slice x.vi.A x.vi.n x.vi.c, .slice x.vf.A x.vf.n x.vf.c, .slice x.vm.A x.vm.n x.vm.c] 36)).heap.size) := Lib.hid (by have := XW.out.size; have := HBN.out; simp; omega)
              have D8 : Hid (((X).length + [x].length) * 136 ≤ 140737488355328) := Lib.hid (by rw [HXL.out, List.length_singleton]; omega)
              go_wp2_with (first | (at_builtin; (refine (ShKW w).wpList_app _ rfl _ _ bN 22 (.agg klv0.vals) 136 rfl Tryd.underlying22 infoK sizeK (by omega) _ (X) rfl P8.out _ [x] rfl R8.out (fun e he => by rw [List.mem_singleton.1 he]; exact HNX.out) D8.out B8.out ?_); go_loud (intro v8 w8 o8 g8 b8); go_loud (clear b8); go_loud (obtain ⟨A8, c8, e8, hc8, hm8⟩ := o8.slice); go_loud (rw [List.length_append, HXL.out, List.length_singleton] at e8 hc8); go_loud (subst e8); go_loud (have O8 := Lib.hid o8); go_loud (have X8 := Lib.hid ((XW.out.alloc (.cells #[.slice x.vp.A x.vp.n x.vp.c, .string x.k.nm, .string x.k.sup, .bool x.k.inf, .slice x.vi.A x.vi.n x.vi.c, .slice x.vf.A x.vf.n x.vf.c, .slice x.vm.A x.vm.n x.vm.c] 36)).grown g8 (fun g hg => by rw [HBN.out]; exact OW.out.low g hg))); go_loud (clear o8 g8); go_loud (obtain ⟨m0, m1, m2, m3, m4, m5, m6⟩ := HAY.out w8 X8.out); go_loud (have R9 : Hid ((ShKW w).Row (w8.alloc (.cells #[.slice y.vp.A y.vp.n y.vp.c, .string y.k.nm, .string y.k.sup, .bool y.k.inf, .slice y.vi.A y.vi.n y.vi.c, .slice y.vf.A y.vf.n y.vf.c, .slice y.vm.A y.vm.n y.vm.c] 36)) (.slice (some ⟨w8.heap.size, 0, none⟩) 1 1) [y]) := Lib.hid (Shp.Row.single (S := ShKW w) (T := 36) (heap_alloc_new w8 _) HNY.out)); go_loud (have P9 := Lib.hid (O8.out.ext ((Ext.refl w8).alloc (.cells #[.slice y.vp.A y.vp.n y.vp.c, .string y.k.nm, .string y.k.sup, .bool y.k.inf, .slice y.vi.A y.vi.n y.vi.c, .slice y.vf.A y.vf.n y.vf.c, .slice y.vm.A y.vm.n y.vm.c] 36)))); go_loud (have B9 : Hid (bN ≤ (w8.alloc (.cells #[.slice y.vp.A y.vp.n y.vp.c, .string y.k.nm, .string y.k.sup, .bool y.k.inf, .slice y.vi.A y.vi.n y.vi.c, .slice y.vf.A y.vf.n y.vf.c, .slice y.vm.A y.vm.n y.vm.c] 36)).heap.size) := Lib.hid (by have := X8.out.size; have := HBN.out; simp; omega)); go_loud (have D9 : Hid (((X ++ [x]).length + [y].length) * 136 ≤ 140737488355328) := Lib.hid (by rw [HXL1.out, List.length_singleton]; omega))) | (at_builtin; go_loud (refine (ShKW w).wpList_app _ rfl _ _ bN 22 (.agg klv0.vals) 136 rfl Tryd.underlying22 infoK sizeK (by omega) _ (X ++ [x]) rfl P9.out _ [y] rfl R9.out (fun e he => by rw [List.mem_singleton.1 he]; exact HNY.out) D9.out B9.out ?_); go_loud (intro v9 w9 o9 g9 b9); go_loud (clear b9); go_loud (obtain ⟨A9, c9, e9, hc9, hm9⟩ := o9.slice); go_loud (rw [List.length_append, HXL1.out, List.length_singleton] at e9 hc9); go_loud (subst e9); go_loud (have O9 := Lib.hid o9); go_loud (have X9 := Lib.hid ((X8.out.alloc (.cells #[.slice y.vp.A y.vp.n y.vp.c, .string y.k.nm, .string y.k.sup, .bool y.k.inf, .slice y.vi.A y.vi.n y.vi.c, .slice y.vf.A y.vf.n y.vf.c, .slice y.vm.A y.vm.n y.vm.c] 36)).grown g9 (fun g hg => by rw [HBN.out]; exact O8.out.low g hg))); go_loud (clear o9 g9)))
              go_wp2_with fail
              go_roundw
              case rel => exact ⟨k + 1, true, X ++ [x] ++ [y], A9, nl + 1 + 1, c9, by go_num, by omega, rfl, rfl, by omega, HNE2, O9, Lib.hid (by rw [List.length_append, HXL1.out]; rfl), IN2, X9⟩
              case measure => first | (simp [intOf]; omega) | simp [intOf]
          · have IN2 := Lib.hid (HIN.out.on HY.out)
            have HXD : Hid (∀ m, Ext wr (wq.drewN m)) := Lib.hid fun m => HXQ.out.drewN m
            have HOD : Hid (∀ m, (ShKW w).Own bN (wq.drewN m) (.slice A2 nl c2) X) := Lib.hid fun m => HOX.out.ext ((Ext.refl wq).drewN m)
            go_upto_region 10 with fail
            go_quiet (fail)
            obtain ⟨W, hW⟩ : ∃ W, wq.drewN nq = W := ⟨_, rfl⟩
            have XW : Hid (Ext wr W) := Lib.hid (by rw [← hW]; exact HXD.out nq)
            have OW : Hid ((ShKW w).Own bN W (.slice A2 nl c2) X) := Lib.hid (by rw [← hW]; exact HOD.out nq)
            rw [hW]
            clear hW HXD HOD
            obtain ⟨m0, m1, m2, m3, m4, m5, m6⟩ := HAY.out W XW.out
            have R8 : Hid ((ShKW w).Row (W.alloc (.cells #[.slice y.vp.A y.vp.n y.vp.c, .string y.k.nm, .string y.k.sup, .bool y.k.inf, .slice y.vi.A y.vi.n y.vi.c, .slice y.vf.A y.vf.n y.vf.c, .slice y.vm.A y.vm.n y.vm.c] 36)) (.slice (some ⟨W.heap.size, 0, none⟩) 1 1) [y]) := Lib.hid (Shp.Row.single (S := ShKW w) (T := 36) (heap_alloc_new W _) HNY.out)
            have P8 := Lib.hid (OW.out.ext ((Ext.refl W).alloc (.cells #[.slice y.vp.A y.vp.n y.vp.c, .string y.k.nm, .string y.k.sup, .bool y.k.inf, .slice y.vi.A y.vi.n y.vi.c, .slice y.vf.A y.vf.n y.vf.c, .slice y.vm.A y.vm.n y.vm.c] 36)))
            have B8 : Hid (bN ≤ (W.alloc (.cells #[.slice y.vp.A y.vp.n y.vp.c, .string y.k.nm, .string y.k.sup, .bool y.k.inf, .slice y.vi.A y.vi.n y.vi.c, .slice y.vf.A y.vf.n y.vf.c, .slice y.vm.A y.vm.n y.vm.c] 36)).heap.size) := Lib.hid (by have := XW.out.size; have := HBN.out; simp; omega)
            have D8 : Hid (((X).length + [y].length) * 136 ≤ 140737488355328) := Lib.hid (by rw [HXL.out, List.length_singleton]; omega)
            go_wp2_with (at_builtin; go_loud (refine (ShKW w).wpList_app _ rfl _ _ bN 22 (.agg klv0.vals) 136 rfl Tryd.underlying22 infoK sizeK (by omega) _ (X) rfl P8.out _ [y] rfl R8.out (fun e he => by rw [List.mem_singleton.1 he]; exact HNY.out) D8.out B8.out ?_); go_loud (intro v8 w8 o8 g8 b8); go_loud (clear b8); go_loud (obtain ⟨A8, c8, e8, hc8, hm8⟩ := o8.slice); go_loud (rw [List.length_append, HXL.out, List.length_singleton] at e8 hc8); go_loud (subst e8); go_loud (have O8 := Lib.hid o8); go_loud (have X8 := Lib.hid ((XW.out.alloc (.cells #[.slice y.vp.A y.vp.n y.vp.c, .string y.k.nm, .string y.k.sup, .bool y.k.inf, .slice y.vi.A y.vi.n y.vi.c, .slice y.vf.A y.vf.n y.vf.c, .slice y.vm.A y.vm.n y.vm.c] 36)).grown g8 (fun g hg => by rw [HBN.out]; exact OW.out.low g hg))); go_loud (clear o8 g8))
            go_wp2_with fail
            go_roundw
            case rel => exact ⟨k + 1, true, X ++ [y], A8, nl + 1, c8, by go_num, by omega, rfl, rfl, by omega, Lib.hid (by omega), O8, Lib.hid (by rw [List.length_append, HXL.out]; rfl), IN2, X8⟩
            case measure => first | (simp [intOf]; omega) | simp [intOf]
        · have hlkz : ¬ (k : Int) < (i : Int) := by omega
          have hki : k = i := by omega
          subst hki
          have HIE : Hid (Ins x O O.length pb X) := Lib.hid (by rw [HOL.out]; exact HIN.out)
          have hnk : nl ≤ k + 1 := HNL.out
          have hnl2 : nl ≤ 65 := by omega
          cases pb
          · obtain ⟨m0, m1, m2, m3, m4, m5, m6⟩ := HAX.out wq (HX.out.trans HXQ.out)
            have HEQ : Hid (X ++ [x] = sortZ cbK (l.take (k + 1))) := Lib.hid (by rw [HNXT.out]; exact HIE.out.endF)
            have HNL2 : Hid (nl = k) := Lib.hid (by
              have h := congrArg List.length HEQ.out
              rw [(sortZ_perm cbK _).length_eq, List.length_append, HXL.out, List.length_take, HN.out] at h
              simp only [List.length_singleton] at h
              omega)
            have R8 : Hid ((ShKW w).Row (wq.alloc (.cells #[.slice x.vp.A x.vp.n x.vp.c, .string x.k.nm, .string x.k.sup, .bool x.k.inf, .slice x.vi.A x.vi.n x.vi.c, .slice x.vf.A x.vf.n x.vf.c, .slice x.vm.A x.vm.n x.vm.c] 36)) (.slice (some ⟨wq.heap.size, 0, none⟩) 1 1) [x]) := Lib.hid (Shp.Row.single (S := ShKW w) (T := 36) (heap_alloc_new wq _) HNX.out)
            have P8 := Lib.hid (HOX.out.ext ((Ext.refl wq).alloc (.cells #[.slice x.vp.A x.vp.n x.vp.c, .string x.k.nm, .string x.k.sup, .bool x.k.inf, .slice x.vi.A x.vi.n x.vi.c, .slice x.vf.A x.vf.n x.vf.c, .slice x.vm.A x.vm.n x.vm.c] 36)))
            have B8 : Hid (bN ≤ (wq.alloc (.cells #[.slice x.vp.A x.vp.n x.vp.c, .string x.k.nm, .string x.k.sup, .bool x.k.inf, .slice x.vi.A x.vi.n x.vi.c, .slice x.vf.A x.vf.n x.vf.c, .slice x.vm.A x.vm.n x.vm.c] 36)).heap.size) := Lib.hid (by have := HXQ.out.size; have := HBN.out; simp; omega)
            have D8 : Hid (((X).length + [x].length) * 136 ≤ 140737488355328) := Lib.hid (by rw [HXL.out, List.length_singleton]; omega)
            go_wp2_with (at_builtin; go_loud (refine (ShKW w).wpList_app _ rfl _ _ bN 22 (.agg klv0.vals) 136 rfl Tryd.underlying22 infoK sizeK (by omega) _ (X) rfl P8.out _ [x] rfl R8.out (fun e he => by rw [List.mem_singleton.1 he]; exact HNX.out) D8.out B8.out ?_); go_loud (intro v8 w8 o8 g8 b8); go_loud (clear b8); go_loud (obtain ⟨A8, c8, e8, hc8, hm8⟩ := o8.slice); go_loud (rw [List.length_append, HXL.out, List.length_singleton] at e8 hc8); go_loud (subst e8); go_loud (have O8 := Lib.hid o8); go_loud (have X8 := Lib.hid ((HXQ.out.alloc (.cells #[.slice x.vp.A x.vp.n x.vp.c, .string x.k.nm, .string x.k.sup, .bool x.k.inf, .slice x.vi.A x.vi.n x.vi.c, .slice x.vf.A x.vf.n x.vf.c, .slice x.vm.A x.vm.n x.vm.c] 36)).grown g8 (fun g hg => by rw [HBN.out]; exact HOX.out.low g hg))); go_loud (clear o8 g8))
            have hnl3 := HNL2.out
            subst hnl3
            go_wp2_with fail
            go_roundw
            case rel => exact ⟨nl + 1, X ++ [x], A8, c8, by go_num, by omega, rfl, Lib.hid (O8.out.base' HB0N.out), HEQ, Lib.hid (by rw [List.length_append, HXL.out]; rfl), Lib.hid (HX.out.trans X8.out)⟩
            case measure => first | (simp [intOf]; omega) | simp [intOf]
          · have HEQ : Hid (X = sortZ cbK (l.take (k + 1))) := Lib.hid (by rw [HNXT.out]; exact HIE.out.endT)
            have hnl3 : nl = k + 1 := by
              have h := congrArg List.length HEQ.out
              rw [(sortZ_perm cbK _).length_eq, HXL.out, List.length_take, HN.out] at h
              omega
            subst hnl3
            go_wp2_with fail
            go_roundw
            case rel => exact ⟨k + 1, X, A2, c2, by go_num, by omega, rfl, Lib.hid (HOX.out.base' HB0N.out), HEQ, HXL, Lib.hid (HX.out.trans HXQ.out)⟩
            case measure => first | (simp [intOf]; omega) | simp [intOf]
    · have hltz : ¬ (i : Int) < (n : Int) := by omega
      have hii : i = n := by omega
      subst hii
      have HFN : Hid ((ShKW w).Own b0 wr (.slice A' i c') (sortZ cbK l)) := Lib.hid (by
        have h := HO.out
        rw [HS.out, List.take_of_length_le (by rw [HN.out]; exact Nat.le_refl _)] at h
        exact h)
      go_wp2
      go_ret
      exact ⟨_, _, rfl, HFN.out, HX.out⟩
end Go.Proofs.YtkkfkjjmmdpafaaDoor
namespace Go.Proofs.YtkkfkjjmmdpafaaDoor
open Go.RowKit
set_option linter.unusedVariables false

structure RfG (s g n c : Nat) (r : List Kl) (L : List KlV) (w : World) : Prop where
  c0 : w.cell? ⟨s, 0, none⟩ = some (.slice (some ⟨g, 0, none⟩) n c)
  sl : s < w.heap.size
  row : ShK.Row w (.slice (some ⟨g, 0, none⟩) n c) L
  kl : L.map (·.k) = builtR ++ r
  n72 : n ≤ 72
  szs : ∀ x ∈ L, KOk x.k
section
variable {s g n c : Nat} {r : List Kl} {L : List KlV} {w w' : World}
theorem RfG.ext (h : RfG s g n c r L w) (e : Ext w w') : RfG s g n c r L w' := ⟨(e.cell (p := ⟨s, 0, none⟩) h.sl).trans h.c0, Nat.lt_of_lt_of_le h.sl e.size, h.row.ext e, h.kl, h.n72, h.szs⟩
theorem RfG.len (h : RfG s g n c r L w) : L.length = n := by
  obtain ⟨A, c', e1, -⟩ := h.row.cut
  injection e1 with _ e2 _
  exact e2.symm
theorem RfG.lenN (h : RfG s g n c r L w) : (builtZ ++ r).length = n := by rw [← lenR, ← h.kl, List.length_map, h.len]
theorem RfG.cap (h : RfG s g n c r L w) : n ≤ c := by
  obtain ⟨A, c', e1, h2, -⟩ := h.row.cut
  injection e1 with _ e2 e3
  omega
theorem RfG.at (h : RfG s g n c r L w) (i : Nat) (hi : i < n) : ∃ x, L[i]? = some x ∧ x.k = gk (builtR ++ r) i ∧ ∀ W, Ext w W → AtK W g (i * 7) x ∧ NestK W x := by
  have hil : i < L.length := by rw [h.len]; exact hi
  obtain ⟨b, o, hA, hat⟩ := rowK_at h.row (by omega)
  injection hA with hA
  injection hA with h1 h2
  subst h1 h2
  refine ⟨L[i], List.getElem?_eq_getElem hil, ?_, fun W e => ?_⟩
  · rw [← h.kl, gk_map (List.getElem?_eq_getElem hil)]
  · have := hat W e i _ (List.getElem?_eq_getElem hil)
    rwa [Nat.zero_add] at this
theorem RfG.find (h : RfG s g n c r L w) (nm : ByteArray) : Calls Tryd.prog 45 #[.slice (some ⟨g, 0, none⟩) n c, .string nm] w fun e w' => e = .returned (.int .i64 (findZ (builtZ ++ r) nm)) ∧ w' = w := by
  have := rfind_any h.row (by have := h.n72; rw [h.len]; omega) nm
  rw [h.kl, findR] at this
  exact this
def upsR (r : List Kl) (i : Nat) : List Int := (if 0 < i then [supI (builtZ ++ r) i] else []) ++ ifsI (builtZ ++ r) i
theorem wf_find {N : List Kl} (h : N.length ≤ 72) (nm : ByteArray) : (Lit.int .i64 (findZ N nm)).wf = true := by
  have := findZ_b h nm
  simp [Lit.wf, IntKind.min, IntKind.max, IntKind.signed, IntKind.bits]; omega
def UpsEnd (w : World) (r : List Kl) (i : Nat) : Ending → World → Prop := fun e w' => ∃ v', e = .returned v' ∧ Own w.heap.size w' 3 .i64 v' (upsR r i) ∧ Ext w w'
set_option maxRecDepth 100000 in
set_option maxHeartbeats 4000000 in
theorem rups_any (h : RfG s g n c r L w) (i : Nat) (hi : i < n) : Calls Tryd.prog 74 #[.pointer (some ⟨s, 0, none⟩), .int .i64 i] w (UpsEnd w r i) := by
  obtain ⟨x, hx, hxk, hat⟩ := h.at i hi
  have hn72 := h.n72
  have hin : (i : Int) < (n : Int) := by omega
  have hi0 : ¬ (i : Int) < 0 := by omega
  have hNl : (builtZ ++ r).length ≤ 72 := by rw [h.lenN]; exact hn72
  have hk := h.szs x (List.mem_of_getElem? hx)
  have hifs : ifsI (builtZ ++ r) i = x.k.ifs.map (findZ (builtZ ++ r)) := by unfold ifsI; rw [hxk, ifsR]
  have hsup : 0 < i → findZ (builtZ ++ r) x.k.sup = supI (builtZ ++ r) i := fun h0 => by rw [hxk]; exact supR r i h0
  obtain ⟨q, hq⟩ : ∃ q, x.k.ifs.length = q := ⟨_, rfl⟩
  have hvn : x.vi.n = q := by
    obtain ⟨A9, c9, e9, -⟩ := (hat w (Ext.refl w)).2.cut
    injection e9 with _ e9 _
    rw [← hq]; exact e9
  have hqb : q * 16 ≤ 140737488351232 := by rw [← hq]; exact hk.len
  have HAT : Hid (∀ W, Ext w W → W.cell? ⟨s, 0, none⟩ = some (.slice (some ⟨g, 0, none⟩) n c) ∧ W.cell? ⟨g, i * 7 + 2, none⟩ = some (.string x.k.sup) ∧ W.cell? ⟨g, i * 7 + 4, none⟩ = some (.slice x.vi.A q x.vi.c)) := Lib.hid fun W e => by
    obtain ⟨h0, -, h2, -, h4, -⟩ := (hat W e).1
    exact ⟨(h.ext e).c0, h2, by rw [h4, hvn]⟩
  have HNE : Hid (∀ W, Ext w W → ShS.Row W (.slice x.vi.A q x.vi.c) x.k.ifs) := Lib.hid fun W e => by
    have := (hat W e).2
    unfold NestK Sl.v at this
    rw [hvn] at this
    exact this
  have HFD := Lib.hid (fun nm W (e : Ext w W) => (h.ext e).find nm)
  have HWF := Lib.hid (fun nm => wf_find hNl nm)
  have HQ := Lib.hid hq
  have HIF := Lib.hid hifs
  have HSP := Lib.hid hsup
  obtain ⟨iA, hiA⟩ : ∃ iA, x.vi.A = iA := ⟨_, rfl⟩
  obtain ⟨ic, hic⟩ : ∃ ic, x.vi.c = ic := ⟨_, rfl⟩
  rw [hiA, hic] at HAT HNE
  clear h hx hxk hat hk hifs hsup hq hvn hiA hic hNl
  by_cases h0 : 0 < i
  · have hpos : (0 : Int) < (i : Int) := by omega
    have hfs := HSP.out h0
    obtain ⟨su, hsu⟩ : ∃ su, supI (builtZ ++ r) i = su := ⟨_, rfl⟩
    have hwf := HWF.out x.k.sup
    rw [hfs, hsu] at hwf
    have hfd := HFD.out x.k.sup
    rw [hfs, hsu] at hfd
    have HF1 := Lib.hid hfd
    have HU : Hid (upsR r i = [su] ++ (x.k.ifs.map (findZ (builtZ ++ r)))) := Lib.hid (by unfold upsR; rw [if_pos h0, hsu, HIF.out])
    have e1 := (Ext.refl w).drew
    have e2 := (Ext.refl w).alloc (.cells #[.int .i64 su] 3)
    obtain ⟨a0, a2, a4⟩ := HAT.out w.drew e1
    obtain ⟨d0, d2, d4⟩ := HAT.out _ e2
    have HRF : Hid (Row (w.alloc (.cells #[.int .i64 su] 3)).drew .i64 (.slice (some ⟨w.heap.size, 0, none⟩) 1 1) [su]) := Lib.hid ((own_built1 (B := 0) w 3 .i64 su hwf (Nat.zero_le _)).ext (Ext.refl _).drew).row
    have HWS : Hid (w.heap.size ≤ (w.alloc (.cells #[.int .i64 su] 3)).drew.heap.size) := Lib.hid e2.drew.size
    clear hfs hsu hwf hfd
    go_enter Tryd.func74, Tryd.ntmps74
    go_wp2_with fail
    go_region_law (first
      | ((refine step_callL rfl 45 _ _ rfl #[.slice (some ⟨g, 0, none⟩) n c, .string x.k.sup] (by simp [go_sem]) (by simp [go_sem]) ?_); ((with_reducible refine (HF1.out _ (by assumption)).mono ?_); rintro e y1 ⟨rfl, rfl⟩); refine ⟨_, rfl, ?_⟩)
      | ((refine step_appI rfl _ _ w.heap.size 48 3 _ 8 .i64 rfl Tryd.underlying48 infoI rfl (by omega) (.slice none 0 0) [] rfl (Own.nil _ _ _ _) (.slice (some ⟨w.heap.size, 0, none⟩) 1 1) [su] rfl HRF.out (by simp) HWS.out ?_); intro v4 w4 o4 g4 b4; obtain ⟨A4, c4, e4, hc4, hm4, -⟩ := id o4.row; simp only [List.nil_append, List.length_singleton] at e4 o4; subst e4; have O4 := Lib.hid o4; have X4 := Lib.hid (e2.drew.grown g4 (fun g h => by cases h)); clear o4 g4 b4)
      | fail)
    all_goals
      go_wp2_with fail
      go_loopw [5, 6] (fun ov iv wr => ∃ (k : Nat) (A' : Option Addr) (c' : Nat), iv = .int .i64 k ∧ k ≤ q ∧ ov = .slice A' (k + 1) c' ∧ Hid (Own w.heap.size wr 3 .i64 (.slice A' (k + 1) c') ([su] ++ (x.k.ifs.map (findZ (builtZ ++ r))).take k)) ∧ Hid (Ext w wr)) (fun _ iv _ => q - (intOf iv).toNat)
      case atStart => exact ⟨0, A4, c4, rfl, by omega, by first | rfl | (simp), Lib.hid (by simpa using O4.out), X4⟩
      case round =>
        obtain ⟨k, A', c', rfl, hkq, rfl, HO, HX⟩ := hrel
        rename World => wr
        by_cases hlt : k < q
        · have hltz : (k : Int) < (q : Int) := by omega
          have hkl : k < x.k.ifs.length := by have := HQ.out; omega
          obtain ⟨bs, os, hA, hat⟩ := rowS_at (HNE.out w (Ext.refl w)) (by have := HQ.out; omega)
          subst hA
          obtain ⟨y, hy⟩ : ∃ y, x.k.ifs[k]? = some y := ⟨x.k.ifs[k], List.getElem?_eq_getElem hkl⟩
          have hgs : gs x.k.ifs k = y := by unfold gs; rw [ShS.el_get hkl]; exact (List.getElem?_eq_some_iff.1 hy).2
          have HTK : Hid ([su] ++ (x.k.ifs.map (findZ (builtZ ++ r))).take (k + 1) = ([su] ++ (x.k.ifs.map (findZ (builtZ ++ r))).take k) ++ [findZ (builtZ ++ r) y]) := Lib.hid (by
            have : (x.k.ifs.map (findZ (builtZ ++ r)))[k]? = some (findZ (builtZ ++ r) y) := by rw [List.getElem?_map, hy]; rfl
            rw [List.take_add_one, this]; simp)
          have hwf := HWF.out y
          have hfd := HFD.out y
          obtain ⟨f, hf⟩ : ∃ f, findZ (builtZ ++ r) y = f := ⟨_, rfl⟩
          rw [hf] at HTK hwf hfd
          have HF2 := Lib.hid hfd
          have e1 := (Ext.refl wr).drew
          have e2 := (Ext.refl wr).alloc (.cells #[.int .i64 f] 3)
          have HE1 := HX.out.trans e1
          obtain ⟨r0, -, r4⟩ := HAT.out wr HX.out
          obtain ⟨a0, -, a4⟩ := HAT.out wr.drew (HX.out.trans e1)
          obtain ⟨d0, -, d4⟩ := HAT.out _ (HX.out.trans e2)
          have a5 := hat wr.drew (HX.out.trans e1) k hkl
          have d5 := hat _ (HX.out.trans e2) k hkl
          rw [hgs] at a5 d5
          have HLEN : Hid (([su] ++ (x.k.ifs.map (findZ (builtZ ++ r))).take k).length = (k + 1)) := Lib.hid (by simp only [List.length_append, List.length_take, List.length_map, List.length_singleton, HQ.out]; omega)
          have HRF : Hid (Row (wr.alloc (.cells #[.int .i64 f] 3)).drew .i64 (.slice (some ⟨wr.heap.size, 0, none⟩) 1 1) [f]) := Lib.hid ((own_built1 (B := 0) wr 3 .i64 f hwf (Nat.zero_le _)).ext (Ext.refl _).drew).row
          have HO2 := Lib.hid (HO.out.ext e2.drew)
          have HWS : Hid (w.heap.size ≤ (wr.alloc (.cells #[.int .i64 f] 3)).drew.heap.size) := Lib.hid (HX.out.trans e2.drew).size
          have HBD : Hid ((([su] ++ (x.k.ifs.map (findZ (builtZ ++ r))).take k).length + [f].length) * 8 ≤ 140737488355328) := Lib.hid (by rw [HLEN.out, List.length_singleton]; omega)
          clear hkl hat hy hgs hwf hfd hf
          go_wp2_with fail
          go_region_law (first
            | ((refine step_callL rfl 45 _ _ rfl #[.slice (some ⟨g, 0, none⟩) n c, .string y] (by simp [go_sem]) (by simp [go_sem]) ?_); ((with_reducible refine (HF2.out _ HE1).mono ?_); rintro e y1 ⟨rfl, rfl⟩); refine ⟨_, rfl, ?_⟩)
            | ((refine step_appI rfl _ _ w.heap.size 48 3 _ 8 .i64 rfl Tryd.underlying48 infoI rfl (by omega) (.slice A' (k + 1) c') ([su] ++ (x.k.ifs.map (findZ (builtZ ++ r))).take k) rfl HO2.out (.slice (some ⟨wr.heap.size, 0, none⟩) 1 1) [f] rfl HRF.out HBD.out HWS.out ?_); intro v5 w5 o5 g5 b5; obtain ⟨A5, c5, e5, hc5, hm5, -⟩ := id o5.row; rw [List.length_append, HLEN.out, List.length_singleton] at e5; rw [← HTK.out] at o5; subst e5; have O5 := Lib.hid o5; have X5 := Lib.hid ((HX.out.trans e2.drew).grown g5 HO2.out.low); clear o5 g5 b5)
            | fail)
          all_goals
            go_wp2_with fail
            go_roundw
            case rel => exact ⟨k + 1, A5, c5, by go_num, by omega, rfl, O5, X5⟩
            case measure => first | (simp [intOf]; omega) | simp [intOf]
        · have hltz : ¬ (k : Int) < (q : Int) := by omega
          have hkk : k = q := by omega
          subst hkk
          obtain ⟨r0, -, r4⟩ := HAT.out wr HX.out
          have HFN : Hid (Own w.heap.size wr 3 .i64 (.slice A' (k + 1) c') (upsR r i)) := Lib.hid (by
            have h := HO.out
            rw [List.take_of_length_le (by rw [List.length_map, HQ.out]; exact Nat.le_refl _)] at h
            rw [HU.out]; exact h)
          go_wp2
          go_ret
          exact ⟨_, rfl, HFN.out, HX.out⟩
  · have hpos : ¬ (0 : Int) < (i : Int) := by omega
    have HU : Hid (upsR r i = x.k.ifs.map (findZ (builtZ ++ r))) := Lib.hid (by unfold upsR; rw [if_neg h0, HIF.out]; rfl)
    go_enter Tryd.func74, Tryd.ntmps74
    go_wp2_with fail
    go_loopw [5, 6] (fun ov iv wr => ∃ (k : Nat) (A' : Option Addr) (c' : Nat), iv = .int .i64 k ∧ k ≤ q ∧ ov = .slice A' k c' ∧ Hid (Own w.heap.size wr 3 .i64 (.slice A' k c') ((x.k.ifs.map (findZ (builtZ ++ r))).take k)) ∧ Hid (Ext w wr)) (fun _ iv _ => q - (intOf iv).toNat)
    case atStart => exact ⟨0, none, 0, rfl, by omega, by first | rfl | (simp), Lib.hid (by simpa using Own.nil _ _ _ _), Lib.hid (Ext.refl w)⟩
    case round =>
      obtain ⟨k, A', c', rfl, hkq, rfl, HO, HX⟩ := hrel
      rename World => wr
      by_cases hlt : k < q
      · have hltz : (k : Int) < (q : Int) := by omega
        have hkl : k < x.k.ifs.length := by have := HQ.out; omega
        obtain ⟨bs, os, hA, hat⟩ := rowS_at (HNE.out w (Ext.refl w)) (by have := HQ.out; omega)
        subst hA
        obtain ⟨y, hy⟩ : ∃ y, x.k.ifs[k]? = some y := ⟨x.k.ifs[k], List.getElem?_eq_getElem hkl⟩
        have hgs : gs x.k.ifs k = y := by unfold gs; rw [ShS.el_get hkl]; exact (List.getElem?_eq_some_iff.1 hy).2
        have HTK : Hid ((x.k.ifs.map (findZ (builtZ ++ r))).take (k + 1) = ((x.k.ifs.map (findZ (builtZ ++ r))).take k) ++ [findZ (builtZ ++ r) y]) := Lib.hid (by
          have : (x.k.ifs.map (findZ (builtZ ++ r)))[k]? = some (findZ (builtZ ++ r) y) := by rw [List.getElem?_map, hy]; rfl
          rw [List.take_add_one, this]; simp)
        have hwf := HWF.out y
        have hfd := HFD.out y
        obtain ⟨f, hf⟩ : ∃ f, findZ (builtZ ++ r) y = f := ⟨_, rfl⟩
        rw [hf] at HTK hwf hfd
        have HF2 := Lib.hid hfd
        have e1 := (Ext.refl wr).drew
        have e2 := (Ext.refl wr).alloc (.cells #[.int .i64 f] 3)
        have HE1 := HX.out.trans e1
        obtain ⟨r0, -, r4⟩ := HAT.out wr HX.out
        obtain ⟨a0, -, a4⟩ := HAT.out wr.drew (HX.out.trans e1)
        obtain ⟨d0, -, d4⟩ := HAT.out _ (HX.out.trans e2)
        have a5 := hat wr.drew (HX.out.trans e1) k hkl
        have d5 := hat _ (HX.out.trans e2) k hkl
        rw [hgs] at a5 d5
        have HLEN : Hid (((x.k.ifs.map (findZ (builtZ ++ r))).take k).length = k) := Lib.hid (by simp only [List.length_take, List.length_map, HQ.out]; omega)
        have HRF : Hid (Row (wr.alloc (.cells #[.int .i64 f] 3)).drew .i64 (.slice (some ⟨wr.heap.size, 0, none⟩) 1 1) [f]) := Lib.hid ((own_built1 (B := 0) wr 3 .i64 f hwf (Nat.zero_le _)).ext (Ext.refl _).drew).row
        have HO2 := Lib.hid (HO.out.ext e2.drew)
        have HWS : Hid (w.heap.size ≤ (wr.alloc (.cells #[.int .i64 f] 3)).drew.heap.size) := Lib.hid (HX.out.trans e2.drew).size
        have HBD : Hid ((((x.k.ifs.map (findZ (builtZ ++ r))).take k).length + [f].length) * 8 ≤ 140737488355328) := Lib.hid (by rw [HLEN.out, List.length_singleton]; omega)
        clear hkl hat hy hgs hwf hfd hf
        go_wp2_with fail
        go_region_law (first
          | ((refine step_callL rfl 45 _ _ rfl #[.slice (some ⟨g, 0, none⟩) n c, .string y] (by simp [go_sem]) (by simp [go_sem]) ?_); ((with_reducible refine (HF2.out _ HE1).mono ?_); rintro e y1 ⟨rfl, rfl⟩); refine ⟨_, rfl, ?_⟩)
          | ((refine step_appI rfl _ _ w.heap.size 48 3 _ 8 .i64 rfl Tryd.underlying48 infoI rfl (by omega) (.slice A' k c') ((x.k.ifs.map (findZ (builtZ ++ r))).take k) rfl HO2.out (.slice (some ⟨wr.heap.size, 0, none⟩) 1 1) [f] rfl HRF.out HBD.out HWS.out ?_); intro v5 w5 o5 g5 b5; obtain ⟨A5, c5, e5, hc5, hm5, -⟩ := id o5.row; rw [List.length_append, HLEN.out, List.length_singleton] at e5; rw [← HTK.out] at o5; subst e5; have O5 := Lib.hid o5; have X5 := Lib.hid ((HX.out.trans e2.drew).grown g5 HO2.out.low); clear o5 g5 b5)
          | fail)
        all_goals
          go_wp2_with fail
          go_roundw
          case rel => exact ⟨k + 1, A5, c5, by go_num, by omega, rfl, O5, X5⟩
          case measure => first | (simp [intOf]; omega) | simp [intOf]
      · have hltz : ¬ (k : Int) < (q : Int) := by omega
        have hkk : k = q := by omega
        subst hkk
        obtain ⟨r0, -, r4⟩ := HAT.out wr HX.out
        have HFN : Hid (Own w.heap.size wr 3 .i64 (.slice A' k c') (upsR r i)) := Lib.hid (by
          have h := HO.out
          rw [List.take_of_length_le (by rw [List.length_map, HQ.out]; exact Nat.le_refl _)] at h
          rw [HU.out]; exact h)
        go_wp2
        go_ret
        exact ⟨_, rfl, HFN.out, HX.out⟩
end
end Go.Proofs.YtkkfkjjmmdpafaaDoor
namespace Go.Proofs.YtkkfkjjmmdpafaaDoor
open Go.RowKit
set_option linter.unusedVariables false
theorem upsR_facts {r : List Kl} (h2 : ∀ i, 8 ≤ i → i < (builtZ ++ r).length → flt2 (builtZ ++ r) i = none) (i : Nat) (hi : i < (builtZ ++ r).length) : (0 < i → 0 ≤ supI (builtZ ++ r) i) ∧ ∀ u ∈ ifsI (builtZ ++ r) i, 0 ≤ u := by
  rcases Nat.lt_or_ge i 8 with h8 | h8
  · refine ⟨fun h0 => ?_, fun u hu => ?_⟩
    · rw [sup_built r i h8, if_neg (by omega)]
      split <;> omega
    · rw [(ifs_built r i h8).1] at hu
      cases hu
  · have h := flt2_some (h2 i h8 hi)
    refine ⟨fun _ => by rw [supI_own h8]; exact h.1, fun u hu => ?_⟩
    obtain ⟨y, hy, rfl⟩ := List.mem_map.1 hu
    exact h.2 y hy
theorem upsR_gr {r : List Kl} (h2 : ∀ i, 8 ≤ i → i < (builtZ ++ r).length → flt2 (builtZ ++ r) i = none) (i : Nat) (hi : i < (builtZ ++ r).length) : upsR r i = ints ((grK (builtZ ++ r)).ups i) := by
  obtain ⟨h1, h3⟩ := upsR_facts h2 i hi
  have e1 : (grK (builtZ ++ r)).ups i = (supN (builtZ ++ r) i).toList ++ (ifsI (builtZ ++ r) i).map Int.toNat := rfl
  have e2 : ints ((ifsI (builtZ ++ r) i).map Int.toNat) = ifsI (builtZ ++ r) i := ints_back h3
  unfold upsR
  rw [e1]
  unfold ints at e2 ⊢
  rw [List.map_append, e2]
  congr 1
  unfold supN
  by_cases h0 : 0 < i
  · have h4 := h1 h0
    rw [if_pos h0, if_neg (by omega)]
    simp
    omega
  · have e0 : i = 0 := by omega
    subst e0
    rw [if_neg (by omega), sup_built r 0 (by omega)]
    simp
theorem ups_lt {r : List Kl} (h2 : ∀ i, 8 ≤ i → i < (builtZ ++ r).length → flt2 (builtZ ++ r) i = none) (i : Nat) (hi : i < (builtZ ++ r).length) : ∀ u ∈ (grK (builtZ ++ r)).ups i, u < (builtZ ++ r).length := by
  intro u hu
  have h8 : 8 ≤ (builtZ ++ r).length := by simp [builtZ]
  have e1 : (grK (builtZ ++ r)).ups i = (supN (builtZ ++ r) i).toList ++ (ifsI (builtZ ++ r) i).map Int.toNat := rfl
  rw [e1] at hu
  rcases List.mem_append.1 hu with hu | hu
  · unfold supN at hu
    split at hu
    · cases hu
    · have hu : u = (supI (builtZ ++ r) i).toNat := by simpa using hu
      have := supI_lt h8 i
      omega
  · obtain ⟨v, hv, rfl⟩ := List.mem_map.1 hu
    obtain ⟨y, hy, rfl⟩ := List.mem_map.1 hv
    have := findZ_lt (builtZ ++ r) y
    omega
theorem roundF_step {ups : Nat → List Nat} {M : List Bool} {k n : Nat} (hk : k < n) : roundF ups M (List.range' k (n - k)) = roundF ups (if gbl M k then markL M (ups k) else M) (List.range' (k + 1) (n - (k + 1))) := by
  rw [show n - k = (n - (k + 1)) + 1 by omega, List.range'_succ]
  rfl
set_option maxRecDepth 100000 in
set_option maxHeartbeats 4000000 in
theorem rring_any {s g n c : Nat} {r : List Kl} {L : List KlV} {w : World} (h : RfG s g n c r L w) (h2 : ∀ i, 8 ≤ i → i < (builtZ ++ r).length → flt2 (builtZ ++ r) i = none) (i : Nat) (hi : i < n) : Calls Tryd.prog 46 #[.pointer (some ⟨s, 0, none⟩), .int .i64 i] w fun e w' => e = .returned (.bool (ringF (grK (builtZ ++ r)).ups n i)) ∧ Ext w w' := by
  have hNn := h.lenN
  have c0 := h.c0
  have hcap := h.cap
  have hn72 := h.n72
  have hU : ∀ k, k < n → ∀ W, Ext w W → Calls Tryd.prog 74 #[.pointer (some ⟨s, 0, none⟩), .int .i64 k] W fun e w' => ∃ A q c, e = .returned (.slice A q c) ∧ q ≤ 9223372036854775807 ∧ ((grK (builtZ ++ r)).ups k).length = q ∧ Row w' .i64 (.slice A q c) (ints ((grK (builtZ ++ r)).ups k)) ∧ (∀ g, (Value.slice A q c).ownBlock = some g → W.heap.size ≤ g) ∧ Ext W w' := fun k hk W e => by
    refine (rups_any (h.ext e) k hk).mono ?_
    rintro e w' ⟨v', rfl, ho, x⟩
    rw [upsR_gr h2 k (by rw [hNn]; exact hk)] at ho
    obtain ⟨A, c, e1, hc1, hc2, -⟩ := id ho.row
    subst e1
    unfold maxLen at hc2
    exact ⟨A, _, c, rfl, by omega, (ints_len _).symm, ho.row, ho.low, x⟩
  have hB : ∀ k, k < n → ∀ u ∈ (grK (builtZ ++ r)).ups k, u < n := fun k hk u hu => by
    have := ups_lt h2 k (by rw [hNn]; exact hk) u hu
    rwa [hNn] at this
  obtain ⟨ups, hups⟩ : ∃ ups, (grK (builtZ ++ r)).ups = ups := ⟨_, rfl⟩
  rw [hups] at hU hB ⊢
  have HU := Lib.hid hU
  have HB := Lib.hid hB
  have HC0 := Lib.hid (fun W (e : Ext w W) => (h.ext e).c0)
  obtain ⟨FIN, hFIN⟩ : ∃ FIN, roundsF ups n n (markL (List.replicate n false) (ups i)) = FIN := ⟨_, rfl⟩
  have HFIN := Lib.hid hFIN
  have hring : ringF ups n i = gbl FIN i := by unfold ringF; rw [hFIN]
  rw [hring]
  obtain ⟨b0, hb0⟩ : ∃ b0, w.heap.size = b0 := ⟨_, rfl⟩
  have HB0 := Lib.hid hb0
  have hin : (i : Int) < (n : Int) := by omega
  have hi0 : ¬ (i : Int) < 0 := by omega
  clear h h2 hU hB hNn hups hFIN hring hb0
  go_enter Tryd.func46, Tryd.ntmps46
  go_wp2_with (at_make; refine ShB.wpList_make _ rfl _ _ w.heap.size 95 _ 1 rfl Tryd.underlying95 infoB rfl (fun _ => trivial) _ _ _ _ n rfl rfl rfl rfl (by omega) (by decide) (Nat.le_refl _) ?_; intro w1 ho1 hg1)
  rw [HB0.out] at ho1 ⊢
  have HO1 := Lib.hid ho1
  have HX1 := Lib.hid ((Ext.refl w).grown hg1 (fun g h => by cases h))
  have HW1 : Hid (b0 < w1.heap.size) := Lib.hid (Shp.Own.high ho1 _ rfl)
  clear ho1 hg1 c0
  go_wp2_with fail
  refine (HU.out i hi w1 HX1.out).mono ?_
  rintro e w2 ⟨A2, q, c2, rfl, hqm, hq, hr, hlow, x2⟩
  obtain ⟨X, hX⟩ : ∃ X, ups i = X := ⟨_, rfl⟩
  have HRXX : Hid (Row w2 .i64 (.slice A2 q c2) (ints X)) := Lib.hid (by rw [← hX]; exact hr)
  have HXLX : Hid (X.length = q) := Lib.hid (by rw [← hX]; exact hq)
  have HXBX : Hid (∀ u ∈ X, u < n) := Lib.hid (by rw [← hX]; exact HB.out i hi)
  have HNEX : Hid (∀ g, (Value.slice A2 q c2).ownBlock = some g → some b0 ≠ some g) := Lib.hid fun g hg e => by
    injection e with e
    have := hlow g hg
    have := HW1.out
    omega
  have HX2 := Lib.hid (HX1.out.trans x2)
  have HO2 := Lib.hid (HO1.out.ext x2)
  obtain ⟨M1, hM1⟩ : ∃ M1, markL (List.replicate n false) X = M1 := ⟨_, rfl⟩
  have HM1 : Hid (roundsF ups n n M1 = FIN) := Lib.hid (by rw [← hM1, ← hX]; exact HFIN.out)
  have HMM := Lib.hid hM1
  clear hq hr hlow x2 hX hM1 HO1 HFIN
  go_wp2_with fail
  go_loopw [7] (fun kv wr => ∃ (k : Nat) (M : List Bool), kv = .int .i64 k ∧ k ≤ q ∧ Hid (ShB.Own b0 wr (.slice (some ⟨b0, 0, none⟩) n n) M) ∧ Hid (M.length = n) ∧ Hid (markL M (X.drop k) = M1) ∧ Hid (w2.grownBy wr (some b0)) ∧ Hid (Ext w wr)) (fun kv _ => q - (intOf kv).toNat)
  case atStart => exact ⟨0, List.replicate n false, rfl, by omega, HO2, Lib.hid (by simp), HMM, Lib.hid (World.grownBy.refl _ _), HX2⟩
  case round =>
    obtain ⟨k_, M, rfl, hk, HOM, HML, HMK, HG, HXW⟩ := hrel
    rename World => wr
    by_cases hlt : k_ < q
    · have hltz : (k_ : Int) < (q : Int) := by omega
      have hkl : k_ < X.length := by have := HXLX.out; omega
      obtain ⟨u, hu⟩ : ∃ u, X[k_]? = some u := ⟨X[k_], List.getElem?_eq_getElem hkl⟩
      have hun := HXBX.out u (List.mem_of_getElem? hu)
      have hr := Row.kept HRXX.out HG.out (fun g hg e => HNEX.out g hg e)
      obtain ⟨A', c', e1, -, -, -, -, hc⟩ := id hr
      obtain ⟨b, o, hA, -, -⟩ := hc (by rw [ints_len]; omega)
      injection e1 with e1
      have hA2 := e1.trans hA
      rw [hA2] at hr
      have z1 := (rowN_at hr).2 k_ u hu
      have y1 := boolAt HOM.out u (by rw [HML.out]; exact hun)
      have fr := boolFr HOM.out u
      have O2 := Lib.hid (boolPut HOM.out u (by rw [HML.out]; exact hun) true)
      have L2 : Hid ((M.set u true).length = n) := Lib.hid (by rw [List.length_set]; exact HML.out)
      have K2 : Hid (markL (M.set u true) (X.drop (k_ + 1)) = M1) := Lib.hid (by
        have h := HMK.out
        have e := List.drop_eq_getElem_cons hkl
        rw [e, (List.getElem?_eq_some_iff.1 hu).2] at h
        exact h)
      have G2 : Hid (w2.grownBy (wr.setCell ⟨b0, u, none⟩ (.bool true)) (some b0)) := Lib.hid (only_set HG.out u _)
      have W2' : Hid (Ext w (wr.setCell ⟨b0, u, none⟩ (.bool true))) := Lib.hid (HXW.out.set_ (by rw [HB0.out]; exact Nat.le_refl _) _)
      have huz : (u : Int) < (n : Int) := by omega
      have hu0 : ¬ (u : Int) < 0 := by omega
      have HAE := Lib.hid hA2
      clear hkl hu hr hc hA e1 hA2
      rw [HAE.out]
      go_wp2_with fail
      go_roundw
      case rel => exact ⟨k_ + 1, M.set u true, by go_num, by omega, O2, L2, K2, G2, W2'⟩
      case measure => first | (simp [intOf]; omega) | simp [intOf]
    · have hltz : ¬ (k_ : Int) < (q : Int) := by omega
      have hM : M = M1 := by
        have h := HMK.out
        rw [List.drop_of_length_le (by have := HXLX.out; omega)] at h
        exact h
      subst hM
      have HXA := HXW
      clear HRXX HXLX HXBX HNEX HO2 HX2 HMK HG HMM
      go_wp2_with fail
      go_loopw [8] (fun av wr => ∃ (a : Nat) (M : List Bool), av = .int .i64 a ∧ a ≤ n ∧ Hid (ShB.Own b0 wr (.slice (some ⟨b0, 0, none⟩) n n) M) ∧ Hid (M.length = n) ∧ Hid (roundsF ups n (n - a) M = FIN) ∧ Hid (Ext w wr)) (fun av _ => n - (intOf av).toNat)
      case atStart => exact ⟨0, M, rfl, by omega, HOM, HML, HM1, HXA⟩
      case round =>
        obtain ⟨a, Mo, rfl, ha, HOo, HMo, HRo, HXo⟩ := hrel
        rename World => wo
        clear HOM HML HM1 HXA HXW
        have r0 := HC0.out wo HXo.out
        by_cases hla : a < n
        · have hlaz : (a : Int) < (n : Int) := by omega
          have HT : Hid (roundF ups Mo (List.range' 0 (n - 0)) = roundF ups Mo (List.range n)) := Lib.hid (by rw [Nat.sub_zero, List.range_eq_range'])
          obtain ⟨T, hT⟩ : ∃ T, roundF ups Mo (List.range n) = T := ⟨_, rfl⟩
          rw [hT] at HT
          have HRT : Hid (roundsF ups n (n - (a + 1)) T = FIN) := Lib.hid (by
            have h := HRo.out
            rw [show n - a = (n - (a + 1)) + 1 by omega] at h
            unfold roundsF at h
            rw [hT] at h
            exact h)
          clear hT
          go_wp2_with fail
          go_loopw [9] (fun kv wr => ∃ (k : Nat) (M : List Bool), kv = .int .i64 k ∧ k ≤ n ∧ Hid (ShB.Own b0 wr (.slice (some ⟨b0, 0, none⟩) n n) M) ∧ Hid (M.length = n) ∧ Hid (roundF ups M (List.range' k (n - k)) = T) ∧ Hid (Ext w wr)) (fun kv _ => n - (intOf kv).toNat)
          case atStart => exact ⟨0, Mo, rfl, by omega, HOo, HMo, HT, HXo⟩
          case round =>
            obtain ⟨k, M', rfl, hk, HO', HML', HT', HX'⟩ := hrel
            rename World => wp
            clear HOo HMo HRo HXo HT r0
            have r0 := HC0.out wp HX'.out
            by_cases hlk : k < n
            · have hlkz : (k : Int) < (n : Int) := by omega
              have hk0 : ¬ (k : Int) < 0 := by omega
              have y0 := boolAt HO'.out k (by rw [HML'.out]; exact hlk)
              have hst := roundF_step (ups := ups) (M := M') hlk
              have HST : Hid (roundF ups (if gbl M' k then markL M' (ups k) else M') (List.range' (k + 1) (n - (k + 1))) = T) := Lib.hid (by rw [← hst]; exact HT'.out)
              clear hst
              obtain ⟨bb, hbb⟩ : ∃ bb, gbl M' k = bb := ⟨_, rfl⟩
              rw [hbb] at y0 HST
              clear hbb
              cases bb
              · have HST2 : Hid (roundF ups M' (List.range' (k + 1) (n - (k + 1))) = T) := Lib.hid (by have h := HST.out; simpa using h)
                clear HST
                go_wp2_with fail
                go_roundw
                case rel => exact ⟨k + 1, M', by go_num, by omega, HO', HML', HST2, HX'⟩
                case measure => first | (simp [intOf]; omega) | simp [intOf]
              · have HST2 : Hid (roundF ups (markL M' (ups k)) (List.range' (k + 1) (n - (k + 1))) = T) := Lib.hid (by have h := HST.out; simpa using h)
                clear HST
                go_wp2_with fail
                refine (HU.out k hlk wp HX'.out).mono ?_
                rintro e w4 ⟨A4, p, c4, rfl, hpm, hp, hr, hlow, x4⟩
                obtain ⟨Y, hY⟩ : ∃ Y, ups k = Y := ⟨_, rfl⟩
                have HRXY : Hid (Row w4 .i64 (.slice A4 p c4) (ints Y)) := Lib.hid (by rw [← hY]; exact hr)
                have HXLY : Hid (Y.length = p) := Lib.hid (by rw [← hY]; exact hp)
                have HXBY : Hid (∀ u ∈ Y, u < n) := Lib.hid (by rw [← hY]; exact HB.out k hlk)
                have HNEY : Hid (∀ g, (Value.slice A4 p c4).ownBlock = some g → some b0 ≠ some g) := Lib.hid fun g hg e => by
                  injection e with e
                  have h1 := hlow g hg
                  have h2 : b0 < wp.heap.size := Shp.Own.high HO'.out _ rfl
                  omega
                have HX4 := Lib.hid (HX'.out.trans x4)
                have HO4 := Lib.hid (HO'.out.ext x4)
                rw [hY] at HST2
                obtain ⟨T2, hT2⟩ : ∃ T2, markL M' Y = T2 := ⟨_, rfl⟩
                rw [hT2] at HST2
                have HT2 := Lib.hid hT2
                clear hp hr hlow x4 hY hT2 HO' HX' HT' r0 y0
                go_wp2_with fail
                go_loopw [11] (fun kv wr => ∃ (k : Nat) (M : List Bool), kv = .int .i64 k ∧ k ≤ p ∧ Hid (ShB.Own b0 wr (.slice (some ⟨b0, 0, none⟩) n n) M) ∧ Hid (M.length = n) ∧ Hid (markL M (Y.drop k) = T2) ∧ Hid (w4.grownBy wr (some b0)) ∧ Hid (Ext w wr)) (fun kv _ => p - (intOf kv).toNat)
                case atStart => exact ⟨0, M', rfl, by omega, HO4, HML', HT2, Lib.hid (World.grownBy.refl _ _), HX4⟩
                case round =>
                  obtain ⟨k_, M, rfl, hk, HOM, HML, HMK, HG, HXW⟩ := hrel
                  rename World => wr
                  by_cases hlt : k_ < p
                  · have hltz : (k_ : Int) < (p : Int) := by omega
                    have hkl : k_ < Y.length := by have := HXLY.out; omega
                    obtain ⟨u, hu⟩ : ∃ u, Y[k_]? = some u := ⟨Y[k_], List.getElem?_eq_getElem hkl⟩
                    have hun := HXBY.out u (List.mem_of_getElem? hu)
                    have hr := Row.kept HRXY.out HG.out (fun g hg e => HNEY.out g hg e)
                    obtain ⟨A', c', e1, -, -, -, -, hc⟩ := id hr
                    obtain ⟨b, o, hA, -, -⟩ := hc (by rw [ints_len]; omega)
                    injection e1 with e1
                    have hA2 := e1.trans hA
                    rw [hA2] at hr
                    have z1 := (rowN_at hr).2 k_ u hu
                    have y1 := boolAt HOM.out u (by rw [HML.out]; exact hun)
                    have fr := boolFr HOM.out u
                    have O2 := Lib.hid (boolPut HOM.out u (by rw [HML.out]; exact hun) true)
                    have L2 : Hid ((M.set u true).length = n) := Lib.hid (by rw [List.length_set]; exact HML.out)
                    have K2 : Hid (markL (M.set u true) (Y.drop (k_ + 1)) = T2) := Lib.hid (by
                      have h := HMK.out
                      have e := List.drop_eq_getElem_cons hkl
                      rw [e, (List.getElem?_eq_some_iff.1 hu).2] at h
                      exact h)
                    have G2 : Hid (w4.grownBy (wr.setCell ⟨b0, u, none⟩ (.bool true)) (some b0)) := Lib.hid (only_set HG.out u _)
                    have W2' : Hid (Ext w (wr.setCell ⟨b0, u, none⟩ (.bool true))) := Lib.hid (HXW.out.set_ (by rw [HB0.out]; exact Nat.le_refl _) _)
                    have huz : (u : Int) < (n : Int) := by omega
                    have hu0 : ¬ (u : Int) < 0 := by omega
                    have HAE := Lib.hid hA2
                    clear hkl hu hr hc hA e1 hA2
                    rw [HAE.out]
                    go_wp2_with fail
                    go_roundw
                    case rel => exact ⟨k_ + 1, M.set u true, by go_num, by omega, O2, L2, K2, G2, W2'⟩
                    case measure => first | (simp [intOf]; omega) | simp [intOf]
                  · have hltz : ¬ (k_ : Int) < (p : Int) := by omega
                    have hM : M = T2 := by
                      have h := HMK.out
                      rw [List.drop_of_length_le (by have := HXLY.out; omega)] at h
                      exact h
                    subst hM
                    go_wp2_with fail
                    go_roundw
                    case rel => exact ⟨k + 1, M, by go_num, by omega, HOM, HML, HST2, HXW⟩
                    case measure => first | (simp [intOf]; omega) | simp [intOf]
            · have hlkz : ¬ (k : Int) < (n : Int) := by omega
              have hMT : M' = T := by
                have h := HT'.out
                rw [show n - k = 0 by omega] at h
                exact h
              subst hMT
              go_wp2_with fail
              go_roundw
              case rel => exact ⟨a + 1, M', by go_num, by omega, HO', HML', HRT, HX'⟩
              case measure => first | (simp [intOf]; omega) | simp [intOf]
        · have hlaz : ¬ (a : Int) < (n : Int) := by omega
          have hMF : Mo = FIN := by
            have h := HRo.out
            rw [show n - a = 0 by omega] at h
            exact h
          subst hMF
          have y0 := boolAt HOo.out i (by rw [HMo.out]; exact hi)
          go_wp2
          go_ret
          exact ⟨rfl, HXo.out⟩
end Go.Proofs.YtkkfkjjmmdpafaaDoor
