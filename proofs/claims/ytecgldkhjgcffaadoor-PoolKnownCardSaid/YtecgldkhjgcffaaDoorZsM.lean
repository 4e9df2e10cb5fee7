/- Several texts of this proof, one behind the other. -/
import Derived.Test.YtecgldkhjgcffaaDoorZsA
import Derived.Test.YtecgldkhjgcffaaDoorZsB
import Derived.Test.YtecgldkhjgcffaaDoorZsY
import Derived.Tactics
import Derived.Test.YtecgldkhjgcffaaDoorZsG
import Derived.Laws.StructEq
import Derived.Deep.QuietTactic
import Derived.RegionTactic
/- Constants of a class: plain mathematics, no program. -/
namespace Go.Proofs.YtecgldkhjgcffaaDoor

/-- Is that place one of a kind? -/
def isK (l : List Cst) (i k : Int) : Bool := decide (1 ≤ i) && (decide (i < l.length) && decide ((gc l i.toNat).k = k))
theorem isK_at {l : List Cst} {i k : Int} (h : isK l i k = true) : ∃ j : Nat, i = j ∧ 1 ≤ j ∧ j < l.length ∧ (gc l j).k = k := by
  simp [isK] at h
  exact ⟨i.toNat, by omega, by omega, by omega, h.2.2⟩
theorem isK_of {l : List Cst} {j : Nat} {k : Int} (h1 : 1 ≤ j) (h2 : j < l.length) (h3 : (gc l j).k = k) : isK l j k = true := by
  simp [isK]
  exact ⟨by omega, h2, h3⟩
/-- What Text, Num, ClassName and Ref answer. -/
def tText (l : List Cst) (i : Int) : ByteArray × Int := if isK l i 1 = true then ((gc l i.toNat).t, 0) else (.empty, 40)
def tNum (l : List Cst) (i k : Int) : Int × Int := if (k = 2 ∨ k = 3) ∧ isK l i k = true then ((gc l i.toNat).n, 0) else (0, 40)
def tClass (l : List Cst) (i : Int) : ByteArray × Int := if isK l i 4 = true then tText l (gc l i.toNat).a else (.empty, 40)
def tRef (l : List Cst) (i k : Int) : ByteArray × ByteArray × ByteArray × Int :=
  if (k = 5 ∨ k = 6) ∧ isK l i k = true ∧ (tClass l (gc l i.toNat).a).2 = 0 ∧ (tText l (gc l i.toNat).b).2 = 0 ∧ (tText l (gc l i.toNat).c).2 = 0
  then ((tClass l (gc l i.toNat).a).1, (tText l (gc l i.toNat).b).1, (tText l (gc l i.toNat).c).1, 0) else (.empty, .empty, .empty, 40)
theorem tText_err (l : List Cst) (i : Int) : (tText l i).2 = 0 ∨ tText l i = (.empty, 40) := by
  unfold tText
  split
  · exact .inl rfl
  · exact .inr rfl
theorem tClass_err (l : List Cst) (i : Int) : (tClass l i).2 = 0 ∨ tClass l i = (.empty, 40) := by
  unfold tClass
  split
  · exact tText_err _ _
  · exact .inr rfl
end Go.Proofs.YtecgldkhjgcffaaDoor
/- The document's answers of layer 4, walked: which constant is of a kind. -/
namespace Go.Proofs.YtecgldkhjgcffaaDoor
open Go.RowKit
set_option linter.unusedVariables false

theorem ret4 {a b c d a' b' c' d' : Value} (h1 : a = a') (h2 : b = b') (h3 : c = c') (h4 : d = d') : Ending.returned (.tuple #[a, b, c, d]) = .returned (.tuple #[a', b', c', d']) := by rw [h1, h2, h3, h4]
theorem results_tmp4 {fn : Func} {t u v x : Tmp} (h : fn.results = #[.tmp t, .tmp u, .tmp v, .tmp x]) (tmps : Array Value) (P : Program) (w : World) :
    (results fn tmps).run P w = .ok (.tuple #[tmps.getD t undef, tmps.getD u undef, tmps.getD v undef, tmps.getD x undef]) w := by simp [results, h]
end Go.Proofs.YtecgldkhjgcffaaDoor
/- The program's own answers of constants, walked: which is of a kind, and what each tells. -/
namespace Go.Proofs.YtecgldkhjgcffaaDoor
open Go.RowKit
set_option linter.unusedVariables false

/-- What a list's texts are at most. -/
def Texts (l : List Cst) : Prop := ∀ y ∈ l, y.t.size ≤ 140737488351232
theorem Texts.at_ {l : List Cst} (h : Texts l) (j : Nat) : (gc l j).t.size ≤ 140737488351232 := by
  by_cases hj : j < l.length
  · exact h _ (gc_mem hj)
  · rw [gc_past (by omega)]
    exact Nat.zero_le _
theorem is_any (v : Value) (l : List Cst) (i k : Int) (w : World) (h : RowC w v l) (hi : I64 i) (hk : I64 k) (hz : (gc l 0).k = 0) (hk0 : ¬ k = 0) :
    Calls Tryd.prog 44 #[v, .int .i64 i, .int .i64 k] w fun e w' => e = .returned (.bool (isK l i k)) ∧ w = w' := by
  obtain ⟨hi0, hi1⟩ := hi
  obtain ⟨A, c, rfl, h2, h3, h4, h5, h6⟩ := h
  unfold maxLen at h3
  by_cases h1 : 0 ≤ i
  · obtain ⟨j, rfl⟩ : ∃ j : Nat, i = j := ⟨i.toNat, by omega⟩
    by_cases hlt : (j : Int) < l.length
    · obtain ⟨b, o, rfl, _, hc⟩ := h6 (by omega)
      obtain ⟨a0, a1, a2, a3, a4, a5⟩ := hc j (by omega)
      have e : isK l j k = ((gc l j).k == k) := by
        by_cases hj : j = 0
        · subst hj
          rw [hz]
          have : (0 == k) = false := by simpa using (fun e => hk0 e.symm)
          rw [this]
          simp [isK]
        · have : (1 : Int) ≤ j := by omega
          simp [isK, this, hlt]
          rfl
      rw [e]
      clear hc h6 e hz hk0
      go_enter Tryd.func44, Tryd.ntmps44
      go_wp2
      go_ret
      exact ⟨rfl, rfl⟩
    · have e : isK l j k = false := by simp [isK]; omega
      rw [e]
      clear h6 e hz hk0
      go_enter Tryd.func44, Tryd.ntmps44
      go_wp2
      go_ret
      exact ⟨rfl, rfl⟩
  · have e : isK l i k = false := by simp [isK]; omega
    rw [e]
    clear h6 e hz hk0
    go_enter Tryd.func44, Tryd.ntmps44
    go_wp2
    go_ret
    exact ⟨rfl, rfl⟩

theorem sclone_any (s : ByteArray) (w : World) (hs : s.size ≤ 140737488351232) :
    Calls Tryd.prog 45 #[.string s] w fun e w' => e = .returned (.string s) ∧ Ext w w' := by
  go_enter Tryd.func45, Tryd.ntmps45
  go_wp2_with fail
  refine (Tryd.stringslite_Clone s _ (by omega)).mono ?_
  rintro e w1 ⟨rfl, x1⟩
  have x1 : Ext w w1 := x1
  go_wp2
  go_ret
  exact ⟨rfl, x1⟩

theorem Text_any (v : Value) (l : List Cst) (i : Int) (w : World) (h : RowC w v l) (hi : I64 i) (hz : (gc l 0).k = 0) (hR : Texts l) :
    Calls Tryd.prog 22 #[v, .int .i64 i] w fun e w' => e = .returned (.tuple #[.string (tText l i).1, .int .i64 (tText l i).2]) ∧ Ext w w' := by
  have h' := h
  obtain ⟨A, c, rfl, h2, h3, h4, h5, h6⟩ := h'
  unfold maxLen at h3
  by_cases hk : isK l i 1 = true
  · obtain ⟨j, rfl, j1, j2, j3⟩ := isK_at hk
    obtain ⟨b, o, rfl, _, hc⟩ := h6 (by omega)
    obtain ⟨a0, a1, a2, a3, a4, a5⟩ := hc j j2
    have e : tText l j = ((gc l j).t, 0) := by rw [tText, if_pos hk]; rfl
    rw [e]
    have hsz := hR.at_ j
    have HK := Lib.hid hk
    clear hc h6 e hk j3 a0
    go_enter Tryd.func22, Tryd.ntmps22
    go_wp2_with fail
    refine (is_any _ l _ _ _ (by exact h) hi (by unfold I64; omega) hz (by decide)).mono ?_
    rw [HK.out]
    rintro e w1 ⟨rfl, rfl⟩
    go_wp2_with fail
    refine (sclone_any _ _ hsz).mono ?_
    rintro e w1 ⟨rfl, x1⟩
    go_wp2
    go_ret2
    exact ⟨rfl, x1⟩
  · have e : tText l i = (.empty, 40) := by rw [tText, if_neg hk]
    rw [e]
    have hk : isK l i 1 = false := by simpa using hk
    have HK := Lib.hid hk
    clear h6 e hk
    go_enter Tryd.func22, Tryd.ntmps22
    go_wp2_with fail
    refine (is_any _ l _ _ _ (by exact h) hi (by unfold I64; omega) hz (by decide)).mono ?_
    rw [HK.out]
    rintro e w1 ⟨rfl, rfl⟩
    go_wp2
    go_ret2
    exact ⟨rfl, Ext.refl _⟩

theorem Num_any (v : Value) (l : List Cst) (i k : Int) (w : World) (h : RowC w v l) (hi : I64 i) (hk : I64 k) (hz : (gc l 0).k = 0) :
    Calls Tryd.prog 23 #[v, .int .i64 i, .int .i64 k] w fun e w' => e = .returned (.tuple #[.int .i64 (tNum l i k).1, .int .i64 (tNum l i k).2]) ∧ Ext w w' := by
  have h' := h
  obtain ⟨A, c, rfl, h2, h3, h4, h5, h6⟩ := h'
  unfold maxLen at h3
  by_cases hk2 : k = 2 ∨ k = 3
  · by_cases hK : isK l i k = true
    · obtain ⟨j, rfl, j1, j2, j3⟩ := isK_at hK
      obtain ⟨b, o, rfl, _, hc⟩ := h6 (by omega)
      obtain ⟨a0, a1, a2, a3, a4, a5⟩ := hc j j2
      have e : tNum l j k = ((gc l j).n, 0) := by rw [tNum, if_pos ⟨hk2, hK⟩]; rfl
      rw [e]
      have HK := Lib.hid hK
      clear hc h6 e hK j3 a0
      rcases hk2 with rfl | rfl
      all_goals
        go_enter Tryd.func23, Tryd.ntmps23
        go_wp2_with fail
        refine (is_any _ l _ _ _ (by exact h) hi (by unfold I64; omega) hz (by decide)).mono ?_
        rw [HK.out]
        rintro e w1 ⟨rfl, rfl⟩
        go_wp2
        go_ret2
        exact ⟨rfl, Ext.refl _⟩
    · have e : tNum l i k = (0, 40) := by rw [tNum, if_neg (fun h => hK h.2)]
      rw [e]
      have hK : isK l i k = false := by simpa using hK
      have HK := Lib.hid hK
      clear h6 e hK
      rcases hk2 with rfl | rfl
      all_goals
        go_enter Tryd.func23, Tryd.ntmps23
        go_wp2_with fail
        refine (is_any _ l _ _ _ (by exact h) hi (by unfold I64; omega) hz (by decide)).mono ?_
        rw [HK.out]
        rintro e w1 ⟨rfl, rfl⟩
        go_wp2
        go_ret2
        exact ⟨rfl, Ext.refl _⟩
  · have e : tNum l i k = (0, 40) := by rw [tNum, if_neg (fun h => hk2 h.1)]
    rw [e]
    have n2 : (k != 2) = true := by simp; omega
    have n3 : (k != 3) = true := by simp; omega
    clear h6 e hk2
    go_enter Tryd.func23, Tryd.ntmps23
    go_wp2
    go_ret2
    exact ⟨rfl, Ext.refl _⟩

theorem ClassName_any (v : Value) (l : List Cst) (i : Int) (w : World) (h : RowC w v l) (hi : I64 i) (hz : (gc l 0).k = 0) (hR : Texts l) :
    Calls Tryd.prog 24 #[v, .int .i64 i] w fun e w' => e = .returned (.tuple #[.string (tClass l i).1, .int .i64 (tClass l i).2]) ∧ Ext w w' := by
  have h' := h
  obtain ⟨A, c, rfl, h2, h3, h4, h5, h6⟩ := h'
  unfold maxLen at h3
  by_cases hk : isK l i 4 = true
  · obtain ⟨j, rfl, j1, j2, j3⟩ := isK_at hk
    obtain ⟨b, o, rfl, _, hc⟩ := h6 (by omega)
    obtain ⟨a0, a1, a2, a3, a4, a5⟩ := hc j j2
    have hok := gc_ok h5 j
    have e : tClass l j = tText l (gc l j).a := by rw [tClass, if_pos hk]; rfl
    rw [e]
    have HK := Lib.hid hk
    clear hc h6 e hk j3 a0
    go_enter Tryd.func24, Tryd.ntmps24
    go_wp2_with fail
    refine (is_any _ l _ _ _ (by exact h) hi (by unfold I64; omega) hz (by decide)).mono ?_
    rw [HK.out]
    rintro e w1 ⟨rfl, rfl⟩
    go_wp2_with fail
    refine (Text_any _ l _ _ (by exact h) hok.2.2.1 hz hR).mono ?_
    rintro e w1 ⟨rfl, x1⟩
    go_wp2
    go_ret2
    exact ⟨rfl, x1⟩
  · have e : tClass l i = (.empty, 40) := by rw [tClass, if_neg hk]
    rw [e]
    have hk : isK l i 4 = false := by simpa using hk
    have HK := Lib.hid hk
    clear h6 e hk
    go_enter Tryd.func24, Tryd.ntmps24
    go_wp2_with fail
    refine (is_any _ l _ _ _ (by exact h) hi (by unfold I64; omega) hz (by decide)).mono ?_
    rw [HK.out]
    rintro e w1 ⟨rfl, rfl⟩
    go_wp2
    go_ret2
    exact ⟨rfl, Ext.refl _⟩

/-- Whether both numbers are texts'. -/
theorem namesTexts_any (v : Value) (l : List Cst) (x : Cst) (w : World) (h : RowC w v l) (hx : x.ok) (hz : (gc l 0).k = 0) :
    Calls Tryd.prog 46 #[v, .agg x.vals] w fun e w' => e = .returned (.bool (isK l x.b 1 && isK l x.c 1)) ∧ Ext w w' := by
  obtain ⟨k, t, n, a, b, c⟩ := x
  obtain ⟨-, -, -, ok_b, ok_c⟩ := hx
  simp only at ok_b ok_c ⊢
  unfold Cst.vals
  simp only
  obtain ⟨e1, he1⟩ : ∃ e1, isK l b 1 = e1 := ⟨_, rfl⟩
  obtain ⟨e2, he2⟩ : ∃ e2, isK l c 1 = e2 := ⟨_, rfl⟩
  rw [he1, he2]
  have H1 := Lib.hid he1
  have H2 := Lib.hid he2
  clear he1 he2
  cases e1
  · go_enter Tryd.func46, Tryd.ntmps46
    go_wp2_with fail
    refine (is_any _ l _ _ _ (by exact h.ext ((Ext.refl _).alloc _)) ok_b (by unfold I64; omega) hz (by decide)).mono ?_
    rw [H1.out]
    rintro e w1 ⟨rfl, rfl⟩
    go_wp2
    go_ret
    exact ⟨rfl, (Ext.refl _).alloc _⟩
  · go_enter Tryd.func46, Tryd.ntmps46
    go_wp2_with fail
    refine (is_any _ l _ _ _ (by exact h.ext ((Ext.refl _).alloc _)) ok_b (by unfold I64; omega) hz (by decide)).mono ?_
    rw [H1.out]
    rintro e w1 ⟨rfl, rfl⟩
    go_wp2_with fail
    refine (is_any _ l _ _ _ (by exact h.ext ((Ext.refl _).alloc _)) ok_c (by unfold I64; omega) hz (by decide)).mono ?_
    rw [H2.out]
    rintro e w1 ⟨rfl, rfl⟩
    go_wp2
    go_ret
    exact ⟨rfl, (Ext.refl _).alloc _⟩

theorem tText_is (l : List Cst) (i : Int) : (tText l i).2 = 0 ↔ isK l i 1 = true := by
  unfold tText
  split
  · rename_i h
    simp [h]
  · rename_i h
    simp [h]
theorem tText_yes {l : List Cst} {i : Int} (h : isK l i 1 = true) : tText l i = ((gc l i.toNat).t, 0) := by rw [tText, if_pos h]

set_option maxHeartbeats 1000000 in
theorem Ref_any (v : Value) (l : List Cst) (i k : Int) (w : World) (h : RowC w v l) (hi : I64 i) (hk : I64 k) (hz : (gc l 0).k = 0) (hR : Texts l) :
    Calls Tryd.prog 25 #[v, .int .i64 i, .int .i64 k] w fun e w' => e = .returned (.tuple #[.string (tRef l i k).1, .string (tRef l i k).2.1, .string (tRef l i k).2.2.1, .int .i64 (tRef l i k).2.2.2]) ∧ Ext w w' := by
  have h' := h
  obtain ⟨A, cp, rfl, h2, h3, h4, h5, h6⟩ := h'
  unfold maxLen at h3
  by_cases hk2 : k = 5 ∨ k = 6
  · by_cases hK : isK l i k = true
    · obtain ⟨j, rfl, j1, j2, j3⟩ := isK_at hK
      obtain ⟨bl, o, rfl, hbl, hc⟩ := h6 (by omega)
      obtain ⟨a0, a1, a2, a3, a4, a5⟩ := hc j j2
      have hok := gc_ok h5 j
      have hj0 : (gc l (j : Int).toNat) = gc l j := rfl
      obtain ⟨y, hy⟩ : ∃ y, gc l j = y := ⟨_, rfl⟩
      have hT : tRef l j k = if (tClass l y.a).2 = 0 ∧ (isK l y.b 1 && isK l y.c 1) = true then ((tClass l y.a).1, (tText l y.b).1, (tText l y.c).1, 0) else (.empty, .empty, .empty, 40) := by
        rw [tRef, hj0, hy]
        by_cases hcd : (tClass l y.a).2 = 0 ∧ (tText l y.b).2 = 0 ∧ (tText l y.c).2 = 0
        · rw [if_pos ⟨hk2, hK, hcd⟩, if_pos ⟨hcd.1, by rw [(tText_is _ _).1 hcd.2.1, (tText_is _ _).1 hcd.2.2]; rfl⟩]
        · rw [if_neg (fun h => hcd h.2.2), if_neg (fun h => hcd ⟨h.1, by
            obtain ⟨b1, b2⟩ := Bool.and_eq_true _ _ ▸ h.2
            exact ⟨(tText_is _ _).2 b1, (tText_is _ _).2 b2⟩⟩)]
      rw [hy] at a0 a1 a2 a3 a4 a5 hok j3
      obtain ⟨kk, t, n, a, b, c⟩ := y
      simp only at a0 a1 a2 a3 a4 a5 j3 hT
      obtain ⟨x, hx⟩ : ∃ x, x = tClass l a := ⟨_, rfl⟩
      have ex : x.2 = 0 ∨ x.2 = 40 := by rw [hx]; rcases tClass_err l a with h | h; exact .inl h; exact .inr (by rw [h])
      obtain ⟨eb, heb⟩ : ∃ eb, (isK l b 1 && isK l c 1) = eb := ⟨_, rfl⟩
      rw [← hx, heb] at hT
      have HX := Lib.hid hx
      have HT := Lib.hid hT
      have HB := Lib.hid heb
      have HK := Lib.hid hK
      have hokk := hok
      obtain ⟨-, -, ok_a, ok_b, ok_c⟩ := hok
      simp only at ok_a ok_b ok_c
      obtain ⟨x1, x2⟩ := x
      simp only at ex
      clear hc h6 hK hx hT heb hj0 hy
      have hE : ∀ {w0 : World}, Ext w w0 → RowC w0 (.slice (some ⟨bl, o, none⟩) l.length cp) l := fun he => h.ext he
      subst j3
      rcases hk2 with rfl | rfl
      all_goals
        rcases ex with rfl | rfl
        · cases eb
          · go_enter Tryd.func25, Tryd.ntmps25
            go_wp2_with fail
            refine (is_any _ l _ _ _ (by exact h) hi (by unfold I64; omega) hz (by decide)).mono ?_
            rw [HK.out]
            rintro e w1 ⟨rfl, rfl⟩
            go_wp2_with fail
            refine (ClassName_any _ l _ _ (by exact hE ((Ext.refl _).alloc _)) ok_a hz hR).mono ?_
            rw [← HX.out]
            rintro e w1 ⟨rfl, q1⟩
            have g1 : w.heap.size < w1.heap.size := by have := q1.size; simp at this; omega
            have at1 := At0.ext (At0.of (y := ⟨_, t, n, a, b, c⟩) (heap_alloc_new _ _)) q1 (by simp)
            obtain ⟨z0, z1, z2, z3, z4, z5⟩ := id at1
            simp only at z0 z1 z2 z3 z4 z5
            have y1 := ((Ext.refl w).alloc _).trans q1
            clear q1
            go_wp2_with fail
            refine (namesTexts_any _ l ⟨_, t, n, a, b, c⟩ _ (by exact hE y1) hokk hz).mono ?_
            rw [HB.out]
            rintro e w2 ⟨rfl, q2⟩
            go_wp2
            refine bodyPost_ret (results_tmp4 rfl _ _ _) rfl ?_
            rw [HT.out]
            exact ⟨rfl, y1.trans q2⟩
          · go_enter Tryd.func25, Tryd.ntmps25
            go_wp2_with fail
            refine (is_any _ l _ _ _ (by exact h) hi (by unfold I64; omega) hz (by decide)).mono ?_
            rw [HK.out]
            rintro e w1 ⟨rfl, rfl⟩
            go_wp2_with fail
            refine (ClassName_any _ l _ _ (by exact hE ((Ext.refl _).alloc _)) ok_a hz hR).mono ?_
            rw [← HX.out]
            rintro e w1 ⟨rfl, q1⟩
            have g1 : w.heap.size < w1.heap.size := by have := q1.size; simp at this; omega
            have at1 := At0.ext (At0.of (y := ⟨_, t, n, a, b, c⟩) (heap_alloc_new _ _)) q1 (by simp)
            obtain ⟨z0, z1, z2, z3, z4, z5⟩ := id at1
            simp only at z0 z1 z2 z3 z4 z5
            have y1 := ((Ext.refl w).alloc _).trans q1
            clear q1
            go_wp2_with fail
            refine (namesTexts_any _ l ⟨_, t, n, a, b, c⟩ _ (by exact hE y1) hokk hz).mono ?_
            rw [HB.out]
            rintro e w2 ⟨rfl, q2⟩
            have at2 := at1.ext q2 g1
            obtain ⟨-, -, -, -, u4, u5⟩ := id at2
            simp only at u4 u5
            have y2 := y1.trans q2
            go_wp2_with fail
            refine (Text_any _ l _ _ (by exact hE y2) ok_b hz hR).mono ?_
            rintro e w3 ⟨rfl, q3⟩
            have at3 := at2.ext q3 (Nat.lt_of_lt_of_le g1 q2.size)
            obtain ⟨-, -, -, -, -, v5⟩ := id at3
            simp only at v5
            have y3 := y2.trans q3
            go_wp2_with fail
            refine (Text_any _ l _ _ (by exact hE y3) ok_c hz hR).mono ?_
            rintro e w4 ⟨rfl, q4⟩
            go_wp2
            refine bodyPost_ret (results_tmp4 rfl _ _ _) rfl ?_
            rw [HT.out]
            exact ⟨rfl, y3.trans q4⟩
        · go_enter Tryd.func25, Tryd.ntmps25
          go_wp2_with fail
          refine (is_any _ l _ _ _ (by exact h) hi (by unfold I64; omega) hz (by decide)).mono ?_
          rw [HK.out]
          rintro e w1 ⟨rfl, rfl⟩
          go_wp2_with fail
          refine (ClassName_any _ l _ _ (by exact hE ((Ext.refl _).alloc _)) ok_a hz hR).mono ?_
          rw [← HX.out]
          rintro e w1 ⟨rfl, q1⟩
          have g1 : w.heap.size < w1.heap.size := by have := q1.size; simp at this; omega
          have at1 := At0.ext (At0.of (y := ⟨_, t, n, a, b, c⟩) (heap_alloc_new _ _)) q1 (by simp)
          obtain ⟨z0, z1, z2, z3, z4, z5⟩ := id at1
          simp only at z0 z1 z2 z3 z4 z5
          have y1 := ((Ext.refl w).alloc _).trans q1
          clear q1
          go_wp2
          refine bodyPost_ret (results_tmp4 rfl _ _ _) rfl ?_
          rw [HT.out]
          exact ⟨rfl, y1⟩
    · have e : tRef l i k = (.empty, .empty, .empty, 40) := by rw [tRef, if_neg (fun h => hK h.2.1)]
      rw [e]
      have hK : isK l i k = false := by simpa using hK
      have HK := Lib.hid hK
      clear h6 e hK
      rcases hk2 with rfl | rfl
      all_goals
        go_enter Tryd.func25, Tryd.ntmps25
        go_wp2_with fail
        refine (is_any _ l _ _ _ (by exact h) hi (by unfold I64; omega) hz (by decide)).mono ?_
        rw [HK.out]
        rintro e w1 ⟨rfl, rfl⟩
        go_wp2
        refine bodyPost_ret (results_tmp4 rfl _ _ _) rfl ?_
        exact ⟨rfl, Ext.refl _⟩
  · have e : tRef l i k = (.empty, .empty, .empty, 40) := by rw [tRef, if_neg (fun h => hk2 h.1)]
    rw [e]
    have n2 : (k != 5) = true := by simp; omega
    have n3 : (k != 6) = true := by simp; omega
    clear h6 e hk2
    go_enter Tryd.func25, Tryd.ntmps25
    go_wp2
    refine bodyPost_ret (results_tmp4 rfl _ _ _) rfl ?_
    exact ⟨rfl, Ext.refl _⟩
end Go.Proofs.YtecgldkhjgcffaaDoor
/- Two constants, two lists of them: are they the same? -/
namespace Go.Proofs.YtecgldkhjgcffaaDoor
open Go.RowKit
set_option linter.unusedVariables false

/-- Whether two constants, two lists, are the same. -/
noncomputable def eqC (x y : Cst) : Bool := @decide (x = y) (Classical.propDecidable _)
noncomputable def eqL (l m : List Cst) : Bool := @decide (l = m) (Classical.propDecidable _)
theorem eqC_yes {x y : Cst} (h : x = y) : eqC x y = true := @decide_eq_true _ (Classical.propDecidable _) h
theorem eqC_no {x y : Cst} (h : ¬ x = y) : eqC x y = false := @decide_eq_false _ (Classical.propDecidable _) h
theorem eqL_yes {l m : List Cst} (h : l = m) : eqL l m = true := @decide_eq_true _ (Classical.propDecidable _) h
theorem eqL_no {l m : List Cst} (h : ¬ l = m) : eqL l m = false := @decide_eq_false _ (Classical.propDecidable _) h
theorem Cst.ext_ {x y : Cst} (h0 : x.k = y.k) (h1 : x.t = y.t) (h2 : x.n = y.n) (h3 : x.a = y.a) (h4 : x.b = y.b) (h5 : x.c = y.c) : x = y := by
  cases x; cases y
  simp only at h0 h1 h2 h3 h4 h5
  subst h0 h1 h2 h3 h4 h5
  rfl
theorem toList_inj {a b : ByteArray} (h : a.toList = b.toList) : a = b := by
  rw [ByteArray.toList_eq, ByteArray.toList_eq] at h
  exact ByteArray.ext (Array.toList_inj.1 h)
theorem ret_b {b c : Bool} (h : b = c) : Ending.returned (.bool b) = .returned (.bool c) := by rw [h]
theorem run_eq6 (x y : Cst) (W : World) : (binOp .eql 44 (.agg x.vals) (.agg y.vals)).run Tryd.prog W = .ok (.bool (eqC x y)) W := by
  unfold Cst.vals
  go_simp
  by_cases h : x = y
  · rw [eqC_yes h, h]
    simp
  · rw [eqC_no h]
    (repeat' split) <;> first | rfl | (exact (h (Cst.ext_ ‹x.k = y.k› (toList_inj ‹x.t.toList = y.t.toList›) ‹x.n = y.n› ‹x.a = y.a› ‹x.b = y.b› ‹x.c = y.c›)).elim)
theorem run_neq6 (x y : Cst) (W : World) : (binOp .neq 44 (.agg x.vals) (.agg y.vals)).run Tryd.prog W = .ok (.bool (!eqC x y)) W := by
  unfold Cst.vals
  go_simp
  by_cases h : x = y
  · rw [eqC_yes h, h]
    simp
  · rw [eqC_no h]
    (repeat' split) <;> first | rfl | (exact (h (Cst.ext_ ‹x.k = y.k› (toList_inj ‹x.t.toList = y.t.toList›) ‹x.n = y.n› ‹x.a = y.a› ‹x.b = y.b› ‹x.c = y.c›)).elim)
theorem takeC_one {l : List Cst} {k : Nat} (h : k < l.length) : l.take (k + 1) = l.take k ++ [gc l k] := by
  rw [List.take_succ_eq_append_getElem h]
  simp [gc, h]
theorem ne_gc {l m : List Cst} {k : Nat} (h : ¬ gc l k = gc m k) : ¬ l = m := fun e => h (by rw [e])

set_option maxHeartbeats 1000000 in
theorem refSame_any (v1 v2 : Value) (l m : List Cst) (w : World) (h1 : RowC w v1 l) (h2 : RowC w v2 m) :
    Calls Tryd.prog 14 #[v1, v2] w (Quiet w (.bool (eqL l m))) := by
  obtain ⟨A1, c1, rfl, hc1, hm1, ha1, hf1, hg1⟩ := h1
  obtain ⟨A2, c2, rfl, hc2, hm2, ha2, hf2, hg2⟩ := h2
  unfold maxLen at hm1 hm2
  by_cases hl : l.length = m.length
  · obtain ⟨n, hn⟩ : ∃ n, n = l.length := ⟨_, rfl⟩
    rw [← hn] at hc1 hg1
    rw [← hl, ← hn] at hc2 hg2
    rw [← hn, ← hl, ← hn]
    have Hn := Lib.hid hn
    have Hl := Lib.hid hl
    clear hn hl ha1 ha2
    go_enter Tryd.func14, Tryd.ntmps14
    go_wp2
    go_loopw [5] (fun i wr => ∃ k q : Nat, k ≤ n ∧ i = .int .i64 k ∧ wr = w.drewN q ∧ l.take k = m.take k) (fun i _ => n - (intOf i).toNat)
    case atStart => exact ⟨0, 0, by omega, rfl, rfl, rfl⟩
    case round =>
      obtain ⟨k, q, hk, rfl, rfl, ht⟩ := hrel
      have Ht := Lib.hid ht
      clear ht
      by_cases hlt : k < n
      · obtain ⟨b1, o1, rfl, hb1, hx1⟩ := hg1 (by omega)
        obtain ⟨b2, o2, rfl, hb2, hx2⟩ := hg2 (by omega)
        obtain ⟨y0, y1, y2, y3, y4, y5⟩ := hx1 k hlt
        obtain ⟨z0, z1, z2, z3, z4, z5⟩ := hx2 k hlt
        have hne := fun W => run_neq6 (gc l k) (gc m k) W
        unfold Cst.vals at hne
        clear hx1 hx2
        by_cases he : gc l k = gc m k
        · rw [eqC_yes he] at hne
          have HE := Lib.hid he
          clear he
          go_wp2
          go_quiet (fail)
          go_wp2
          refine ⟨⟨k + 1, q + nq, by omega, by go_num, rfl, ?_⟩, by simp [intOf]; omega⟩
          rw [takeC_one (by have := Hn.out; omega), takeC_one (by have := Hn.out; have := Hl.out; omega), Ht.out, HE.out]
        · rw [eqC_no he] at hne
          have HE := Lib.hid (eqL_no (ne_gc he))
          clear he
          go_wp2
          go_quiet (fail)
          go_wp2
          go_ret
          exact ⟨ret_b HE.out.symm, q + nq, by rw [World.drewN_drewN]⟩
      · go_wp2
        go_ret
        refine ⟨ret_b ?_, _, rfl⟩
        have hk' : k = n := by omega
        have e : l = m := by
          have := Ht.out
          rw [hk', Hn.out] at this
          rwa [List.take_length, Hl.out, List.take_length] at this
        rw [eqL_yes e]
  · have hb : ((l.length : Int) != (m.length : Int)) = true := by simp; omega
    have Hne := Lib.hid (eqL_no (show ¬ l = m from fun h => hl (by rw [h])))
    clear hg1 hg2 ha1 ha2 hf1 hf2 hl
    go_enter Tryd.func14, Tryd.ntmps14
    go_wp2
    go_ret
    exact ⟨ret_b Hne.out.symm, 0, rfl⟩
end Go.Proofs.YtecgldkhjgcffaaDoor
/- The program's named: a constant with those fields alone that its kind names. -/
namespace Go.Proofs.YtecgldkhjgcffaaDoor
open Go.RowKit
set_option linter.unusedVariables false

/-- A constant with those fields alone that its kind names. -/
def namedC (x : Cst) : Cst :=
  if x.k = 1 then ⟨x.k, x.t, 0, 0, 0, 0⟩ else if x.k = 2 ∨ x.k = 3 then ⟨x.k, .empty, x.n, 0, 0, 0⟩ else if x.k = 4 then ⟨x.k, .empty, 0, x.a, 0, 0⟩
  else if x.k = 5 ∨ x.k = 6 then ⟨x.k, .empty, 0, x.a, x.b, x.c⟩ else c0
theorem ext_two' (w : World) (o p : Obj) : Ext w ((w.alloc o).alloc p) := ((Ext.refl w).alloc o).alloc p
set_option maxHeartbeats 2000000 in
theorem named_any (x : Cst) (w : World) : Calls Tryd.prog 41 #[.agg x.vals] w fun e w' => e = .returned (.agg (namedC x).vals) ∧ Ext w w' := by
  obtain ⟨k, t, n, a, b, c⟩ := x
  by_cases k1 : k = 1
  · subst k1
    rw [show namedC ⟨1, t, n, a, b, c⟩ = ⟨1, t, 0, 0, 0, 0⟩ by simp [namedC]]
    unfold Cst.vals
    go_enter Tryd.func41, Tryd.ntmps41
    go_wp2
    exact bodyPost_ret (v := .agg (Cst.vals ⟨1, t, 0, 0, 0, 0⟩)) (by unfold Cst.vals; simp [results, Tryd.results41, go_sem]; try rfl) rfl ⟨rfl, ext_two' _ _ _⟩
  by_cases k2 : k = 2
  · subst k2
    rw [show namedC ⟨2, t, n, a, b, c⟩ = ⟨2, .empty, n, 0, 0, 0⟩ by simp [namedC]]
    unfold Cst.vals
    go_enter Tryd.func41, Tryd.ntmps41
    go_wp2
    exact bodyPost_ret (v := .agg (Cst.vals ⟨2, .empty, n, 0, 0, 0⟩)) (by unfold Cst.vals; simp [results, Tryd.results41, go_sem]; try rfl) rfl ⟨rfl, ext_two' _ _ _⟩
  by_cases k3 : k = 3
  · subst k3
    rw [show namedC ⟨3, t, n, a, b, c⟩ = ⟨3, .empty, n, 0, 0, 0⟩ by simp [namedC]]
    unfold Cst.vals
    go_enter Tryd.func41, Tryd.ntmps41
    go_wp2
    exact bodyPost_ret (v := .agg (Cst.vals ⟨3, .empty, n, 0, 0, 0⟩)) (by unfold Cst.vals; simp [results, Tryd.results41, go_sem]; try rfl) rfl ⟨rfl, ext_two' _ _ _⟩
  by_cases k4 : k = 4
  · subst k4
    rw [show namedC ⟨4, t, n, a, b, c⟩ = ⟨4, .empty, 0, a, 0, 0⟩ by simp [namedC]]
    unfold Cst.vals
    go_enter Tryd.func41, Tryd.ntmps41
    go_wp2
    exact bodyPost_ret (v := .agg (Cst.vals ⟨4, .empty, 0, a, 0, 0⟩)) (by unfold Cst.vals; simp [results, Tryd.results41, go_sem]; try rfl) rfl ⟨rfl, ext_two' _ _ _⟩
  by_cases k5 : k = 5
  · subst k5
    rw [show namedC ⟨5, t, n, a, b, c⟩ = ⟨5, .empty, 0, a, b, c⟩ by simp [namedC]]
    unfold Cst.vals
    go_enter Tryd.func41, Tryd.ntmps41
    go_wp2
    exact bodyPost_ret (v := .agg (Cst.vals ⟨5, .empty, 0, a, b, c⟩)) (by unfold Cst.vals; simp [results, Tryd.results41, go_sem]; try rfl) rfl ⟨rfl, ext_two' _ _ _⟩
  by_cases k6 : k = 6
  · subst k6
    rw [show namedC ⟨6, t, n, a, b, c⟩ = ⟨6, .empty, 0, a, b, c⟩ by simp [namedC]]
    unfold Cst.vals
    go_enter Tryd.func41, Tryd.ntmps41
    go_wp2
    exact bodyPost_ret (v := .agg (Cst.vals ⟨6, .empty, 0, a, b, c⟩)) (by unfold Cst.vals; simp [results, Tryd.results41, go_sem]; try rfl) rfl ⟨rfl, ext_two' _ _ _⟩
  rw [show namedC ⟨k, t, n, a, b, c⟩ = c0 by simp [namedC, k1, k2, k3, k4, k5, k6]]
  have n1 : (k == 1) = false := by simpa using k1
  have n2 : (k == 2) = false := by simpa using k2
  have n3 : (k == 3) = false := by simpa using k3
  have n4 : (k == 4) = false := by simpa using k4
  have n5 : (k == 5) = false := by simpa using k5
  have n6 : (k == 6) = false := by simpa using k6
  unfold Cst.vals
  go_enter Tryd.func41, Tryd.ntmps41
  go_wp2
  exact bodyPost_ret (v := .agg (Cst.vals c0)) (by unfold Cst.vals c0; simp [results, Tryd.results41, go_sem]; try rfl) rfl ⟨rfl, ext_two' _ _ _⟩

end Go.Proofs.YtecgldkhjgcffaaDoor
