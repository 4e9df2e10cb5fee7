/- The document's own answers of types, walked: may it be, its text, its words, what an array holds. -/
import Derived.Test.YtibcaienaejgpaaDescA
namespace Go.Proofs.Ytibcaienaejgpaa
open Go.RowKit
set_option linter.unusedVariables false

theorem kinds (k : Int) : k = 1 ∨ k = 2 ∨ k = 3 ∨ k = 4 ∨ k = 5 ∨ k = 6 ∨ ((k == 1) = false ∧ (k == 2) = false ∧ (k == 3) = false ∧ (k == 4) = false ∧ (k == 5) = false ∧ (k == 6) = false ∧ (k < 3 ∨ 6 < k)) := by
  simp
  omega
theorem bs_nil (l : List UInt8) : (bs l).toList = l := ByteArray.toList_mk l
theorem okT_odd {k : Int} {s : List UInt8} (h1 : (k == 1) = false) (h2 : (k == 2) = false) (h3 : (k == 3) = false) (h4 : (k == 4) = false) (h5 : (k == 5) = false) (h6 : (k == 6) = false) : okT ⟨k, s⟩ = false := by
  simp only [beq_eq_false_iff_ne, ne_eq] at h1 h2 h3 h4 h5 h6
  unfold okT
  rw [if_neg (by simp only; omega), if_neg (by simp only; omega)]
theorem checkT_no {t : Ty} (h : okT t = false) : checkT t = 2 := by rw [checkT, h]; rfl
theorem checkT_yes {t : Ty} (h : okT t = true) : checkT t = 0 := by rw [checkT, h]; rfl

set_option maxHeartbeats 8000000 in
theorem refCheckType_any (t : Ty) (w : World) (hl : t.s.length ≤ 140737488351232) :
    Calls Try.prog 27 #[.agg t.vals] w fun e w' => e = .returned (.int .i64 (checkT t)) ∧ Ext w w' := by
  obtain ⟨k, s⟩ := t
  have hbs := bs_nil s
  have hsz : (bs s).size = s.length := rfl
  rcases kinds k with rfl | rfl | rfl | rfl | rfl | rfl | ⟨n1, n2, n3, n4, n5, n6, -⟩
  · by_cases hn : s = []
    · subst hn
      rw [checkT_yes (t := ⟨1, []⟩) rfl]
      unfold Ty.vals
      go_enter Try.func27, Try.ntmps27
      go_wp2
      go_ret
      exact ⟨rfl, (Ext.refl w).alloc _⟩
    · rw [checkT_no (t := ⟨1, s⟩) (by unfold okT; simpa using hn)]
      have he : (s == []) = false := by simpa using hn
      clear hn
      unfold Ty.vals
      go_enter Try.func27, Try.ntmps27
      go_wp2
      go_ret
      exact ⟨rfl, (Ext.refl w).alloc _⟩
  · by_cases hn : s = []
    · subst hn
      rw [checkT_yes (t := ⟨2, []⟩) rfl]
      unfold Ty.vals
      go_enter Try.func27, Try.ntmps27
      go_wp2
      go_ret
      exact ⟨rfl, (Ext.refl w).alloc _⟩
    · rw [checkT_no (t := ⟨2, s⟩) (by unfold okT; simpa using hn)]
      have he : (s == []) = false := by simpa using hn
      clear hn
      unfold Ty.vals
      go_enter Try.func27, Try.ntmps27
      go_wp2
      go_ret
      exact ⟨rfl, (Ext.refl w).alloc _⟩
  · cases hn : nameB s
    · rw [checkT_no (t := ⟨3, s⟩) hn]
      have HN := Lib.hid hn
      clear hn
      unfold Ty.vals
      go_enter Try.func27, Try.ntmps27
      go_wp2_with fail
      refine (refIsName_any s _ hl).mono ?_
      rw [HN.out]
      rintro e w1 ⟨rfl, m, rfl⟩
      go_wp2
      go_ret
      exact ⟨rfl, ((Ext.refl w).alloc _).drewN m⟩
    · rw [checkT_yes (t := ⟨3, s⟩) hn]
      have HN := Lib.hid hn
      clear hn
      unfold Ty.vals
      go_enter Try.func27, Try.ntmps27
      go_wp2_with fail
      refine (refIsName_any s _ hl).mono ?_
      rw [HN.out]
      rintro e w1 ⟨rfl, m, rfl⟩
      go_wp2
      go_ret
      exact ⟨rfl, ((Ext.refl w).alloc _).drewN m⟩
  · by_cases hn : s = []
    · subst hn
      rw [checkT_yes (t := ⟨4, []⟩) rfl]
      unfold Ty.vals
      go_enter Try.func27, Try.ntmps27
      go_wp2
      go_ret
      exact ⟨rfl, (Ext.refl w).alloc _⟩
    · rw [checkT_no (t := ⟨4, s⟩) (by unfold okT; simpa using hn)]
      have he : (s == []) = false := by simpa using hn
      clear hn
      unfold Ty.vals
      go_enter Try.func27, Try.ntmps27
      go_wp2
      go_ret
      exact ⟨rfl, (Ext.refl w).alloc _⟩
  · by_cases hn : s = []
    · subst hn
      rw [checkT_yes (t := ⟨5, []⟩) rfl]
      unfold Ty.vals
      go_enter Try.func27, Try.ntmps27
      go_wp2
      go_ret
      exact ⟨rfl, (Ext.refl w).alloc _⟩
    · rw [checkT_no (t := ⟨5, s⟩) (by unfold okT; simpa using hn)]
      have he : (s == []) = false := by simpa using hn
      clear hn
      unfold Ty.vals
      go_enter Try.func27, Try.ntmps27
      go_wp2
      go_ret
      exact ⟨rfl, (Ext.refl w).alloc _⟩
  · cases hn : nameB s
    · rw [checkT_no (t := ⟨6, s⟩) hn]
      have HN := Lib.hid hn
      clear hn
      unfold Ty.vals
      go_enter Try.func27, Try.ntmps27
      go_wp2_with fail
      refine (refIsName_any s _ hl).mono ?_
      rw [HN.out]
      rintro e w1 ⟨rfl, m, rfl⟩
      go_wp2
      go_ret
      exact ⟨rfl, ((Ext.refl w).alloc _).drewN m⟩
    · rw [checkT_yes (t := ⟨6, s⟩) hn]
      have HN := Lib.hid hn
      clear hn
      unfold Ty.vals
      go_enter Try.func27, Try.ntmps27
      go_wp2_with fail
      refine (refIsName_any s _ hl).mono ?_
      rw [HN.out]
      rintro e w1 ⟨rfl, m, rfl⟩
      go_wp2
      go_ret
      exact ⟨rfl, ((Ext.refl w).alloc _).drewN m⟩
  · rw [checkT_no (okT_odd n1 n2 n3 n4 n5 n6)]
    unfold Ty.vals
    go_enter Try.func27, Try.ntmps27
    go_wp2
    go_ret
    exact ⟨rfl, (Ext.refl w).alloc _⟩
/-- How many words a value of a type takes; of which class it is. -/
def wordsT (t : Ty) : Int := if t.k = 2 then 2 else if t.k = 1 ∨ 3 ≤ t.k ∧ t.k ≤ 6 then 1 else 0
def valT (t : Ty) : Int := if t.k = 1 then 1 else if t.k = 2 then 2 else if 3 ≤ t.k ∧ t.k ≤ 6 then 3 else 0
theorem wordsT_1 (s : List UInt8) : wordsT ⟨1, s⟩ = 1 := rfl
theorem wordsT_2 (s : List UInt8) : wordsT ⟨2, s⟩ = 2 := rfl
theorem wordsT_3 (s : List UInt8) : wordsT ⟨3, s⟩ = 1 := rfl
theorem wordsT_4 (s : List UInt8) : wordsT ⟨4, s⟩ = 1 := rfl
theorem wordsT_5 (s : List UInt8) : wordsT ⟨5, s⟩ = 1 := rfl
theorem wordsT_6 (s : List UInt8) : wordsT ⟨6, s⟩ = 1 := rfl
theorem wordsT_0 {k : Int} {s : List UInt8} (h1 : (k == 1) = false) (h2 : (k == 2) = false) (h3 : (k == 3) = false) (h4 : (k == 4) = false) (h5 : (k == 5) = false) (h6 : (k == 6) = false) : wordsT ⟨k, s⟩ = 0 := by
  simp only [beq_eq_false_iff_ne, ne_eq] at h1 h2 h3 h4 h5 h6
  unfold wordsT
  simp only
  rw [if_neg h2, if_neg (by omega)]
theorem valT_1 (s : List UInt8) : valT ⟨1, s⟩ = 1 := rfl
theorem valT_2 (s : List UInt8) : valT ⟨2, s⟩ = 2 := rfl
theorem valT_3 (s : List UInt8) : valT ⟨3, s⟩ = 3 := rfl
theorem valT_4 (s : List UInt8) : valT ⟨4, s⟩ = 3 := rfl
theorem valT_5 (s : List UInt8) : valT ⟨5, s⟩ = 3 := rfl
theorem valT_6 (s : List UInt8) : valT ⟨6, s⟩ = 3 := rfl
theorem valT_0 {k : Int} {s : List UInt8} (h1 : (k == 1) = false) (h2 : (k == 2) = false) (h3 : (k == 3) = false) (h4 : (k == 4) = false) (h5 : (k == 5) = false) (h6 : (k == 6) = false) : valT ⟨k, s⟩ = 0 := by
  simp only [beq_eq_false_iff_ne, ne_eq] at h1 h2 h3 h4 h5 h6
  unfold valT
  simp only
  rw [if_neg h1, if_neg h2, if_neg (by omega)]
set_option maxHeartbeats 8000000 in
theorem refWords_any (t : Ty) (w : World) :
    Calls Try.prog 29 #[.agg t.vals] w fun e w' => e = .returned (.int .i64 (wordsT t)) ∧ Ext w w' := by
  obtain ⟨k, s⟩ := t
  have hsz : (bs s).size = s.length := rfl
  rcases kinds k with rfl | rfl | rfl | rfl | rfl | rfl | ⟨n1, n2, n3, n4, n5, n6, n7⟩
  · rw [wordsT_1]
    unfold Ty.vals
    go_enter Try.func29, Try.ntmps29
    go_wp2
    go_ret
    exact ⟨rfl, (Ext.refl w).alloc _⟩
  · rw [wordsT_2]
    unfold Ty.vals
    go_enter Try.func29, Try.ntmps29
    go_wp2
    go_ret
    exact ⟨rfl, (Ext.refl w).alloc _⟩
  · rw [wordsT_3]
    unfold Ty.vals
    go_enter Try.func29, Try.ntmps29
    go_wp2
    go_ret
    exact ⟨rfl, (Ext.refl w).alloc _⟩
  · rw [wordsT_4]
    unfold Ty.vals
    go_enter Try.func29, Try.ntmps29
    go_wp2
    go_ret
    exact ⟨rfl, (Ext.refl w).alloc _⟩
  · rw [wordsT_5]
    unfold Ty.vals
    go_enter Try.func29, Try.ntmps29
    go_wp2
    go_ret
    exact ⟨rfl, (Ext.refl w).alloc _⟩
  · rw [wordsT_6]
    unfold Ty.vals
    go_enter Try.func29, Try.ntmps29
    go_wp2
    go_ret
    exact ⟨rfl, (Ext.refl w).alloc _⟩
  · rw [wordsT_0 n1 n2 n3 n4 n5 n6]
    unfold Ty.vals
    go_enter Try.func29, Try.ntmps29
    rcases n7 with n7 | n7 <;> (go_wp2; go_ret; exact ⟨rfl, (Ext.refl w).alloc _⟩)
set_option maxHeartbeats 8000000 in
theorem refVal_any (t : Ty) (w : World) :
    Calls Try.prog 31 #[.agg t.vals] w fun e w' => e = .returned (.int .i64 (valT t)) ∧ Ext w w' := by
  obtain ⟨k, s⟩ := t
  have hsz : (bs s).size = s.length := rfl
  rcases kinds k with rfl | rfl | rfl | rfl | rfl | rfl | ⟨n1, n2, n3, n4, n5, n6, n7⟩
  · rw [valT_1]
    unfold Ty.vals
    go_enter Try.func31, Try.ntmps31
    go_wp2
    go_ret
    exact ⟨rfl, (Ext.refl w).alloc _⟩
  · rw [valT_2]
    unfold Ty.vals
    go_enter Try.func31, Try.ntmps31
    go_wp2
    go_ret
    exact ⟨rfl, (Ext.refl w).alloc _⟩
  · rw [valT_3]
    unfold Ty.vals
    go_enter Try.func31, Try.ntmps31
    go_wp2
    go_ret
    exact ⟨rfl, (Ext.refl w).alloc _⟩
  · rw [valT_4]
    unfold Ty.vals
    go_enter Try.func31, Try.ntmps31
    go_wp2
    go_ret
    exact ⟨rfl, (Ext.refl w).alloc _⟩
  · rw [valT_5]
    unfold Ty.vals
    go_enter Try.func31, Try.ntmps31
    go_wp2
    go_ret
    exact ⟨rfl, (Ext.refl w).alloc _⟩
  · rw [valT_6]
    unfold Ty.vals
    go_enter Try.func31, Try.ntmps31
    go_wp2
    go_ret
    exact ⟨rfl, (Ext.refl w).alloc _⟩
  · rw [valT_0 n1 n2 n3 n4 n5 n6]
    unfold Ty.vals
    go_enter Try.func31, Try.ntmps31
    rcases n7 with n7 | n7 <;> (go_wp2; go_ret; exact ⟨rfl, (Ext.refl w).alloc _⟩)
/-- What an array holds; an array of such. -/
def elemT (t : Ty) : Ty × Bool := if t.k = 4 ∨ t.k = 5 ∨ t.k = 6 then (⟨t.k - 3, t.s⟩, true) else (t0, false)
def overT (t : Ty) : Ty × Bool := if t.k = 1 ∨ t.k = 2 ∨ t.k = 3 then (⟨t.k + 3, t.s⟩, true) else (t0, false)
theorem elemT_1 (s : List UInt8) : elemT ⟨1, s⟩ = (t0, false) := rfl
theorem elemT_2 (s : List UInt8) : elemT ⟨2, s⟩ = (t0, false) := rfl
theorem elemT_3 (s : List UInt8) : elemT ⟨3, s⟩ = (t0, false) := rfl
theorem elemT_4 (s : List UInt8) : elemT ⟨4, s⟩ = (⟨1, s⟩, true) := rfl
theorem elemT_5 (s : List UInt8) : elemT ⟨5, s⟩ = (⟨2, s⟩, true) := rfl
theorem elemT_6 (s : List UInt8) : elemT ⟨6, s⟩ = (⟨3, s⟩, true) := rfl
theorem elemT_0 {k : Int} {s : List UInt8} (h1 : (k == 1) = false) (h2 : (k == 2) = false) (h3 : (k == 3) = false) (h4 : (k == 4) = false) (h5 : (k == 5) = false) (h6 : (k == 6) = false) : elemT ⟨k, s⟩ = (t0, false) := by
  simp only [beq_eq_false_iff_ne, ne_eq] at h1 h2 h3 h4 h5 h6
  unfold elemT
  rw [if_neg (by simp only; omega)]
theorem overT_1 (s : List UInt8) : overT ⟨1, s⟩ = (⟨4, s⟩, true) := rfl
theorem overT_2 (s : List UInt8) : overT ⟨2, s⟩ = (⟨5, s⟩, true) := rfl
theorem overT_3 (s : List UInt8) : overT ⟨3, s⟩ = (⟨6, s⟩, true) := rfl
theorem overT_4 (s : List UInt8) : overT ⟨4, s⟩ = (t0, false) := rfl
theorem overT_5 (s : List UInt8) : overT ⟨5, s⟩ = (t0, false) := rfl
theorem overT_6 (s : List UInt8) : overT ⟨6, s⟩ = (t0, false) := rfl
theorem overT_0 {k : Int} {s : List UInt8} (h1 : (k == 1) = false) (h2 : (k == 2) = false) (h3 : (k == 3) = false) (h4 : (k == 4) = false) (h5 : (k == 5) = false) (h6 : (k == 6) = false) : overT ⟨k, s⟩ = (t0, false) := by
  simp only [beq_eq_false_iff_ne, ne_eq] at h1 h2 h3 h4 h5 h6
  unfold overT
  rw [if_neg (by simp only; omega)]
set_option maxHeartbeats 8000000 in
theorem refElem_any (t : Ty) (w : World) :
    Calls Try.prog 23 #[.agg t.vals] w fun e w' => e = .returned (.tuple #[.agg (elemT t).1.vals, .bool (elemT t).2]) ∧ Ext w w' := by
  obtain ⟨k, s⟩ := t
  rcases kinds k with rfl | rfl | rfl | rfl | rfl | rfl | ⟨n1, n2, n3, n4, n5, n6, n7⟩
  · rw [elemT_1]
    unfold Ty.vals
    go_enter Try.func23, Try.ntmps23
    go_wp2
    refine bodyPost_ret (v := .tuple #[.agg (Ty.vals t0), .bool false]) (by unfold Ty.vals; simp [results, Try.results23, go_sem]; try exact ⟨rfl, rfl⟩) rfl ⟨rfl, ?_⟩
    first | exact Ext.refl w | exact (Ext.refl w).alloc _ | exact ((Ext.refl w).alloc _).alloc _ | exact (((Ext.refl w).alloc _).alloc _).alloc _
  · rw [elemT_2]
    unfold Ty.vals
    go_enter Try.func23, Try.ntmps23
    go_wp2
    refine bodyPost_ret (v := .tuple #[.agg (Ty.vals t0), .bool false]) (by unfold Ty.vals; simp [results, Try.results23, go_sem]; try exact ⟨rfl, rfl⟩) rfl ⟨rfl, ?_⟩
    first | exact Ext.refl w | exact (Ext.refl w).alloc _ | exact ((Ext.refl w).alloc _).alloc _ | exact (((Ext.refl w).alloc _).alloc _).alloc _
  · rw [elemT_3]
    unfold Ty.vals
    go_enter Try.func23, Try.ntmps23
    go_wp2
    refine bodyPost_ret (v := .tuple #[.agg (Ty.vals t0), .bool false]) (by unfold Ty.vals; simp [results, Try.results23, go_sem]; try exact ⟨rfl, rfl⟩) rfl ⟨rfl, ?_⟩
    first | exact Ext.refl w | exact (Ext.refl w).alloc _ | exact ((Ext.refl w).alloc _).alloc _ | exact (((Ext.refl w).alloc _).alloc _).alloc _
  · rw [elemT_4]
    unfold Ty.vals
    go_enter Try.func23, Try.ntmps23
    go_wp2
    refine bodyPost_ret (v := .tuple #[.agg (Ty.vals ⟨1, s⟩), .bool true]) (by unfold Ty.vals; simp [results, Try.results23, go_sem]; try exact ⟨rfl, rfl⟩) rfl ⟨rfl, ?_⟩
    first | exact Ext.refl w | exact (Ext.refl w).alloc _ | exact ((Ext.refl w).alloc _).alloc _ | exact (((Ext.refl w).alloc _).alloc _).alloc _
  · rw [elemT_5]
    unfold Ty.vals
    go_enter Try.func23, Try.ntmps23
    go_wp2
    refine bodyPost_ret (v := .tuple #[.agg (Ty.vals ⟨2, s⟩), .bool true]) (by unfold Ty.vals; simp [results, Try.results23, go_sem]; try exact ⟨rfl, rfl⟩) rfl ⟨rfl, ?_⟩
    first | exact Ext.refl w | exact (Ext.refl w).alloc _ | exact ((Ext.refl w).alloc _).alloc _ | exact (((Ext.refl w).alloc _).alloc _).alloc _
  · rw [elemT_6]
    unfold Ty.vals
    go_enter Try.func23, Try.ntmps23
    go_wp2
    refine bodyPost_ret (v := .tuple #[.agg (Ty.vals ⟨3, s⟩), .bool true]) (by unfold Ty.vals; simp [results, Try.results23, go_sem]; try exact ⟨rfl, rfl⟩) rfl ⟨rfl, ?_⟩
    first | exact Ext.refl w | exact (Ext.refl w).alloc _ | exact ((Ext.refl w).alloc _).alloc _ | exact (((Ext.refl w).alloc _).alloc _).alloc _
  · rw [elemT_0 n1 n2 n3 n4 n5 n6]
    unfold Ty.vals
    go_enter Try.func23, Try.ntmps23
    go_wp2
    refine bodyPost_ret (v := .tuple #[.agg (Ty.vals t0), .bool false]) (by unfold Ty.vals; simp [results, Try.results23, go_sem]; try exact ⟨rfl, rfl⟩) rfl ⟨rfl, ?_⟩
    first | exact Ext.refl w | exact (Ext.refl w).alloc _ | exact ((Ext.refl w).alloc _).alloc _ | exact (((Ext.refl w).alloc _).alloc _).alloc _
set_option maxHeartbeats 8000000 in
theorem refOver_any (t : Ty) (w : World) :
    Calls Try.prog 25 #[.agg t.vals] w fun e w' => e = .returned (.tuple #[.agg (overT t).1.vals, .bool (overT t).2]) ∧ Ext w w' := by
  obtain ⟨k, s⟩ := t
  rcases kinds k with rfl | rfl | rfl | rfl | rfl | rfl | ⟨n1, n2, n3, n4, n5, n6, n7⟩
  · rw [overT_1]
    unfold Ty.vals
    go_enter Try.func25, Try.ntmps25
    go_wp2
    refine bodyPost_ret (v := .tuple #[.agg (Ty.vals ⟨4, s⟩), .bool true]) (by unfold Ty.vals; simp [results, Try.results25, go_sem]; try exact ⟨rfl, rfl⟩) rfl ⟨rfl, ?_⟩
    first | exact Ext.refl w | exact (Ext.refl w).alloc _ | exact ((Ext.refl w).alloc _).alloc _ | exact (((Ext.refl w).alloc _).alloc _).alloc _
  · rw [overT_2]
    unfold Ty.vals
    go_enter Try.func25, Try.ntmps25
    go_wp2
    refine bodyPost_ret (v := .tuple #[.agg (Ty.vals ⟨5, s⟩), .bool true]) (by unfold Ty.vals; simp [results, Try.results25, go_sem]; try exact ⟨rfl, rfl⟩) rfl ⟨rfl, ?_⟩
    first | exact Ext.refl w | exact (Ext.refl w).alloc _ | exact ((Ext.refl w).alloc _).alloc _ | exact (((Ext.refl w).alloc _).alloc _).alloc _
  · rw [overT_3]
    unfold Ty.vals
    go_enter Try.func25, Try.ntmps25
    go_wp2
    refine bodyPost_ret (v := .tuple #[.agg (Ty.vals ⟨6, s⟩), .bool true]) (by unfold Ty.vals; simp [results, Try.results25, go_sem]; try exact ⟨rfl, rfl⟩) rfl ⟨rfl, ?_⟩
    first | exact Ext.refl w | exact (Ext.refl w).alloc _ | exact ((Ext.refl w).alloc _).alloc _ | exact (((Ext.refl w).alloc _).alloc _).alloc _
  · rw [overT_4]
    unfold Ty.vals
    go_enter Try.func25, Try.ntmps25
    go_wp2
    refine bodyPost_ret (v := .tuple #[.agg (Ty.vals t0), .bool false]) (by unfold Ty.vals; simp [results, Try.results25, go_sem]; try exact ⟨rfl, rfl⟩) rfl ⟨rfl, ?_⟩
    first | exact Ext.refl w | exact (Ext.refl w).alloc _ | exact ((Ext.refl w).alloc _).alloc _ | exact (((Ext.refl w).alloc _).alloc _).alloc _
  · rw [overT_5]
    unfold Ty.vals
    go_enter Try.func25, Try.ntmps25
    go_wp2
    refine bodyPost_ret (v := .tuple #[.agg (Ty.vals t0), .bool false]) (by unfold Ty.vals; simp [results, Try.results25, go_sem]; try exact ⟨rfl, rfl⟩) rfl ⟨rfl, ?_⟩
    first | exact Ext.refl w | exact (Ext.refl w).alloc _ | exact ((Ext.refl w).alloc _).alloc _ | exact (((Ext.refl w).alloc _).alloc _).alloc _
  · rw [overT_6]
    unfold Ty.vals
    go_enter Try.func25, Try.ntmps25
    go_wp2
    refine bodyPost_ret (v := .tuple #[.agg (Ty.vals t0), .bool false]) (by unfold Ty.vals; simp [results, Try.results25, go_sem]; try exact ⟨rfl, rfl⟩) rfl ⟨rfl, ?_⟩
    first | exact Ext.refl w | exact (Ext.refl w).alloc _ | exact ((Ext.refl w).alloc _).alloc _ | exact (((Ext.refl w).alloc _).alloc _).alloc _
  · rw [overT_0 n1 n2 n3 n4 n5 n6]
    unfold Ty.vals
    go_enter Try.func25, Try.ntmps25
    go_wp2
    refine bodyPost_ret (v := .tuple #[.agg (Ty.vals t0), .bool false]) (by unfold Ty.vals; simp [results, Try.results25, go_sem]; try exact ⟨rfl, rfl⟩) rfl ⟨rfl, ?_⟩
    first | exact Ext.refl w | exact (Ext.refl w).alloc _ | exact ((Ext.refl w).alloc _).alloc _ | exact (((Ext.refl w).alloc _).alloc _).alloc _
end Go.Proofs.Ytibcaienaejgpaa
