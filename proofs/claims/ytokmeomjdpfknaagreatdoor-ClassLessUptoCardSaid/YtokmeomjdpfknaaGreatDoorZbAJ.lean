/- Several texts of this proof, one behind the other. -/
import Derived.Test.YtokmeomjdpfknaaGreatDoorZbAI
import Derived.Test.YtokmeomjdpfknaaGreatDoorZbAD
namespace Go.Proofs.YtokmeomjdpfknaaGreatDoor
open Go.RowKit
set_option linter.unusedVariables false

theorem flat_leI {α : Type} {f : α → List Int} {b : Nat} : ∀ {l : List α}, (∀ x ∈ l, (f x).length ≤ b) → (l.flatMap f).length ≤ l.length * b := by
  intro l
  induction l with
  | nil => intro _; simp
  | cons x l ih =>
    intro h
    rw [List.flatMap_cons, List.length_append, List.length_cons, Nat.add_mul]
    have := h x (List.mem_cons_self ..)
    have := ih fun y hy => h y (List.mem_cons_of_mem _ hy)
    omega
theorem flat_takeG {α : Type} {f : α → List Int} {l : List α} {k : Nat} {x : α} (h : l[k]? = some x) : (l.take (k + 1)).flatMap f = (l.take k).flatMap f ++ f x := by
  obtain ⟨hk, rfl⟩ := List.getElem?_eq_some_iff.1 h
  rw [List.take_succ_eq_append_getElem hk, List.flatMap_append]
  simp
set_option maxHeartbeats 2000000 in
theorem whandler_any (w0 w : World) (g : Nat) (l : List Int) (x : Hd) (h : WR w0 w g l) (hx : HdOk x) (hz : l.length + 32 ≤ 140737488355328) :
    Calls Tryz.prog 121 #[.pointer (some ⟨g, 0, none⟩), .agg x.vals] w (WRet w0 w g (l ++ hdZ x)) := by
  obtain ⟨a, b, c, d⟩ := x
  obtain ⟨h1, h2, h3, h4⟩ := hx
  simp only at h1 h2 h3 h4
  have e : ([a, b, c, d] : List Int).flatMap nu = hdZ ⟨a, b, c, d⟩ := by simp [hdZ]
  have HN := Lib.hid (numbers_any w0 ((w.alloc (.cells #[.int .i64 a, .int .i64 b, .int .i64 c, .int .i64 d] 58)).alloc (.cells #[.int .i64 a, .int .i64 b, .int .i64 c, .int .i64 d] 3)) g l [a, b, c, d] (w.heap.size + 1) 4 rfl (h.ext (((Ext.refl w).alloc _).alloc _)) (fun n hn => by simp at hn; rcases hn with rfl | rfl | rfl | rfl <;> assumption) (by have := BK.new (w.alloc (.cells #[.int .i64 a, .int .i64 b, .int .i64 c, .int .i64 d] 58)) #[.int .i64 a, .int .i64 b, .int .i64 c, .int .i64 d] 3; simpa [BK] using this) (by simp; omega))
  rw [e] at HN
  have K := Lib.hid (Kp.ext (((Ext.refl w).alloc (.cells #[.int .i64 a, .int .i64 b, .int .i64 c, .int .i64 d] 58)).alloc (.cells #[.int .i64 a, .int .i64 b, .int .i64 c, .int .i64 d] 3)))
  obtain ⟨L, hL⟩ : ∃ L, l ++ hdZ ⟨a, b, c, d⟩ = L := ⟨_, rfl⟩
  rw [hL] at HN ⊢
  unfold Hd.vals
  clear h h1 h2 h3 h4 e hL hz
  go_enter Tryz.func121, Tryz.ntmps121
  go_wp2_with fail
  refine HN.out.mono ?_
  rintro x w1 ⟨rfl, h1, k1⟩
  go_wp2
  refine bodyPost_ret (results_tmp0 rfl _ _ _) rfl ?_
  exact ⟨rfl, h1, K.out.trans k1⟩
set_option maxRecDepth 100000 in
set_option maxHeartbeats 2000000 in
theorem putS_any (w0 w : World) (g : Nat) (l : List Int) (fid : FuncId) (enc : ByteArray → List Int) (M : Nat) (v : Value) (xs : List ByteArray) (h : WR w0 w g l) (hr : ShS.Row w0 v xs) (hn : xs.length ≤ 256) (hz : l.length + 8 + xs.length * M ≤ 140737488355328) (hm : ∀ x ∈ xs, (enc x).length ≤ M)
    (hc : ∀ args W, (callFunc fid args).run Tryz.prog W = .ok (.enter fid args) W) (hone : ∀ W l x, x ∈ xs → WR w0 W g l → l.length + M ≤ 140737488355328 → Calls Tryz.prog fid #[.pointer (some ⟨g, 0, none⟩), .string x] W (WRet w0 W g (l ++ enc x))) :
    Calls Tryz.prog 65 #[.pointer (some ⟨g, 0, none⟩), v, .func (.func fid) #[.pointer (some ⟨g, 0, none⟩)] #[]] w (WRet w0 w g (l ++ lsZ enc xs)) := by
  have HR := Lib.hid hr
  have HN := Lib.hid (numbers_any w0 (w.alloc (.cells #[.int .i64 xs.length] 3)) g l [(xs.length : Int)] w.heap.size 1 rfl (h.ext ((Ext.refl w).alloc _)) (fun n hn => by rw [List.mem_singleton.1 hn]; exact ⟨by omega, by omega⟩) (BK.new w _ _) (by simp; omega))
  rw [one_flat] at HN
  have K0 := Lib.hid (Kp.ext ((Ext.refl w).alloc (.cells #[.int .i64 xs.length] 3)))
  have hl8 := nu_len (n := (xs.length : Int)) ⟨by omega, by omega⟩
  obtain ⟨A, c, rfl, hc0, hcm, -⟩ := hr.cut
  unfold maxLen at hcm
  obtain ⟨n, hnn⟩ : ∃ n, xs.length = n := ⟨_, rfl⟩
  have HNN := Lib.hid hnn
  have HZ := Lib.hid hz
  have HM := Lib.hid hm
  have HO := Lib.hid hone
  have HE : Hid (l ++ lsZ enc xs = (l ++ nu n) ++ xs.flatMap enc) := Lib.hid (by unfold lsZ; rw [hnn, List.append_assoc])
  rw [hnn] at HN K0 hc0 hl8 HR hn ⊢
  have HL8 := Lib.hid (show (l ++ nu n).length ≤ l.length + 8 by rw [List.length_append]; omega)
  obtain ⟨L0, hL0⟩ : ∃ L, l ++ nu (n : Int) = L := ⟨_, rfl⟩
  rw [hL0] at HN HE HL8
  obtain ⟨L, hL⟩ : ∃ L, l ++ lsZ enc xs = L := ⟨_, rfl⟩
  rw [hL] at HE ⊢
  clear h hr hz hm hone hnn hl8 hL0 hL
  go_enter Tryz.func65, Tryz.ntmps65
  go_wp2_with fail
  refine HN.out.mono ?_
  rintro x w1 ⟨rfl, h1, k1⟩
  have H1 := Lib.hid h1
  have K1 := Lib.hid (K0.out.trans k1)
  clear h1 k1
  go_wp2_with fail
  go_loopw [15] (fun i wr => ∃ (k : Nat), i = .int .i64 k ∧ k ≤ n ∧ Hid (WR w0 wr g (L0 ++ (xs.take k).flatMap enc)) ∧ Hid (Kp w wr)) (fun i _ => n - (intOf i).toNat)
  case atStart => exact ⟨0, rfl, by omega, Lib.hid (by simpa using H1.out), K1⟩
  case round =>
    obtain ⟨k, rfl, hk, HW, HK⟩ := hrel
    rename World => wo
    by_cases hlt : k < n
    · have hkl : k < xs.length := by have := HNN.out; omega
      obtain ⟨b, o, rfl, hat⟩ := rowS_at HR.out (by omega)
      have y0 := hat _ HW.out.ext0 k hkl
      have hbz : (L0 ++ (xs.take k).flatMap enc).length + M ≤ 140737488355328 := by
        have h1 := flat_leI (l := xs.take k) fun x hx => HM.out x (List.mem_of_mem_take hx)
        rw [List.length_take, Nat.min_eq_left (by omega)] at h1
        have h2 := HZ.out
        have h3 := HL8.out
        have h4 : (k + 1) * M ≤ xs.length * M := Nat.mul_le_mul_right _ hkl
        rw [Nat.add_mul] at h4
        rw [List.length_append]
        omega
      have hft := flat_takeG (f := enc) (gs_some hkl)
      have hmem : gs xs k ∈ xs := gs_mem hkl
      obtain ⟨x, hx⟩ : ∃ x, gs xs k = x := ⟨_, rfl⟩
      rw [hx] at y0 hft hmem 
      have HFT := Lib.hid hft
      have HC := Lib.hid (HO.out wo _ x hmem HW.out hbz)
      clear hat hx hkl hbz hft 
      go_wp2_with fail
      refine HC.out.mono ?_
      rintro e w2 ⟨rfl, h2, k2⟩
      have H2 := Lib.hid h2
      have K2 := Lib.hid (HK.out.trans k2)
      clear h2 k2
      go_wp2_with fail
      go_roundw
      case rel => exact ⟨k + 1, by go_num, by omega, Lib.hid (by rw [HFT.out, ← List.append_assoc]; exact H2.out), K2⟩
      case measure => simp [intOf]; omega
    · have HE2 := Lib.hid (show L0 ++ (xs.take k).flatMap enc = L by rw [List.take_of_length_le (by have := HNN.out; omega)]; exact HE.out.symm)
      go_wp2
      refine bodyPost_ret (results_tmp0 rfl _ _ _) rfl ?_
      exact ⟨rfl, by rw [← HE2.out]; exact HW.out, HK.out⟩
set_option maxRecDepth 100000 in
set_option maxHeartbeats 2000000 in
theorem putF_any (w0 w : World) (g : Nat) (l : List Int) (fid : FuncId) (enc : Fd → List Int) (M : Nat) (v : Value) (xs : List Fd) (h : WR w0 w g l) (hr : ShF.Row w0 v xs) (hn : xs.length ≤ 256) (hz : l.length + 8 + xs.length * M ≤ 140737488355328) (hm : ∀ x ∈ xs, (enc x).length ≤ M)
    (hc : ∀ args W, (callFunc fid args).run Tryz.prog W = .ok (.enter fid args) W) (hone : ∀ W l x, x ∈ xs → WR w0 W g l → l.length + M ≤ 140737488355328 → Calls Tryz.prog fid #[.pointer (some ⟨g, 0, none⟩), .agg x.vals] W (WRet w0 W g (l ++ enc x))) :
    Calls Tryz.prog 66 #[.pointer (some ⟨g, 0, none⟩), v, .func (.func fid) #[.pointer (some ⟨g, 0, none⟩)] #[]] w (WRet w0 w g (l ++ lsZ enc xs)) := by
  have HR := Lib.hid hr
  have HN := Lib.hid (numbers_any w0 (w.alloc (.cells #[.int .i64 xs.length] 3)) g l [(xs.length : Int)] w.heap.size 1 rfl (h.ext ((Ext.refl w).alloc _)) (fun n hn => by rw [List.mem_singleton.1 hn]; exact ⟨by omega, by omega⟩) (BK.new w _ _) (by simp; omega))
  rw [one_flat] at HN
  have K0 := Lib.hid (Kp.ext ((Ext.refl w).alloc (.cells #[.int .i64 xs.length] 3)))
  have hl8 := nu_len (n := (xs.length : Int)) ⟨by omega, by omega⟩
  obtain ⟨A, c, rfl, hc0, hcm, -⟩ := hr.cut
  unfold maxLen at hcm
  obtain ⟨n, hnn⟩ : ∃ n, xs.length = n := ⟨_, rfl⟩
  have HNN := Lib.hid hnn
  have HZ := Lib.hid hz
  have HM := Lib.hid hm
  have HO := Lib.hid hone
  have HE : Hid (l ++ lsZ enc xs = (l ++ nu n) ++ xs.flatMap enc) := Lib.hid (by unfold lsZ; rw [hnn, List.append_assoc])
  rw [hnn] at HN K0 hc0 hl8 HR hn ⊢
  have HL8 := Lib.hid (show (l ++ nu n).length ≤ l.length + 8 by rw [List.length_append]; omega)
  obtain ⟨L0, hL0⟩ : ∃ L, l ++ nu (n : Int) = L := ⟨_, rfl⟩
  rw [hL0] at HN HE HL8
  obtain ⟨L, hL⟩ : ∃ L, l ++ lsZ enc xs = L := ⟨_, rfl⟩
  rw [hL] at HE ⊢
  clear h hr hz hm hone hnn hl8 hL0 hL
  go_enter Tryz.func66, Tryz.ntmps66
  go_wp2_with fail
  refine HN.out.mono ?_
  rintro x w1 ⟨rfl, h1, k1⟩
  have H1 := Lib.hid h1
  have K1 := Lib.hid (K0.out.trans k1)
  clear h1 k1
  go_wp2_with fail
  go_loopw [15] (fun i wr => ∃ (k : Nat), i = .int .i64 k ∧ k ≤ n ∧ Hid (WR w0 wr g (L0 ++ (xs.take k).flatMap enc)) ∧ Hid (Kp w wr)) (fun i _ => n - (intOf i).toNat)
  case atStart => exact ⟨0, rfl, by omega, Lib.hid (by simpa using H1.out), K1⟩
  case round =>
    obtain ⟨k, rfl, hk, HW, HK⟩ := hrel
    rename World => wo
    by_cases hlt : k < n
    · have hkl : k < xs.length := by have := HNN.out; omega
      obtain ⟨b, o, rfl, hat⟩ := rowF_at HR.out (by omega)
      obtain ⟨y0, y1, y2, y3⟩ := hat _ HW.out.ext0 k hkl
      have hbz : (L0 ++ (xs.take k).flatMap enc).length + M ≤ 140737488355328 := by
        have h1 := flat_leI (l := xs.take k) fun x hx => HM.out x (List.mem_of_mem_take hx)
        rw [List.length_take, Nat.min_eq_left (by omega)] at h1
        have h2 := HZ.out
        have h3 := HL8.out
        have h4 : (k + 1) * M ≤ xs.length * M := Nat.mul_le_mul_right _ hkl
        rw [Nat.add_mul] at h4
        rw [List.length_append]
        omega
      have hft := flat_takeG (f := enc) (gf_some hkl)
      have hmem : gf xs k ∈ xs := gf_mem hkl
      obtain ⟨x, hx⟩ : ∃ x, gf xs k = x := ⟨_, rfl⟩
      rw [hx] at y0 y1 y2 y3 hft hmem 
      have HFT := Lib.hid hft
      have HC := Lib.hid (HO.out (wo.alloc (.cells #[.bool x.st, .string x.nm, .int .i64 x.ty.k, .string x.ty.s] 63)) _ x hmem (HW.out.ext ((Ext.refl wo).alloc _)) hbz)
      unfold Fd.vals at HC
      clear hat hx hkl hbz hft 
      go_wp2_with fail
      refine HC.out.mono ?_
      rintro e w2 ⟨rfl, h2, k2⟩
      have H2 := Lib.hid h2
      have K2 := Lib.hid ((HK.out.trans (Kp.ext ((Ext.refl wo).alloc (.cells #[.bool x.st, .string x.nm, .int .i64 x.ty.k, .string x.ty.s] 63)))).trans k2)
      clear h2 k2
      go_wp2_with fail
      go_roundw
      case rel => exact ⟨k + 1, by go_num, by omega, Lib.hid (by rw [HFT.out, ← List.append_assoc]; exact H2.out), K2⟩
      case measure => simp [intOf]; omega
    · have HE2 := Lib.hid (show L0 ++ (xs.take k).flatMap enc = L by rw [List.take_of_length_le (by have := HNN.out; omega)]; exact HE.out.symm)
      go_wp2
      refine bodyPost_ret (results_tmp0 rfl _ _ _) rfl ?_
      exact ⟨rfl, by rw [← HE2.out]; exact HW.out, HK.out⟩
set_option maxRecDepth 100000 in
set_option maxHeartbeats 2000000 in
theorem putH_any (w0 w : World) (g : Nat) (l : List Int) (fid : FuncId) (enc : Hd → List Int) (M : Nat) (v : Value) (xs : List Hd) (h : WR w0 w g l) (hr : ShH.Row w0 v xs) (hn : xs.length ≤ 256) (hz : l.length + 8 + xs.length * M ≤ 140737488355328) (hm : ∀ x ∈ xs, (enc x).length ≤ M)
    (hc : ∀ args W, (callFunc fid args).run Tryz.prog W = .ok (.enter fid args) W) (hone : ∀ W l x, x ∈ xs → WR w0 W g l → l.length + M ≤ 140737488355328 → Calls Tryz.prog fid #[.pointer (some ⟨g, 0, none⟩), .agg x.vals] W (WRet w0 W g (l ++ enc x))) :
    Calls Tryz.prog 120 #[.pointer (some ⟨g, 0, none⟩), v, .func (.func fid) #[.pointer (some ⟨g, 0, none⟩)] #[]] w (WRet w0 w g (l ++ lsZ enc xs)) := by
  have HR := Lib.hid hr
  have HN := Lib.hid (numbers_any w0 (w.alloc (.cells #[.int .i64 xs.length] 3)) g l [(xs.length : Int)] w.heap.size 1 rfl (h.ext ((Ext.refl w).alloc _)) (fun n hn => by rw [List.mem_singleton.1 hn]; exact ⟨by omega, by omega⟩) (BK.new w _ _) (by simp; omega))
  rw [one_flat] at HN
  have K0 := Lib.hid (Kp.ext ((Ext.refl w).alloc (.cells #[.int .i64 xs.length] 3)))
  have hl8 := nu_len (n := (xs.length : Int)) ⟨by omega, by omega⟩
  obtain ⟨A, c, rfl, hc0, hcm, -⟩ := hr.cut
  unfold maxLen at hcm
  obtain ⟨n, hnn⟩ : ∃ n, xs.length = n := ⟨_, rfl⟩
  have HNN := Lib.hid hnn
  have HZ := Lib.hid hz
  have HM := Lib.hid hm
  have HO := Lib.hid hone
  have HE : Hid (l ++ lsZ enc xs = (l ++ nu n) ++ xs.flatMap enc) := Lib.hid (by unfold lsZ; rw [hnn, List.append_assoc])
  rw [hnn] at HN K0 hc0 hl8 HR hn ⊢
  have HL8 := Lib.hid (show (l ++ nu n).length ≤ l.length + 8 by rw [List.length_append]; omega)
  obtain ⟨L0, hL0⟩ : ∃ L, l ++ nu (n : Int) = L := ⟨_, rfl⟩
  rw [hL0] at HN HE HL8
  obtain ⟨L, hL⟩ : ∃ L, l ++ lsZ enc xs = L := ⟨_, rfl⟩
  rw [hL] at HE ⊢
  clear h hr hz hm hone hnn hl8 hL0 hL
  go_enter Tryz.func120, Tryz.ntmps120
  go_wp2_with fail
  refine HN.out.mono ?_
  rintro x w1 ⟨rfl, h1, k1⟩
  have H1 := Lib.hid h1
  have K1 := Lib.hid (K0.out.trans k1)
  clear h1 k1
  go_wp2_with fail
  go_loopw [15] (fun i wr => ∃ (k : Nat), i = .int .i64 k ∧ k ≤ n ∧ Hid (WR w0 wr g (L0 ++ (xs.take k).flatMap enc)) ∧ Hid (Kp w wr)) (fun i _ => n - (intOf i).toNat)
  case atStart => exact ⟨0, rfl, by omega, Lib.hid (by simpa using H1.out), K1⟩
  case round =>
    obtain ⟨k, rfl, hk, HW, HK⟩ := hrel
    rename World => wo
    by_cases hlt : k < n
    · have hkl : k < xs.length := by have := HNN.out; omega
      obtain ⟨b, o, rfl, hat⟩ := rowH_at HR.out (by omega)
      obtain ⟨y0, y1, y2, y3⟩ := hat _ HW.out.ext0 k hkl
      have hbz : (L0 ++ (xs.take k).flatMap enc).length + M ≤ 140737488355328 := by
        have h1 := flat_leI (l := xs.take k) fun x hx => HM.out x (List.mem_of_mem_take hx)
        rw [List.length_take, Nat.min_eq_left (by omega)] at h1
        have h2 := HZ.out
        have h3 := HL8.out
        have h4 : (k + 1) * M ≤ xs.length * M := Nat.mul_le_mul_right _ hkl
        rw [Nat.add_mul] at h4
        rw [List.length_append]
        omega
      have hft := flat_takeG (f := enc) (gh_some hkl)
      have hmem : gh xs k ∈ xs := gh_mem hkl
      obtain ⟨x, hx⟩ : ∃ x, gh xs k = x := ⟨_, rfl⟩
      rw [hx] at y0 y1 y2 y3 hft hmem 
      have HFT := Lib.hid hft
      have HC := Lib.hid (HO.out (wo.alloc (.cells #[.int .i64 x.f, .int .i64 x.t, .int .i64 x.a, .int .i64 x.c] 58)) _ x hmem (HW.out.ext ((Ext.refl wo).alloc _)) hbz)
      unfold Hd.vals at HC
      clear hat hx hkl hbz hft 
      go_wp2_with fail
      refine HC.out.mono ?_
      rintro e w2 ⟨rfl, h2, k2⟩
      have H2 := Lib.hid h2
      have K2 := Lib.hid ((HK.out.trans (Kp.ext ((Ext.refl wo).alloc (.cells #[.int .i64 x.f, .int .i64 x.t, .int .i64 x.a, .int .i64 x.c] 58)))).trans k2)
      clear h2 k2
      go_wp2_with fail
      go_roundw
      case rel => exact ⟨k + 1, by go_num, by omega, Lib.hid (by rw [HFT.out, ← List.append_assoc]; exact H2.out), K2⟩
      case measure => simp [intOf]; omega
    · have HE2 := Lib.hid (show L0 ++ (xs.take k).flatMap enc = L by rw [List.take_of_length_le (by have := HNN.out; omega)]; exact HE.out.symm)
      go_wp2
      refine bodyPost_ret (results_tmp0 rfl _ _ _) rfl ?_
      exact ⟨rfl, by rw [← HE2.out]; exact HW.out, HK.out⟩
set_option maxRecDepth 100000 in
set_option maxHeartbeats 2000000 in
theorem putM_any (w0 w : World) (g : Nat) (l : List Int) (fid : FuncId) (enc : Me → List Int) (M : Nat) (v : Value) (xs : List Me) (h : WR w0 w g l) (hr : RowM w0 v xs) (hn : xs.length ≤ 256) (hz : l.length + 8 + xs.length * M ≤ 140737488355328) (hm : ∀ x ∈ xs, (enc x).length ≤ M)
    (hc : ∀ args W, (callFunc fid args).run Tryz.prog W = .ok (.enter fid args) W) (hone : ∀ W l x va vc vh, x ∈ xs → MeAt w0 x va vc vh → WR w0 W g l → l.length + M ≤ 140737488355328 → Calls Tryz.prog fid #[.pointer (some ⟨g, 0, none⟩), .agg (x.vals va vc vh)] W (WRet w0 W g (l ++ enc x))) :
    Calls Tryz.prog 68 #[.pointer (some ⟨g, 0, none⟩), v, .func (.func fid) #[.pointer (some ⟨g, 0, none⟩)] #[]] w (WRet w0 w g (l ++ lsZ enc xs)) := by
  have HR := Lib.hid hr
  have HN := Lib.hid (numbers_any w0 (w.alloc (.cells #[.int .i64 xs.length] 3)) g l [(xs.length : Int)] w.heap.size 1 rfl (h.ext ((Ext.refl w).alloc _)) (fun n hn => by rw [List.mem_singleton.1 hn]; exact ⟨by omega, by omega⟩) (BK.new w _ _) (by simp; omega))
  rw [one_flat] at HN
  have K0 := Lib.hid (Kp.ext ((Ext.refl w).alloc (.cells #[.int .i64 xs.length] 3)))
  have hl8 := nu_len (n := (xs.length : Int)) ⟨by omega, by omega⟩
  obtain ⟨A, c, rfl, hc0, hcm, -⟩ := hr.cut
  unfold maxLen at hcm
  obtain ⟨n, hnn⟩ : ∃ n, xs.length = n := ⟨_, rfl⟩
  have HNN := Lib.hid hnn
  have HZ := Lib.hid hz
  have HM := Lib.hid hm
  have HO := Lib.hid hone
  have HE : Hid (l ++ lsZ enc xs = (l ++ nu n) ++ xs.flatMap enc) := Lib.hid (by unfold lsZ; rw [hnn, List.append_assoc])
  rw [hnn] at HN K0 hc0 hl8 HR hn ⊢
  have HL8 := Lib.hid (show (l ++ nu n).length ≤ l.length + 8 by rw [List.length_append]; omega)
  obtain ⟨L0, hL0⟩ : ∃ L, l ++ nu (n : Int) = L := ⟨_, rfl⟩
  rw [hL0] at HN HE HL8
  obtain ⟨L, hL⟩ : ∃ L, l ++ lsZ enc xs = L := ⟨_, rfl⟩
  rw [hL] at HE ⊢
  clear h hr hz hm hone hnn hl8 hL0 hL
  go_enter Tryz.func68, Tryz.ntmps68
  go_wp2_with fail
  refine HN.out.mono ?_
  rintro x w1 ⟨rfl, h1, k1⟩
  have H1 := Lib.hid h1
  have K1 := Lib.hid (K0.out.trans k1)
  clear h1 k1
  go_wp2_with fail
  go_loopw [15] (fun i wr => ∃ (k : Nat), i = .int .i64 k ∧ k ≤ n ∧ Hid (WR w0 wr g (L0 ++ (xs.take k).flatMap enc)) ∧ Hid (Kp w wr)) (fun i _ => n - (intOf i).toNat)
  case atStart => exact ⟨0, rfl, by omega, Lib.hid (by simpa using H1.out), K1⟩
  case round =>
    obtain ⟨k, rfl, hk, HW, HK⟩ := hrel
    rename World => wo
    by_cases hlt : k < n
    · have hkl : k < xs.length := by have := HNN.out; omega
      obtain ⟨b, o, rfl, hat⟩ := HR.out.at (by omega)
      obtain ⟨va, vc, vh, hat⟩ := hat k hkl
      obtain ⟨⟨y0, y1, y2, y3, y4, y5, y6, y7, y8, y9⟩, -⟩ := hat _ HW.out.ext0
      have hme := (hat _ (Ext.refl w0)).2
      have q1 := oneCell_rowG hme.1
      have q2 := oneCell_row hme.2.1
      have q3 := oneCell_rowG hme.2.2
      have hbz : (L0 ++ (xs.take k).flatMap enc).length + M ≤ 140737488355328 := by
        have h1 := flat_leI (l := xs.take k) fun x hx => HM.out x (List.mem_of_mem_take hx)
        rw [List.length_take, Nat.min_eq_left (by omega)] at h1
        have h2 := HZ.out
        have h3 := HL8.out
        have h4 : (k + 1) * M ≤ xs.length * M := Nat.mul_le_mul_right _ hkl
        rw [Nat.add_mul] at h4
        rw [List.length_append]
        omega
      have hft := flat_takeG (f := enc) (gm_some hkl)
      have hmem : gm xs k ∈ xs := gm_mem hkl
      obtain ⟨x, hx⟩ : ∃ x, gm xs k = x := ⟨_, rfl⟩
      rw [hx] at y0 y1 y2 y3 y4 y6 y7 hft hmem hme
      have HFT := Lib.hid hft
      obtain ⟨Va, ca, rfl, -⟩ := (show ShT.Row w0 va x.args from hme.1).cut
      obtain ⟨Vc, cc, rfl, -⟩ := id (show Row w0 .u8 vc x.code from hme.2.1)
      obtain ⟨Vh, ch, rfl, -⟩ := (show ShH.Row w0 vh x.hs from hme.2.2).cut
      have HC := Lib.hid (HO.out (wo.alloc (.cells #[.bool x.st, .bool x.ab, .string x.nm, .int .i64 x.ret.k, .string x.ret.s, .slice Va x.args.length ca, .int .i64 x.sk, .int .i64 x.lo, .slice Vc x.code.length cc, .slice Vh x.hs.length ch] 47)) _ x _ _ _ hmem hme (HW.out.ext ((Ext.refl wo).alloc _)) hbz)
      unfold Me.vals at HC
      clear hat hx hkl hbz hft hme
      go_wp2_with fail
      refine HC.out.mono ?_
      rintro e w2 ⟨rfl, h2, k2⟩
      have H2 := Lib.hid h2
      have K2 := Lib.hid ((HK.out.trans (Kp.ext ((Ext.refl wo).alloc (.cells #[.bool x.st, .bool x.ab, .string x.nm, .int .i64 x.ret.k, .string x.ret.s, .slice Va x.args.length ca, .int .i64 x.sk, .int .i64 x.lo, .slice Vc x.code.length cc, .slice Vh x.hs.length ch] 47)))).trans k2)
      clear h2 k2
      go_wp2_with fail
      go_roundw
      case rel => exact ⟨k + 1, by go_num, by omega, Lib.hid (by rw [HFT.out, ← List.append_assoc]; exact H2.out), K2⟩
      case measure => simp [intOf]; omega
    · have HE2 := Lib.hid (show L0 ++ (xs.take k).flatMap enc = L by rw [List.take_of_length_le (by have := HNN.out; omega)]; exact HE.out.symm)
      go_wp2
      refine bodyPost_ret (results_tmp0 rfl _ _ _) rfl ?_
      exact ⟨rfl, by rw [← HE2.out]; exact HW.out, HK.out⟩
end Go.Proofs.YtokmeomjdpfknaaGreatDoor
namespace Go.Proofs.YtokmeomjdpfknaaGreatDoor
open Go.RowKit
set_option linter.unusedVariables false

theorem txA_name {s : ByteArray} (h : nmB s = true) : TX s ∧ s.size ≤ 64 ∧ (txA s).length ≤ 72 := by
  have h1 := nameB_size h
  have h2 : TX s := by unfold TX; omega
  have := txA_len s h2
  exact ⟨h2, h1, by omega⟩
theorem tx_type {t : Ty} (h : okT (tyD t) = true) : writeT (tyD t) = (textT (tyD t), 0) ∧ TX (bs (textT (tyD t))) ∧ (bs (textT (tyD t))).size ≤ 67 := by
  have h1 := textK_len h
  have e : (bs (textT (tyD t))).size = (textT (tyD t)).length := rfl
  refine ⟨by unfold writeT; rw [if_pos h], ?_, by omega⟩
  unfold TX
  omega
theorem tx_proto {m : Me} (h : checkP m.pr = 0) : writeP m.pr = (textP m.pr, 0) ∧ TX (bs (textP m.pr)) ∧ (bs (textP m.pr)).size ≤ 1141 := by
  have h1 := textPK_len h
  have e : (bs (textP m.pr)).size = (textP m.pr).length := rfl
  refine ⟨by unfold writeP; rw [if_pos h], ?_, by omega⟩
  unfold TX
  omega
theorem fdZ_len {f : Fd} (h : okFd f = true) : (fdZ f).length ≤ 160 := by
  unfold okFd at h
  rw [Bool.and_eq_true] at h
  have h1 := (txA_name h.1).2.2
  obtain ⟨-, h2, h3⟩ := tx_type h.2
  have h4 := txA_len _ h2
  have h5 := nu_len (flg_nn f.st).1
  unfold fdZ
  simp only [List.length_append]
  omega
set_option maxHeartbeats 2000000 in
theorem wfield_any (w0 w : World) (g : Nat) (l : List Int) (f : Fd) (h : WR w0 w g l) (ho : okFd f = true) (hr : TyOk f.ty) (hz : l.length + 160 ≤ 140737488355328) :
    Calls Tryz.prog 67 #[.pointer (some ⟨g, 0, none⟩), .agg f.vals] w (WRet w0 w g (l ++ fdZ f)) := by
  have hfl := fdZ_len ho
  unfold okFd at ho
  rw [Bool.and_eq_true] at ho
  obtain ⟨n1, n2, n3⟩ := txA_name ho.1
  obtain ⟨t1, t2, t3⟩ := tx_type ho.2
  have hfz : l ++ fdZ f = ((l ++ nu (flg f.st)) ++ txA f.nm) ++ txA (bs (textT (tyD f.ty))) := by unfold fdZ; simp only [List.append_assoc]
  have z1 := nu_len (flg_nn f.st).1
  have C1 := Lib.hid (mark_any w0 _ g l f.st (h.ext ((Ext.refl w).alloc (.cells f.vals 63))) (by omega))
  have C2 := Lib.hid (fun W (hW : WR w0 W g (l ++ nu (flg f.st))) => wtext_any w0 W g _ f.nm hW n1 (by rw [List.length_append]; omega))
  have C3 := Lib.hid (fun W => WriteType_k f.ty W hr)
  rw [t1] at C3
  have C4 := Lib.hid (fun W (hW : WR w0 W g ((l ++ nu (flg f.st)) ++ txA f.nm)) => wtext_any w0 W g _ (bs (textT (tyD f.ty))) hW t2 (by rw [List.length_append, List.length_append]; omega))
  have B0 := Lib.hid (BK.new w f.vals 63)
  have K0 := Lib.hid (Kp.ext ((Ext.refl w).alloc (.cells f.vals 63)))
  rw [← hfz] at C4
  obtain ⟨L3, hL3⟩ : ∃ L, l ++ fdZ f = L := ⟨_, rfl⟩
  obtain ⟨L2, hL2⟩ : ∃ L, (l ++ nu (flg f.st)) ++ txA f.nm = L := ⟨_, rfl⟩
  obtain ⟨L1, hL1⟩ : ∃ L, l ++ nu (flg f.st) = L := ⟨_, rfl⟩
  obtain ⟨tx, htx⟩ : ∃ x, bs (textT (tyD f.ty)) = x := ⟨_, rfl⟩
  rw [hL3] at C4 ⊢
  rw [hL2] at C2 C4
  rw [hL1] at C1 C2
  rw [htx] at C4
  simp only [htx] at C3
  clear h ho hr hz hfl n1 n2 n3 t1 t2 t3 hfz z1 hL1 hL2 hL3 htx
  obtain ⟨st, nm, ty⟩ := f
  obtain ⟨k, s⟩ := ty
  unfold Fd.vals at C1 B0 K0 ⊢
  simp only at C1 C2 C3 B0 K0 ⊢
  go_enter Tryz.func67, Tryz.ntmps67
  go_wp2_with fail
  refine C1.out.mono ?_
  rintro x w1 ⟨rfl, h1, k1⟩
  have B1 := Lib.hid (k1.2 _ _ _ B0.out (by decide) (by decide))
  have K1 := Lib.hid (K0.out.trans k1)
  have D2 := Lib.hid (C2.out w1 h1)
  have y1 : w1.cell? ⟨w.heap.size, 1, none⟩ = some (.string nm) := B1.out.cell 1
  clear h1 k1
  go_wp2_with fail
  refine D2.out.mono ?_
  rintro x w2 ⟨rfl, h2, k2⟩
  have B2 := Lib.hid (k2.2 _ _ _ B1.out (by decide) (by decide))
  have K2 := Lib.hid (K1.out.trans k2)
  have H2 := Lib.hid h2
  have y2 : w2.cell? ⟨w.heap.size, 2, none⟩ = some (.int .i64 k) := B2.out.cell 2
  have y3 : w2.cell? ⟨w.heap.size, 3, none⟩ = some (.string s) := B2.out.cell 3
  clear h2 k2 y1
  go_wp2_with fail
  refine (C3.out w2).mono ?_
  rintro x w3 ⟨rfl, x3⟩
  have D4 := Lib.hid (C4.out w3 (H2.out.ext x3))
  have K3 := Lib.hid (K2.out.trans (Kp.ext x3))
  clear x3 y2 y3
  go_wp2_with fail
  refine D4.out.mono ?_
  rintro x w4 ⟨rfl, h4, k4⟩
  go_wp2
  refine bodyPost_ret (results_tmp0 rfl _ _ _) rfl ?_
  exact ⟨rfl, h4, K3.out.trans k4⟩
theorem lsZ_len {α : Type} {f : α → List Int} {b : Nat} {l : List α} (h : ∀ x ∈ l, (f x).length ≤ b) (hn : l.length ≤ 256) : (lsZ f l).length ≤ 8 + l.length * b := by
  have h1 := flat_leI h
  have h2 := nu_len (n := (l.length : Int)) ⟨by omega, by omega⟩
  unfold lsZ
  rw [List.length_append]
  generalize l.length * b = Z at *
  omega
theorem hdZ_len {x : Hd} (h : HdOk x) : (hdZ x).length ≤ 32 := by
  obtain ⟨h1, h2, h3, h4⟩ := h
  have := nu_len h1
  have := nu_len h2
  have := nu_len h3
  have := nu_len h4
  unfold hdZ
  simp only [List.length_append]
  omega
theorem me_parts {pool : List Cst} {m : Me} (hp : pool.length ≤ 4096) (h : okMe pool m = true) (hf : Fit .u8 m.code) :
    nmB m.nm = true ∧ checkP m.pr = 0 ∧ (m.ab = false → NN m.sk ∧ NN m.lo ∧ m.code.length ≤ 8192 ∧ m.hs.length ≤ 256 ∧ ∀ h ∈ m.hs, HdOk h) := by
  unfold okMe at h
  rw [Bool.and_eq_true, Bool.and_eq_true, decide_eq_true_eq] at h
  obtain ⟨h1, h2, h3⟩ := h
  refine ⟨h1, h2, fun e => ?_⟩
  rw [e] at h3
  simp only [Bool.false_eq_true, if_false, decide_eq_true_eq] at h3
  exact checkZ_nums hf h3 hp
theorem meT_len {m : Me} (h : NN m.sk ∧ NN m.lo ∧ m.code.length ≤ 8192 ∧ m.hs.length ≤ 256 ∧ ∀ h ∈ m.hs, HdOk h) : (meT m).length ≤ 16424 := by
  obtain ⟨h1, h2, h3, h4, h5⟩ := h
  have a1 := nu_len h1
  have a2 := nu_len h2
  have a3 := nu_len (n := (m.code.length : Int)) ⟨by omega, by omega⟩
  have a4 : (lsZ hdZ m.hs).length ≤ 8 + m.hs.length * 32 := lsZ_len (f := hdZ) (fun x hx => hdZ_len (h5 x hx)) h4
  unfold meT
  simp only [List.length_append]
  omega
theorem meZ_len {pool : List Cst} {m : Me} (hp : pool.length ≤ 4096) (h : okMe pool m = true) (hf : Fit .u8 m.code) : (meZ m).length ≤ 18000 := by
  obtain ⟨h1, h2, h3⟩ := me_parts hp h hf
  have a1 := (txA_name h1).2.2
  obtain ⟨-, b1, b2⟩ := tx_proto h2
  have a2 := txA_len _ b1
  have a3 := nu_len (kdZ_nn m).1
  unfold meZ
  simp only [List.length_append]
  cases hab : m.ab
  · have := meT_len (h3 hab)
    simp only [Bool.false_eq_true, if_false]
    omega
  · simp only [if_true, List.length_nil]
    omega
end Go.Proofs.YtokmeomjdpfknaaGreatDoor
