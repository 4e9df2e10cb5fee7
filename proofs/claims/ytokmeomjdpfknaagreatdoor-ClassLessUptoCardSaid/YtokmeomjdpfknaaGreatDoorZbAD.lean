/- Several texts of this proof, one behind the other. -/
import Derived.Test.YtokmeomjdpfknaaGreatDoorZbY
import Derived.Test.YtokmeomjdpfknaaGreatDoorZbAC
import Derived.Test.YtokmeomjdpfknaaGreatDoorZbV
import Derived.Test.YtokmeomjdpfknaaGreatDoorZbB
namespace Go.Proofs.YtokmeomjdpfknaaGreatDoor
open Go.RowKit
set_option linter.unusedVariables false

def mst (i : Nat) : Int := if i = 0 then 64 else 256
def Most (w : World) : Prop := 0 < w.heap.size ∧ ∀ i, i < 4 → w.cell? ⟨0, i, none⟩ = some (.int .i64 (mst i))
theorem Most.ext {w w' : World} (h : Most w) (e : Ext w w') : Most w' := ⟨Nat.lt_of_lt_of_le h.1 e.size, fun i hi => (e.cell (p := ⟨_, i, none⟩) h.1).trans (h.2 i hi)⟩
theorem gs_mem {l : List ByteArray} {j : Nat} (h : j < l.length) : gs l j ∈ l := Shp.el_mem h
theorem gs_some {l : List ByteArray} {k : Nat} (h : k < l.length) : l[k]? = some (gs l k) := by unfold gs; rw [ShS.el_get h]; simp [h]
theorem gf_mem {l : List Fd} {j : Nat} (h : j < l.length) : gf l j ∈ l := Shp.el_mem h
theorem gf_some {l : List Fd} {k : Nat} (h : k < l.length) : l[k]? = some (gf l k) := by unfold gf; rw [ShF.el_get h]; simp [h]
theorem gm_some {l : List Me} {k : Nat} (h : k < l.length) : l[k]? = some (gm l k) := by rw [gm_get h]; simp [h]
theorem any_notK {α : Type} {s : List α} {p : α → Bool} : (!s.any fun t => !p t) = s.all p := by
  induction s with
  | nil => rfl
  | cons x s ih => rw [List.any_cons, List.all_cons, ← ih]; cases p x <;> simp
set_option maxRecDepth 100000 in
set_option maxHeartbeats 4000000 in
theorem indexS_any (fid : FuncId) (caps : Array Value) (p : ByteArray → Bool) (v : Value) (l : List ByteArray) (w : World) (h : ShS.Row w v l)
    (hc : ∀ args W, (callFunc fid args).run Tryz.prog W = .ok (.enter fid args) W)
    (hp : ∀ W, Ext w W → ∀ x ∈ l, Calls Tryz.prog fid (#[.string x] ++ caps) W fun e w' => e = .returned (.bool (p x)) ∧ Ext W w') :
    Calls Tryz.prog 167 #[v, .func (.func fid) #[] caps] w fun e w' => e = .returned (.int .i64 (idxP p l 0)) ∧ Ext w w' := by
  have H := Lib.hid h
  obtain ⟨A, c, rfl, hc0, hm, -⟩ := h.cut
  unfold maxLen at hm
  obtain ⟨n, hn⟩ : ∃ n, n = l.length := ⟨_, rfl⟩
  rw [← hn] at hc0 H ⊢
  have Hn := Lib.hid hn
  have HP := Lib.hid hp
  obtain ⟨F, hF⟩ : ∃ F, idxP p l 0 = F := ⟨_, rfl⟩
  have HF := Lib.hid hF
  rw [hF]
  clear hn h hp hF
  go_enter Tryz.func167, Tryz.ntmps167
  go_wp2
  go_loopw [8] (fun i wr => ∃ (k : Nat), i = .int .i64 k ∧ k ≤ n ∧ Hid (F = idxP p (l.drop k) k) ∧ Hid (Ext w wr)) (fun i _ => n - (intOf i).toNat)
  case atStart => exact ⟨0, rfl, by omega, Lib.hid HF.out.symm, Lib.hid (Ext.refl w)⟩
  case round =>
    obtain ⟨k, rfl, hk, HQ, HX⟩ := hrel
    by_cases hlt : k < n
    · have hkl : k < l.length := by have := Hn.out; omega
      obtain ⟨b, o, rfl, hat⟩ := rowS_at H.out (by omega)
      have y0 := hat _ HX.out k hkl
      have HC := Lib.hid (HP.out wr HX.out _ (gs_mem hkl))
      have hN : p (gs l k) = false → F = idxP p (l.drop (k + 1)) (k + 1) := fun e => HQ.out.trans (idxP_next (gs_some hkl) e)
      have hH : p (gs l k) = true → F = k := fun e => HQ.out.trans (idxP_here (gs_some hkl) e)
      obtain ⟨x, hx⟩ : ∃ x, gs l k = x := ⟨_, rfl⟩
      rw [hx] at y0 HC hN hH
      obtain ⟨r, hr⟩ : ∃ r, p x = r := ⟨_, rfl⟩
      rw [hr] at HC hN hH
      have HN := Lib.hid hN
      have HH := Lib.hid hH
      clear hat hx hkl hr hN hH
      go_wp2_with fail
      refine HC.out.mono ?_
      rintro e w1 ⟨rfl, x1⟩
      have X1 := Lib.hid x1
      clear x1
      cases r
      · have HE := Lib.hid (HN.out rfl)
        go_wp2_with fail
        go_roundw
        case rel => exact ⟨k + 1, by go_num, by omega, HE, Lib.hid (HX.out.trans X1.out)⟩
        case measure => simp [intOf]; omega
      · have HE := Lib.hid (HH.out rfl)
        go_wp2
        go_ret
        exact ⟨by rw [HE.out]; rfl, HX.out.trans X1.out⟩
    · have HE := Lib.hid (show F = -1 by rw [HQ.out, List.drop_of_length_le (by have := Hn.out; omega)]; rfl)
      go_wp2
      go_ret
      exact ⟨by rw [HE.out]; rfl, HX.out⟩
set_option maxRecDepth 100000 in
theorem containsS_any (fid : FuncId) (caps : Array Value) (p : ByteArray → Bool) (v : Value) (l : List ByteArray) (w : World) (h : ShS.Row w v l)
    (hc : ∀ args W, (callFunc fid args).run Tryz.prog W = .ok (.enter fid args) W)
    (hp : ∀ W, Ext w W → ∀ x ∈ l, Calls Tryz.prog fid (#[.string x] ++ caps) W fun e w' => e = .returned (.bool (p x)) ∧ Ext W w') :
    Calls Tryz.prog 130 #[v, .func (.func fid) #[] caps] w fun e w' => e = .returned (.bool (l.any p)) ∧ Ext w w' := by
  have HI := Lib.hid (indexS_any fid caps p v l w h hc hp)
  rw [← idxP_any (p := p) (l := l) (k := 0)]
  obtain ⟨A, c, rfl, -⟩ := h.cut
  obtain ⟨R, hR⟩ : ∃ R, idxP p l 0 = R := ⟨_, rfl⟩
  rw [hR] at HI ⊢
  clear hR h hp
  go_enter Tryz.func130, Tryz.ntmps130
  go_wp2_with fail
  refine HI.out.mono ?_
  rintro e w1 ⟨rfl, x1⟩
  go_wp2
  go_ret
  exact ⟨rfl, x1⟩
set_option maxRecDepth 100000 in
set_option maxHeartbeats 4000000 in
theorem notS_any (fid : FuncId) (caps : Array Value) (g : Nat) (x : ByteArray) (r : Bool) (w : World) (hf : One w g (.func (.func fid) #[] caps))
    (hc : ∀ args W, (callFunc fid args).run Tryz.prog W = .ok (.enter fid args) W)
    (hp : ∀ W, Ext w W → Calls Tryz.prog fid (#[.string x] ++ caps) W fun e w' => e = .returned (.bool r) ∧ Ext W w') :
    Calls Tryz.prog 131 (#[.string x] ++ #[.pointer (some ⟨g, 0, none⟩)]) w fun e w' => e = .returned (.bool (!r)) ∧ Ext w w' := by
  have HC := Lib.hid hp
  have y0 := hf.1
  have l0 := hf.2
  have n0 : ¬ g = w.heap.size := by omega
  clear hf hp
  go_enter Tryz.func131, Tryz.ntmps131
  go_wp2_with fail
  refine (HC.out _ (Ext.refl w)).mono ?_
  rintro e w1 ⟨rfl, x1⟩
  go_wp2
  go_ret
  exact ⟨rfl, x1⟩
set_option maxRecDepth 100000 in
set_option maxHeartbeats 4000000 in
theorem allS_any (fid : FuncId) (caps : Array Value) (p : ByteArray → Bool) (i : Nat) (hi : i < 4) (I : Int) (hI : I = i) (v : Value) (l : List ByteArray) (w : World) (hM : Most w) (h : ShS.Row w v l)
    (hc : ∀ args W, (callFunc fid args).run Tryz.prog W = .ok (.enter fid args) W)
    (hp : ∀ W, Ext w W → ∀ x ∈ l, Calls Tryz.prog fid (#[.string x] ++ caps) W fun e w' => e = .returned (.bool (p x)) ∧ Ext W w') :
    Calls Tryz.prog 77 #[v, .int .i64 I, .func (.func fid) #[] caps] w fun e w' => e = .returned (.bool (decide ((l.length : Int) ≤ mst i) && l.all p)) ∧ Ext w w' := by
  have HC := Lib.hid (fun W g (e0 : Ext w W) (ho : One W g (.func (.func fid) #[] caps)) => containsS_any 131 #[.pointer (some ⟨g, 0, none⟩)] (fun x => !p x) v l W (h.ext e0) (fun args W => Tryz.call131 args W)
    (fun W e x hx => notS_any fid caps g x (p x) W (ho.ext e) hc (fun W2 e2 => hp W2 ((e0.trans e).trans e2) x hx)))
  subst hI
  have y0 := hM.2 i hi
  have l0 := hM.1
  have n0 : ¬ 0 = w.heap.size := by omega
  obtain ⟨A, c, rfl, -⟩ := h.cut
  rw [← any_notK]
  obtain ⟨r, hr⟩ : ∃ r, (l.any fun x => !p x) = r := ⟨_, rfl⟩
  obtain ⟨n, hn⟩ : ∃ n, l.length = n := ⟨_, rfl⟩
  obtain ⟨K, hK⟩ : ∃ K, mst i = K := ⟨_, rfl⟩
  rw [hK] at y0
  rw [hr] at HC ⊢
  rw [hn] at HC ⊢
  rw [hK]
  have hi2 : (i : Int) < 4 := by omega
  clear hr hn hM h hp hK
  by_cases hle : (n : Int) ≤ K
  · rw [decide_eq_true hle, Bool.true_and]
    go_enter Tryz.func77, Tryz.ntmps77
    go_wp2_with fail
    refine (HC.out _ _ ((Ext.refl w).alloc _) (One.new w _ _)).mono ?_
    rintro e w1 ⟨rfl, x1⟩
    go_wp2
    go_ret
    exact ⟨rfl, ((Ext.refl w).alloc _).trans x1⟩
  · rw [decide_eq_false hle, Bool.false_and]
    go_enter Tryz.func77, Tryz.ntmps77
    go_wp2
    go_ret
    exact ⟨rfl, (Ext.refl w).alloc _⟩
set_option maxRecDepth 100000 in
set_option maxHeartbeats 4000000 in
theorem indexF_any (fid : FuncId) (caps : Array Value) (p : Fd → Bool) (v : Value) (l : List Fd) (w : World) (h : ShF.Row w v l)
    (hc : ∀ args W, (callFunc fid args).run Tryz.prog W = .ok (.enter fid args) W)
    (hp : ∀ W, Ext w W → ∀ x ∈ l, Calls Tryz.prog fid (#[.agg x.vals] ++ caps) W fun e w' => e = .returned (.bool (p x)) ∧ Ext W w') :
    Calls Tryz.prog 168 #[v, .func (.func fid) #[] caps] w fun e w' => e = .returned (.int .i64 (idxP p l 0)) ∧ Ext w w' := by
  have H := Lib.hid h
  obtain ⟨A, c, rfl, hc0, hm, -⟩ := h.cut
  unfold maxLen at hm
  obtain ⟨n, hn⟩ : ∃ n, n = l.length := ⟨_, rfl⟩
  rw [← hn] at hc0 H ⊢
  have Hn := Lib.hid hn
  have HP := Lib.hid hp
  obtain ⟨F, hF⟩ : ∃ F, idxP p l 0 = F := ⟨_, rfl⟩
  have HF := Lib.hid hF
  rw [hF]
  clear hn h hp hF
  go_enter Tryz.func168, Tryz.ntmps168
  go_wp2
  go_loopw [8] (fun i wr => ∃ (k : Nat), i = .int .i64 k ∧ k ≤ n ∧ Hid (F = idxP p (l.drop k) k) ∧ Hid (Ext w wr)) (fun i _ => n - (intOf i).toNat)
  case atStart => exact ⟨0, rfl, by omega, Lib.hid HF.out.symm, Lib.hid (Ext.refl w)⟩
  case round =>
    obtain ⟨k, rfl, hk, HQ, HX⟩ := hrel
    by_cases hlt : k < n
    · have hkl : k < l.length := by have := Hn.out; omega
      obtain ⟨b, o, rfl, hat⟩ := rowF_at H.out (by omega)
      obtain ⟨y0, y1, y2, y3⟩ := hat _ HX.out k hkl
      have HC := Lib.hid (HP.out wr HX.out _ (gf_mem hkl))
      have hN : p (gf l k) = false → F = idxP p (l.drop (k + 1)) (k + 1) := fun e => HQ.out.trans (idxP_next (gf_some hkl) e)
      have hH : p (gf l k) = true → F = k := fun e => HQ.out.trans (idxP_here (gf_some hkl) e)
      obtain ⟨x, hx⟩ : ∃ x, gf l k = x := ⟨_, rfl⟩
      rw [hx] at y0 y1 y2 y3 HC hN hH
      unfold Fd.vals at HC
      obtain ⟨r, hr⟩ : ∃ r, p x = r := ⟨_, rfl⟩
      rw [hr] at HC hN hH
      have HN := Lib.hid hN
      have HH := Lib.hid hH
      clear hat hx hkl hr hN hH
      go_wp2_with fail
      refine HC.out.mono ?_
      rintro e w1 ⟨rfl, x1⟩
      have X1 := Lib.hid x1
      clear x1
      cases r
      · have HE := Lib.hid (HN.out rfl)
        go_wp2_with fail
        go_roundw
        case rel => exact ⟨k + 1, by go_num, by omega, HE, Lib.hid (HX.out.trans X1.out)⟩
        case measure => simp [intOf]; omega
      · have HE := Lib.hid (HH.out rfl)
        go_wp2
        go_ret
        exact ⟨by rw [HE.out]; rfl, HX.out.trans X1.out⟩
    · have HE := Lib.hid (show F = -1 by rw [HQ.out, List.drop_of_length_le (by have := Hn.out; omega)]; rfl)
      go_wp2
      go_ret
      exact ⟨by rw [HE.out]; rfl, HX.out⟩
set_option maxRecDepth 100000 in
theorem containsF_any (fid : FuncId) (caps : Array Value) (p : Fd → Bool) (v : Value) (l : List Fd) (w : World) (h : ShF.Row w v l)
    (hc : ∀ args W, (callFunc fid args).run Tryz.prog W = .ok (.enter fid args) W)
    (hp : ∀ W, Ext w W → ∀ x ∈ l, Calls Tryz.prog fid (#[.agg x.vals] ++ caps) W fun e w' => e = .returned (.bool (p x)) ∧ Ext W w') :
    Calls Tryz.prog 132 #[v, .func (.func fid) #[] caps] w fun e w' => e = .returned (.bool (l.any p)) ∧ Ext w w' := by
  have HI := Lib.hid (indexF_any fid caps p v l w h hc hp)
  rw [← idxP_any (p := p) (l := l) (k := 0)]
  obtain ⟨A, c, rfl, -⟩ := h.cut
  obtain ⟨R, hR⟩ : ∃ R, idxP p l 0 = R := ⟨_, rfl⟩
  rw [hR] at HI ⊢
  clear hR h hp
  go_enter Tryz.func132, Tryz.ntmps132
  go_wp2_with fail
  refine HI.out.mono ?_
  rintro e w1 ⟨rfl, x1⟩
  go_wp2
  go_ret
  exact ⟨rfl, x1⟩
set_option maxRecDepth 100000 in
set_option maxHeartbeats 4000000 in
theorem notF_any (fid : FuncId) (caps : Array Value) (g : Nat) (x : Fd) (r : Bool) (w : World) (hf : One w g (.func (.func fid) #[] caps))
    (hc : ∀ args W, (callFunc fid args).run Tryz.prog W = .ok (.enter fid args) W)
    (hp : ∀ W, Ext w W → Calls Tryz.prog fid (#[.agg x.vals] ++ caps) W fun e w' => e = .returned (.bool r) ∧ Ext W w') :
    Calls Tryz.prog 133 (#[.agg x.vals] ++ #[.pointer (some ⟨g, 0, none⟩)]) w fun e w' => e = .returned (.bool (!r)) ∧ Ext w w' := by
  have HC := Lib.hid hp
  have y0 := hf.1
  have l0 := hf.2
  have n0 : ¬ g = w.heap.size := by omega
  unfold Fd.vals at HC ⊢
  clear hf hp
  go_enter Tryz.func133, Tryz.ntmps133
  go_wp2_with fail
  refine (HC.out _ ((Ext.refl w).alloc _)).mono ?_
  rintro e w1 ⟨rfl, x1⟩
  go_wp2
  go_ret
  exact ⟨rfl, ((Ext.refl w).alloc _).trans x1⟩
set_option maxRecDepth 100000 in
set_option maxHeartbeats 4000000 in
theorem allF_any (fid : FuncId) (caps : Array Value) (p : Fd → Bool) (i : Nat) (hi : i < 4) (I : Int) (hI : I = i) (v : Value) (l : List Fd) (w : World) (hM : Most w) (h : ShF.Row w v l)
    (hc : ∀ args W, (callFunc fid args).run Tryz.prog W = .ok (.enter fid args) W)
    (hp : ∀ W, Ext w W → ∀ x ∈ l, Calls Tryz.prog fid (#[.agg x.vals] ++ caps) W fun e w' => e = .returned (.bool (p x)) ∧ Ext W w') :
    Calls Tryz.prog 78 #[v, .int .i64 I, .func (.func fid) #[] caps] w fun e w' => e = .returned (.bool (decide ((l.length : Int) ≤ mst i) && l.all p)) ∧ Ext w w' := by
  have HC := Lib.hid (fun W g (e0 : Ext w W) (ho : One W g (.func (.func fid) #[] caps)) => containsF_any 133 #[.pointer (some ⟨g, 0, none⟩)] (fun x => !p x) v l W (h.ext e0) (fun args W => Tryz.call133 args W)
    (fun W e x hx => notF_any fid caps g x (p x) W (ho.ext e) hc (fun W2 e2 => hp W2 ((e0.trans e).trans e2) x hx)))
  subst hI
  have y0 := hM.2 i hi
  have l0 := hM.1
  have n0 : ¬ 0 = w.heap.size := by omega
  obtain ⟨A, c, rfl, -⟩ := h.cut
  rw [← any_notK]
  obtain ⟨r, hr⟩ : ∃ r, (l.any fun x => !p x) = r := ⟨_, rfl⟩
  obtain ⟨n, hn⟩ : ∃ n, l.length = n := ⟨_, rfl⟩
  obtain ⟨K, hK⟩ : ∃ K, mst i = K := ⟨_, rfl⟩
  rw [hK] at y0
  rw [hr] at HC ⊢
  rw [hn] at HC ⊢
  rw [hK]
  have hi2 : (i : Int) < 4 := by omega
  clear hr hn hM h hp hK
  by_cases hle : (n : Int) ≤ K
  · rw [decide_eq_true hle, Bool.true_and]
    go_enter Tryz.func78, Tryz.ntmps78
    go_wp2_with fail
    refine (HC.out _ _ ((Ext.refl w).alloc _) (One.new w _ _)).mono ?_
    rintro e w1 ⟨rfl, x1⟩
    go_wp2
    go_ret
    exact ⟨rfl, ((Ext.refl w).alloc _).trans x1⟩
  · rw [decide_eq_false hle, Bool.false_and]
    go_enter Tryz.func78, Tryz.ntmps78
    go_wp2
    go_ret
    exact ⟨rfl, (Ext.refl w).alloc _⟩
set_option maxRecDepth 100000 in
set_option maxHeartbeats 4000000 in
theorem indexM_any (fid : FuncId) (caps : Array Value) (p : Me → Bool) (v : Value) (l : List Me) (w : World) (h : RowM w v l)
    (hc : ∀ args W, (callFunc fid args).run Tryz.prog W = .ok (.enter fid args) W)
    (hp : ∀ W, Ext w W → ∀ x ∈ l, ∀ va vc vh, MeAt W x va vc vh → Calls Tryz.prog fid (#[.agg (x.vals va vc vh)] ++ caps) W fun e w' => e = .returned (.bool (p x)) ∧ Ext W w') :
    Calls Tryz.prog 169 #[v, .func (.func fid) #[] caps] w fun e w' => e = .returned (.int .i64 (idxP p l 0)) ∧ Ext w w' := by
  have H := Lib.hid h
  obtain ⟨A, c, rfl, hc0, hm, -⟩ := h.cut
  unfold maxLen at hm
  obtain ⟨n, hn⟩ : ∃ n, n = l.length := ⟨_, rfl⟩
  rw [← hn] at hc0 H ⊢
  have Hn := Lib.hid hn
  have HP := Lib.hid hp
  obtain ⟨F, hF⟩ : ∃ F, idxP p l 0 = F := ⟨_, rfl⟩
  have HF := Lib.hid hF
  rw [hF]
  clear hn h hp hF
  go_enter Tryz.func169, Tryz.ntmps169
  go_wp2
  go_loopw [8] (fun i wr => ∃ (k : Nat), i = .int .i64 k ∧ k ≤ n ∧ Hid (F = idxP p (l.drop k) k) ∧ Hid (Ext w wr)) (fun i _ => n - (intOf i).toNat)
  case atStart => exact ⟨0, rfl, by omega, Lib.hid HF.out.symm, Lib.hid (Ext.refl w)⟩
  case round =>
    obtain ⟨k, rfl, hk, HQ, HX⟩ := hrel
    by_cases hlt : k < n
    · have hkl : k < l.length := by have := Hn.out; omega
      obtain ⟨b, o, rfl, hat⟩ := H.out.at (by omega)
      obtain ⟨va, vc, vh, hat⟩ := hat k hkl
      obtain ⟨⟨y0, y1, y2, y3, y4, y5, y6, y7, y8, y9⟩, hme⟩ := hat _ HX.out
      have HC := Lib.hid (HP.out wr HX.out _ (gm_mem hkl) va vc vh hme)
      have q1 := oneCell_rowG hme.1
      have q2 := oneCell_row hme.2.1
      have q3 := oneCell_rowG hme.2.2
      clear hme
      have hN : p (gm l k) = false → F = idxP p (l.drop (k + 1)) (k + 1) := fun e => HQ.out.trans (idxP_next (gm_some hkl) e)
      have hH : p (gm l k) = true → F = k := fun e => HQ.out.trans (idxP_here (gm_some hkl) e)
      obtain ⟨x, hx⟩ : ∃ x, gm l k = x := ⟨_, rfl⟩
      rw [hx] at y0 y1 y2 y3 y4 y6 y7 HC hN hH
      unfold Me.vals at HC
      obtain ⟨r, hr⟩ : ∃ r, p x = r := ⟨_, rfl⟩
      rw [hr] at HC hN hH
      have HN := Lib.hid hN
      have HH := Lib.hid hH
      clear hat hx hkl hr hN hH
      go_wp2_with fail
      refine HC.out.mono ?_
      rintro e w1 ⟨rfl, x1⟩
      have X1 := Lib.hid x1
      clear x1
      cases r
      · have HE := Lib.hid (HN.out rfl)
        go_wp2_with fail
        go_roundw
        case rel => exact ⟨k + 1, by go_num, by omega, HE, Lib.hid (HX.out.trans X1.out)⟩
        case measure => simp [intOf]; omega
      · have HE := Lib.hid (HH.out rfl)
        go_wp2
        go_ret
        exact ⟨by rw [HE.out]; rfl, HX.out.trans X1.out⟩
    · have HE := Lib.hid (show F = -1 by rw [HQ.out, List.drop_of_length_le (by have := Hn.out; omega)]; rfl)
      go_wp2
      go_ret
      exact ⟨by rw [HE.out]; rfl, HX.out⟩
set_option maxRecDepth 100000 in
theorem containsM_any (fid : FuncId) (caps : Array Value) (p : Me → Bool) (v : Value) (l : List Me) (w : World) (h : RowM w v l)
    (hc : ∀ args W, (callFunc fid args).run Tryz.prog W = .ok (.enter fid args) W)
    (hp : ∀ W, Ext w W → ∀ x ∈ l, ∀ va vc vh, MeAt W x va vc vh → Calls Tryz.prog fid (#[.agg (x.vals va vc vh)] ++ caps) W fun e w' => e = .returned (.bool (p x)) ∧ Ext W w') :
    Calls Tryz.prog 135 #[v, .func (.func fid) #[] caps] w fun e w' => e = .returned (.bool (l.any p)) ∧ Ext w w' := by
  have HI := Lib.hid (indexM_any fid caps p v l w h hc hp)
  rw [← idxP_any (p := p) (l := l) (k := 0)]
  obtain ⟨A, c, rfl, -⟩ := h.cut
  obtain ⟨R, hR⟩ : ∃ R, idxP p l 0 = R := ⟨_, rfl⟩
  rw [hR] at HI ⊢
  clear hR h hp
  go_enter Tryz.func135, Tryz.ntmps135
  go_wp2_with fail
  refine HI.out.mono ?_
  rintro e w1 ⟨rfl, x1⟩
  go_wp2
  go_ret
  exact ⟨rfl, x1⟩
set_option maxRecDepth 100000 in
set_option maxHeartbeats 4000000 in
theorem notM_any (fid : FuncId) (caps : Array Value) (g : Nat) (x : Me) (va vc vh : Value) (r : Bool) (w : World) (hf : One w g (.func (.func fid) #[] caps))
    (hc : ∀ args W, (callFunc fid args).run Tryz.prog W = .ok (.enter fid args) W)
    (hp : ∀ W, Ext w W → Calls Tryz.prog fid (#[.agg (x.vals va vc vh)] ++ caps) W fun e w' => e = .returned (.bool r) ∧ Ext W w') :
    Calls Tryz.prog 136 (#[.agg (x.vals va vc vh)] ++ #[.pointer (some ⟨g, 0, none⟩)]) w fun e w' => e = .returned (.bool (!r)) ∧ Ext w w' := by
  have HC := Lib.hid hp
  have y0 := hf.1
  have l0 := hf.2
  have n0 : ¬ g = w.heap.size := by omega
  unfold Me.vals at HC ⊢
  clear hf hp
  go_enter Tryz.func136, Tryz.ntmps136
  go_wp2_with fail
  refine (HC.out _ ((Ext.refl w).alloc _)).mono ?_
  rintro e w1 ⟨rfl, x1⟩
  go_wp2
  go_ret
  exact ⟨rfl, ((Ext.refl w).alloc _).trans x1⟩
set_option maxRecDepth 100000 in
set_option maxHeartbeats 4000000 in
theorem allM_any (fid : FuncId) (caps : Array Value) (p : Me → Bool) (i : Nat) (hi : i < 4) (I : Int) (hI : I = i) (v : Value) (l : List Me) (w : World) (hM : Most w) (h : RowM w v l)
    (hc : ∀ args W, (callFunc fid args).run Tryz.prog W = .ok (.enter fid args) W)
    (hp : ∀ W, Ext w W → ∀ x ∈ l, ∀ va vc vh, MeAt W x va vc vh → Calls Tryz.prog fid (#[.agg (x.vals va vc vh)] ++ caps) W fun e w' => e = .returned (.bool (p x)) ∧ Ext W w') :
    Calls Tryz.prog 80 #[v, .int .i64 I, .func (.func fid) #[] caps] w fun e w' => e = .returned (.bool (decide ((l.length : Int) ≤ mst i) && l.all p)) ∧ Ext w w' := by
  have HC := Lib.hid (fun W g (e0 : Ext w W) (ho : One W g (.func (.func fid) #[] caps)) => containsM_any 136 #[.pointer (some ⟨g, 0, none⟩)] (fun x => !p x) v l W (h.ext e0) (fun args W => Tryz.call136 args W)
    (fun W e x hx va vc vh hm => notM_any fid caps g x va vc vh (p x) W (ho.ext e) hc (fun W2 e2 => hp W2 ((e0.trans e).trans e2) x hx va vc vh (hm.ext e2))))
  subst hI
  have y0 := hM.2 i hi
  have l0 := hM.1
  have n0 : ¬ 0 = w.heap.size := by omega
  obtain ⟨A, c, rfl, -⟩ := h.cut
  rw [← any_notK]
  obtain ⟨r, hr⟩ : ∃ r, (l.any fun x => !p x) = r := ⟨_, rfl⟩
  obtain ⟨n, hn⟩ : ∃ n, l.length = n := ⟨_, rfl⟩
  obtain ⟨K, hK⟩ : ∃ K, mst i = K := ⟨_, rfl⟩
  rw [hK] at y0
  rw [hr] at HC ⊢
  rw [hn] at HC ⊢
  rw [hK]
  have hi2 : (i : Int) < 4 := by omega
  clear hr hn hM h hp hK
  by_cases hle : (n : Int) ≤ K
  · rw [decide_eq_true hle, Bool.true_and]
    go_enter Tryz.func80, Tryz.ntmps80
    go_wp2_with fail
    refine (HC.out _ _ ((Ext.refl w).alloc _) (One.new w _ _)).mono ?_
    rintro e w1 ⟨rfl, x1⟩
    go_wp2
    go_ret
    exact ⟨rfl, ((Ext.refl w).alloc _).trans x1⟩
  · rw [decide_eq_false hle, Bool.false_and]
    go_enter Tryz.func80, Tryz.ntmps80
    go_wp2
    go_ret
    exact ⟨rfl, (Ext.refl w).alloc _⟩
end Go.Proofs.YtokmeomjdpfknaaGreatDoor
namespace Go.Proofs.YtokmeomjdpfknaaGreatDoor
open Go.RowKit
set_option linter.unusedVariables false

theorem gh_take {l : List Hd} {j : Nat} (h : j < l.length) : l.take (j + 1) = l.take j ++ [gh l j] := by
  rw [gh_get h, List.take_append_getElem h]
theorem gf_take {l : List Fd} {j : Nat} (h : j < l.length) : l.take (j + 1) = l.take j ++ [gf l j] := by
  have e := gf_some h
  rw [List.getElem?_eq_getElem h] at e
  injection e with e
  rw [← e, List.take_append_getElem h]
theorem run_neqCz (x y : Cst) (W : World) : (binOp .neq 49 (.agg x.vals) (.agg y.vals)).run Tryz.prog W = .ok (.bool (!decide (x = y))) W := by
  rw [run_neq6]
  by_cases h : x = y <;> simp [eqC, h]
theorem Hd.ext_ {x y : Hd} (h0 : x.f = y.f) (h1 : x.t = y.t) (h2 : x.a = y.a) (h3 : x.c = y.c) : x = y := by
  cases x; cases y
  simp only at h0 h1 h2 h3
  rw [h0, h1, h2, h3]
theorem Fd.ext_ {x y : Fd} (h0 : x.st = y.st) (h1 : x.nm = y.nm) (h2 : x.ty.k = y.ty.k) (h3 : x.ty.s = y.ty.s) : x = y := by
  obtain ⟨a, b, c, d⟩ := x
  obtain ⟨a', b', c', d'⟩ := y
  simp only at h0 h1 h2 h3
  rw [h0, h1, h2, h3]
theorem run_neqH (x y : Hd) (W : World) : (binOp .neq 58 (.agg x.vals) (.agg y.vals)).run Tryz.prog W = .ok (.bool (!decide (x = y))) W := by
  unfold Hd.vals
  go_simp
  by_cases h : x = y
  · subst h
    simp
  · rw [decide_eq_false h]
    (repeat' split) <;> first | rfl | (exact (h (Hd.ext_ ‹x.f = y.f› ‹x.t = y.t› ‹x.a = y.a› ‹x.c = y.c›)).elim)
theorem run_neqF (x y : Fd) (W : World) : (binOp .neq 63 (.agg x.vals) (.agg y.vals)).run Tryz.prog W = .ok (.bool (!decide (x = y))) W := by
  unfold Fd.vals
  go_simp
  by_cases h : x = y
  · subst h
    simp
  · rw [decide_eq_false h]
    (repeat' split) <;> first | rfl | (exact (h (Fd.ext_ ‹x.st = y.st› (toList_inj ‹x.nm.toList = y.nm.toList›) ‹x.ty.k = y.ty.k› (toList_inj ‹x.ty.s.toList = y.ty.s.toList›))).elim)
set_option maxHeartbeats 4000000 in
theorem equalH_any (v1 v2 : Value) (l1 l2 : List Hd) (w : World) (h1 : ShH.Row w v1 l1) (h2 : ShH.Row w v2 l2) :
    Calls Tryz.prog 88 #[v1, v2] w fun e w' => e = .returned (.bool (decide (l1 = l2))) ∧ ∃ m, w' = w.drewN m := by
  have H1 := Lib.hid h1
  have H2 := Lib.hid h2
  obtain ⟨A1, c1, rfl, hc1, hm1, -⟩ := h1.cut
  obtain ⟨A2, c2, rfl, hc2, hm2, -⟩ := h2.cut
  clear h1 h2
  unfold maxLen at hm1 hm2
  by_cases hl : l1.length = l2.length
  · obtain ⟨n, hn⟩ : ∃ n, n = l1.length := ⟨_, rfl⟩
    rw [← hn] at hc1 H1 ⊢
    rw [← hl, ← hn] at hc2 H2 ⊢
    have Hn := Lib.hid hn
    have Hl := Lib.hid hl
    clear hn hl
    go_enter Tryz.func88, Tryz.ntmps88
    go_wp2
    go_loopw [13] (fun i wr => ∃ k m : Nat, k ≤ n ∧ i = .int .i64 k ∧ wr = w.drewN m ∧ Hid (l1.take k = l2.take k)) (fun i _ => n - (intOf i).toNat)
    case atStart => exact ⟨0, 0, by omega, rfl, rfl, Lib.hid rfl⟩
    case round =>
      obtain ⟨k, m, hk, rfl, rfl, Ht⟩ := hrel
      by_cases hlt : k < n
      · obtain ⟨b1, o1, rfl, hx1⟩ := rowH_at H1.out (by have := Hn.out; omega)
        obtain ⟨b2, o2, rfl, hx2⟩ := rowH_at H2.out (by have := Hn.out; have := Hl.out; omega)
        obtain ⟨y0, y1, y2, y3⟩ := hx1 w (Ext.refl w) k (by have := Hn.out; omega)
        obtain ⟨u0, u1, u2, u3⟩ := hx2 w (Ext.refl w) k (by have := Hn.out; have := Hl.out; omega)
        have hne := fun W => run_neqH (gh l1 k) (gh l2 k) W
        unfold Hd.vals at hne
        clear hx1 hx2
        by_cases he : gh l1 k = gh l2 k
        · rw [decide_eq_true he] at hne
          have HE := Lib.hid he
          clear he
          go_wp2
          go_quiet (fail)
          go_wp2
          refine ⟨⟨k + 1, m + nq, by omega, by go_num, rfl, Lib.hid ?_⟩, by simp [intOf]; omega⟩
          rw [gh_take (by have := Hn.out; omega), gh_take (by have := Hn.out; have := Hl.out; omega), Ht.out, HE.out]
        · rw [decide_eq_false he] at hne
          have HE := Lib.hid (show decide (l1 = l2) = false by
            rw [decide_eq_false_iff_not]
            exact fun e => he (by rw [e]))
          clear he
          go_wp2
          go_quiet (fail)
          go_wp2
          go_ret
          exact ⟨ret_dd HE.out.symm, _, World.drewN_drewN _ _ _⟩
      · obtain rfl : k = n := by omega
        go_wp2
        go_ret
        refine ⟨ret_dd ?_, _, rfl⟩
        have := Ht.out
        rw [Hn.out] at this
        rw [List.take_length, Hl.out, List.take_length] at this
        exact (decide_eq_true this).symm
  · have hb : ((l1.length : Int) != (l2.length : Int)) = true := by simp; omega
    have HE := Lib.hid (show decide (l1 = l2) = false by rw [decide_eq_false_iff_not]; exact fun e => hl (by rw [e]))
    rw [HE.out]
    clear hl H1 H2
    go_enter Tryz.func88, Tryz.ntmps88
    go_wp2
    go_ret
    exact ⟨rfl, 0, rfl⟩
set_option maxHeartbeats 4000000 in
theorem equalF_any (v1 v2 : Value) (l1 l2 : List Fd) (w : World) (h1 : ShF.Row w v1 l1) (h2 : ShF.Row w v2 l2) :
    Calls Tryz.prog 39 #[v1, v2] w fun e w' => e = .returned (.bool (decide (l1 = l2))) ∧ ∃ m, w' = w.drewN m := by
  have H1 := Lib.hid h1
  have H2 := Lib.hid h2
  obtain ⟨A1, c1, rfl, hc1, hm1, -⟩ := h1.cut
  obtain ⟨A2, c2, rfl, hc2, hm2, -⟩ := h2.cut
  clear h1 h2
  unfold maxLen at hm1 hm2
  by_cases hl : l1.length = l2.length
  · obtain ⟨n, hn⟩ : ∃ n, n = l1.length := ⟨_, rfl⟩
    rw [← hn] at hc1 H1 ⊢
    rw [← hl, ← hn] at hc2 H2 ⊢
    have Hn := Lib.hid hn
    have Hl := Lib.hid hl
    clear hn hl
    go_enter Tryz.func39, Tryz.ntmps39
    go_wp2
    go_loopw [13] (fun i wr => ∃ k m : Nat, k ≤ n ∧ i = .int .i64 k ∧ wr = w.drewN m ∧ Hid (l1.take k = l2.take k)) (fun i _ => n - (intOf i).toNat)
    case atStart => exact ⟨0, 0, by omega, rfl, rfl, Lib.hid rfl⟩
    case round =>
      obtain ⟨k, m, hk, rfl, rfl, Ht⟩ := hrel
      by_cases hlt : k < n
      · obtain ⟨b1, o1, rfl, hx1⟩ := rowF_at H1.out (by have := Hn.out; omega)
        obtain ⟨b2, o2, rfl, hx2⟩ := rowF_at H2.out (by have := Hn.out; have := Hl.out; omega)
        obtain ⟨y0, y1, y2, y3⟩ := hx1 w (Ext.refl w) k (by have := Hn.out; omega)
        obtain ⟨u0, u1, u2, u3⟩ := hx2 w (Ext.refl w) k (by have := Hn.out; have := Hl.out; omega)
        have hne := fun W => run_neqF (gf l1 k) (gf l2 k) W
        unfold Fd.vals at hne
        clear hx1 hx2
        by_cases he : gf l1 k = gf l2 k
        · rw [decide_eq_true he] at hne
          have HE := Lib.hid he
          clear he
          go_wp2
          go_quiet (fail)
          go_wp2
          refine ⟨⟨k + 1, m + nq, by omega, by go_num, rfl, Lib.hid ?_⟩, by simp [intOf]; omega⟩
          rw [gf_take (by have := Hn.out; omega), gf_take (by have := Hn.out; have := Hl.out; omega), Ht.out, HE.out]
        · rw [decide_eq_false he] at hne
          have HE := Lib.hid (show decide (l1 = l2) = false by
            rw [decide_eq_false_iff_not]
            exact fun e => he (by rw [e]))
          clear he
          go_wp2
          go_quiet (fail)
          go_wp2
          go_ret
          exact ⟨ret_dd HE.out.symm, _, World.drewN_drewN _ _ _⟩
      · obtain rfl : k = n := by omega
        go_wp2
        go_ret
        refine ⟨ret_dd ?_, _, rfl⟩
        have := Ht.out
        rw [Hn.out] at this
        rw [List.take_length, Hl.out, List.take_length] at this
        exact (decide_eq_true this).symm
  · have hb : ((l1.length : Int) != (l2.length : Int)) = true := by simp; omega
    have HE := Lib.hid (show decide (l1 = l2) = false by rw [decide_eq_false_iff_not]; exact fun e => hl (by rw [e]))
    rw [HE.out]
    clear hl H1 H2
    go_enter Tryz.func39, Tryz.ntmps39
    go_wp2
    go_ret
    exact ⟨rfl, 0, rfl⟩
set_option maxHeartbeats 4000000 in
theorem equalC_any (v1 v2 : Value) (l1 l2 : List Cst) (w : World) (h1 : ShC.Row w v1 l1) (h2 : ShC.Row w v2 l2) :
    Calls Tryz.prog 37 #[v1, v2] w fun e w' => e = .returned (.bool (decide (l1 = l2))) ∧ ∃ m, w' = w.drewN m := by
  have H1 := Lib.hid h1
  have H2 := Lib.hid h2
  obtain ⟨A1, c1, rfl, hc1, hm1, -⟩ := h1.cut
  obtain ⟨A2, c2, rfl, hc2, hm2, -⟩ := h2.cut
  clear h1 h2
  unfold maxLen at hm1 hm2
  by_cases hl : l1.length = l2.length
  · obtain ⟨n, hn⟩ : ∃ n, n = l1.length := ⟨_, rfl⟩
    rw [← hn] at hc1 H1 ⊢
    rw [← hl, ← hn] at hc2 H2 ⊢
    have Hn := Lib.hid hn
    have Hl := Lib.hid hl
    clear hn hl
    go_enter Tryz.func37, Tryz.ntmps37
    go_wp2
    go_loopw [13] (fun i wr => ∃ k m : Nat, k ≤ n ∧ i = .int .i64 k ∧ wr = w.drewN m ∧ Hid (l1.take k = l2.take k)) (fun i _ => n - (intOf i).toNat)
    case atStart => exact ⟨0, 0, by omega, rfl, rfl, Lib.hid rfl⟩
    case round =>
      obtain ⟨k, m, hk, rfl, rfl, Ht⟩ := hrel
      by_cases hlt : k < n
      · obtain ⟨b1, o1, rfl, hx1⟩ := rowC_at H1.out (by have := Hn.out; omega)
        obtain ⟨b2, o2, rfl, hx2⟩ := rowC_at H2.out (by have := Hn.out; have := Hl.out; omega)
        obtain ⟨y0, y1, y2, y3, y4, y5⟩ := hx1 w (Ext.refl w) k (by have := Hn.out; omega)
        obtain ⟨u0, u1, u2, u3, u4, u5⟩ := hx2 w (Ext.refl w) k (by have := Hn.out; have := Hl.out; omega)
        have hne := fun W => run_neqCz (gc l1 k) (gc l2 k) W
        unfold Cst.vals at hne
        clear hx1 hx2
        by_cases he : gc l1 k = gc l2 k
        · rw [decide_eq_true he] at hne
          have HE := Lib.hid he
          clear he
          go_wp2
          go_quiet (fail)
          go_wp2
          refine ⟨⟨k + 1, m + nq, by omega, by go_num, rfl, Lib.hid ?_⟩, by simp [intOf]; omega⟩
          rw [takeC_one (by have := Hn.out; omega), takeC_one (by have := Hn.out; have := Hl.out; omega), Ht.out, HE.out]
        · rw [decide_eq_false he] at hne
          have HE := Lib.hid (show decide (l1 = l2) = false by
            rw [decide_eq_false_iff_not]
            exact fun e => he (by rw [e]))
          clear he
          go_wp2
          go_quiet (fail)
          go_wp2
          go_ret
          exact ⟨ret_dd HE.out.symm, _, World.drewN_drewN _ _ _⟩
      · obtain rfl : k = n := by omega
        go_wp2
        go_ret
        refine ⟨ret_dd ?_, _, rfl⟩
        have := Ht.out
        rw [Hn.out] at this
        rw [List.take_length, Hl.out, List.take_length] at this
        exact (decide_eq_true this).symm
  · have hb : ((l1.length : Int) != (l2.length : Int)) = true := by simp; omega
    have HE := Lib.hid (show decide (l1 = l2) = false by rw [decide_eq_false_iff_not]; exact fun e => hl (by rw [e]))
    rw [HE.out]
    clear hl H1 H2
    go_enter Tryz.func37, Tryz.ntmps37
    go_wp2
    go_ret
    exact ⟨rfl, 0, rfl⟩
end Go.Proofs.YtokmeomjdpfknaaGreatDoor
