/- Several texts of this proof, one behind the other. -/
import Derived.Test.YtokmeomjdpfknaaGreatDoorZaQ
import Derived.Test.YtokmeomjdpfknaaGreatDoorZaY
import Derived.Test.YtokmeomjdpfknaaGreatDoorZaN
import Derived.Test.YtokmeomjdpfknaaGreatDoorZaM
import Derived.Test.YtokmeomjdpfknaaGreatDoorZaW
import Derived.Test.YtokmeomjdpfknaaGreatDoorRows
import Derived.Test.YtokmeomjdpfknaaGreatDoorCards
import Derived.Test.YtokmeomjdpfknaaGreatDoorTie
import Derived.Test.YtokmeomjdpfknaaGreatDoorZaO
import Derived.Test.YtokmeomjdpfknaaGreatDoorZaAD
import Derived.ProofKit
import Derived.OpenShut
import Derived.ShutString
import Derived.ChangeOld
import Derived.SizedLaws
import Derived.Deep.DeepHandedRow
import Derived.Deep.DeepWitnessRowRef
import Derived.Lib.LaidIn
import Derived.Lib.LaidU8T
import Derived.Lib.LaidTab
/- Classes as bytes: what was written is read as it was, what is read was written so: plain mathematics. -/
namespace Go.Proofs.YtokmeomjdpfknaaGreatDoor
open Go.RowKit
set_option linter.unusedVariables false

theorem hasAt_mem {l : List In} {t : Int} (h : hasAt l t = true) : ∃ x ∈ l, x.a = t := by
  unfold hasAt at h
  rw [List.any_eq_true] at h
  obtain ⟨x, hx, e⟩ := h
  exact ⟨x, hx, of_decide_eq_true e⟩
theorem fit_bytes {l : List Int} (h : Fit .u8 l) : Bytes l := fun c hc => h.u8 hc
theorem isKZ_rng {pool : List Cst} {n a b : Int} (h : isKZ pool n a b = true) (hp : pool.length ≤ 4096) : NN n := by
  unfold isKZ at h
  simp at h
  unfold NN
  omega
theorem checkZ_parts {m : Me} {pool : List Cst} (h : (checkZ m pool).2.2 = 0) : (cutZ m.code).2.2 = 0 ∧ roomZ m = true ∧ handsZ (cutZ m.code).1 m pool = true := by
  unfold checkZ chkL at h
  split at h <;> rename_i h1
  · split at h <;> rename_i h2
    · cases h
    · split at h <;> rename_i h3
      · exact ⟨h1, h3.1, h3.2⟩
      · cases h
  · exact absurd h h1
theorem checkZ_nums {m : Me} {pool : List Cst} (hb : Fit .u8 m.code) (h : (checkZ m pool).2.2 = 0) (hp : pool.length ≤ 4096) :
    NN m.sk ∧ NN m.lo ∧ m.code.length ≤ 8192 ∧ m.hs.length ≤ 256 ∧ ∀ h ∈ m.hs, HdOk h := by
  obtain ⟨h1, h2, h3⟩ := checkZ_parts h
  obtain ⟨p1, p2, p3, -, -⟩ := cutZ_parts h1
  have hall := cutF_all (fit_bytes hb) _ 0 rfl (by rw [p3]; exact h1)
  rw [p3] at hall
  have at_ : ∀ {t : Int}, hasAt (cutZ m.code).1 t = true → NN t := fun e => by
    obtain ⟨x, hx, rfl⟩ := hasAt_mem e
    have := hall x hx
    unfold NN
    omega
  unfold roomZ at h2
  have h2 := of_decide_eq_true h2
  unfold handsZ at h3
  rw [Bool.and_eq_true, List.all_eq_true] at h3
  refine ⟨⟨h2.1, by omega⟩, ⟨h2.2.2.1, by omega⟩, p1, of_decide_eq_true h3.2, fun x hx => ?_⟩
  have hz := h3.1 x hx
  unfold handZ at hz
  simp only [Bool.and_eq_true, Bool.or_eq_true, decide_eq_true_eq] at hz
  obtain ⟨z1, z2, z3, z4, z5⟩ := hz
  refine ⟨at_ z1, ?_, at_ z2, ?_⟩
  · rcases z4 with z4 | z4
    · exact at_ z4
    · rw [z4]; exact ⟨by omega, by omega⟩
  · rcases z5 with z5 | z5
    · rw [z5]; exact ⟨by decide, by decide⟩
    · exact isKZ_rng z5 hp
theorem gMt_fit {d : Me} {s : RSt} (hf : Fit .u8 s.1) : Fit .u8 (gMt d s).2.1 ∧ Fit .u8 (gMt d s).1.code := by
  have f1 := gU_fit hf
  have f2 := gU_fit f1
  have f3 := gU_fit f2
  have f4 := gB_fit (n := (gU (gU (gU s).2).2).1) f3
  exact ⟨gLs_fit (fun _ => gHd_fit) f4.2, f4.1⟩
theorem gMe_fit {s : RSt} (hf : Fit .u8 s.1) : Fit .u8 (gMe s).2.1 ∧ Fit .u8 (gMe s).1.code := by
  have f := gPr_fit (gTx_fit (gUp_fit (k := 2) hf))
  unfold gMe
  simp only
  split
  · exact ⟨f, Fit.nil _⟩
  · exact gMt_fit f
theorem gMt_back (d : Me) : ∀ s : RSt, Fit .u8 s.1 → (gMt d s).2.2 = false → s.2 = false ∧ s.1 = meT (gMt d s).1 ++ (gMt d s).2.1 := fun s hf h => by
  have f1 := gU_fit hf
  have f2 := gU_fit f1
  have f3 := gU_fit f2
  have f4 := (gB_fit (n := (gU (gU (gU s).2).2).1) f3).2
  obtain ⟨h1, e1⟩ := gLs_back 256 (by decide) gHd_back (fun _ => gHd_fit) _ f4 h
  obtain ⟨h2, e2, e2'⟩ := gB_back _ (gU_nn f2).1 h1
  obtain ⟨h3, e3⟩ := gU_back _ f2 h2
  obtain ⟨h4, e4⟩ := gU_back _ f1 h3
  obtain ⟨h5, e5⟩ := gU_back _ hf h4
  refine ⟨h5, ?_⟩
  unfold meT gMt
  simp only [List.append_assoc, e2']
  rw [← e1, ← e2, ← e3, ← e4, ← e5]
theorem gMe_back : Back gMe meZ := fun s hf h => by
  have f1 := gUp_fit (k := 2) hf
  have f2 := gTx_fit f1
  have f3 := gPr_fit f2
  have r := gUp_le (k := 2) (by decide) hf
  unfold gMe at h ⊢
  simp only at h ⊢
  split at h <;> rename_i hk
  · rw [if_pos hk]
    obtain ⟨h1, e1⟩ := gPr_back _ f2 h
    obtain ⟨h2, e2⟩ := gTx_back _ f1 h1
    obtain ⟨h3, e3⟩ := gUp_back 2 _ hf h2
    refine ⟨h3, ?_⟩
    unfold meZ kdZ Me.pr
    simp only [hk, decide_true, if_true, List.append_nil, List.append_assoc, tyD_O, map_DO]
    rw [hk] at e3
    rw [← e1, ← e2, ← e3]
  · rw [if_neg hk]
    obtain ⟨h0, e0⟩ := gMt_back _ _ f3 h
    obtain ⟨h1, e1⟩ := gPr_back _ f2 h0
    obtain ⟨h2, e2⟩ := gTx_back _ f1 h1
    obtain ⟨h3, e3⟩ := gUp_back 2 _ hf h2
    refine ⟨h3, ?_⟩
    generalize hM : gMt _ _ = M at *
    have q1 : M.1.st = decide ((gUp 2 s).1 = 1) := by rw [← hM]; rfl
    have q2 : M.1.ab = decide ((gUp 2 s).1 = 2) := by rw [← hM]; rfl
    have q3 : M.1.nm = (gTx (gUp 2 s).2).1 := by rw [← hM]; rfl
    have q4 : M.1.pr = (gPr (gTx (gUp 2 s).2).2).1 := by
      rw [← hM]
      unfold Me.pr gMt
      simp only [tyD_O, map_DO]
    unfold meZ kdZ
    rw [q1, q2, q3, q4]
    simp only [hk, decide_false, Bool.false_eq_true, if_false, List.append_assoc]
    rw [flg_back r.1 (by omega), ← e0, ← e1, ← e2, ← e3]
theorem kdZ_nn (m : Me) : NN (kdZ m) ∧ kdZ m ≤ 2 := by
  unfold kdZ
  split
  · exact ⟨⟨by decide, by decide⟩, by decide⟩
  · exact ⟨(flg_nn _).1, by have := (flg_nn m.st).2; omega⟩
theorem gMe_fwd {pool : List Cst} (hp : pool.length ≤ 4096) : Fwd gMe meZ (fun m => okMe pool m = true ∧ Fit .u8 m.code) := fun m r h => by
  obtain ⟨h, hf⟩ := h
  unfold okMe at h
  rw [Bool.and_eq_true, Bool.and_eq_true, decide_eq_true_eq] at h
  obtain ⟨h1, h2, h3⟩ := h
  have e1 := fun q => gUp_fwd 2 (kdZ m) q (kdZ_nn m)
  have e2 := fun q => gTx_fwd m.nm q (by have := nameB_size h1; unfold TX; omega)
  have e3 := fun q => gPr_fwd m.pr q h2
  unfold gMe meZ
  simp only [List.append_assoc, e1, e2, e3]
  by_cases hab : m.ab = true
  · have hk : kdZ m = 2 := by unfold kdZ; rw [if_pos hab]
    rw [if_pos hab] at h3
    simp only [Bool.and_eq_true, Bool.not_eq_true', decide_eq_true_eq] at h3
    obtain ⟨k1, k2, k3, k4, k5⟩ := h3
    simp only [hk, hab, if_true, List.nil_append]
    obtain ⟨st, ab, nm, ret, args, sk, lo, code, hs⟩ := m
    simp only at hab k1 k2 k3 k4 k5
    obtain rfl : code = [] := List.eq_nil_of_length_eq_zero k4
    obtain rfl : hs = [] := List.eq_nil_of_length_eq_zero k5
    subst hab k1 k2 k3
    simp only [Me.pr, tyO_D, map_OD]
    rfl
  · have hab : m.ab = false := by simpa using hab
    have hk : kdZ m = flg m.st := by unfold kdZ; rw [hab]; rfl
    have hk2 : ¬ flg m.st = 2 := by cases m.st <;> decide
    rw [hab] at h3
    simp only [Bool.false_eq_true, if_false, decide_eq_true_eq] at h3
    obtain ⟨c1, c2, c3, c4, c5⟩ := checkZ_nums hf h3 hp
    have g1 := fun q => gU_fwd m.sk q c1
    have g2 := fun q => gU_fwd m.lo q c2
    have g3 := fun q => gU_fwd (m.code.length : Int) q ⟨by omega, by omega⟩
    have g4 := gB_fwd m.code
    have g5 := gLs_fwd 256 (by decide) gHd_fwd m.hs r ⟨by omega, c5⟩
    simp only [hk, hk2, hab, if_false, Bool.false_eq_true]
    unfold gMt meT
    simp only [List.append_assoc, g1, g2, g3, g4, g5, decide_false, flg_one]
    obtain ⟨st, ab, nm, ret, args, sk, lo, code, hs⟩ := m
    simp only at hab
    subst hab
    simp only [Me.pr, tyO_D, map_OD]
theorem gPool_fit {s : RSt} (hf : Fit .u8 s.1) : Fit .u8 (gPool s).2.1 := by
  unfold gPool
  split
  · simp only
    split
    · exact hf
    · exact hf.drop _
  · exact hf
theorem suf_drop {l m : List Int} (h : m <:+ l) : l.drop (l.length - m.length) = m := by
  obtain ⟨p, rfl⟩ := h
  rw [List.length_append, show p.length + m.length - m.length = p.length by omega, List.drop_left]
theorem gPool_back : ∀ s : RSt, Fit .u8 s.1 → (gPool s).2.2 = false → s.2 = false ∧ s.1 = bytesZ (gPool s).1 ++ (gPool s).2.1 := fun s hf h => by
  unfold gPool at h ⊢
  split at h <;> rename_i h1
  · rw [if_pos h1]
    simp only at h ⊢
    split at h <;> rename_i h2
    · cases h
    · rw [if_neg h2]
      refine ⟨by cases h : s.2 <;> simp_all, ?_⟩
      rw [suf_drop (many_all hf).2]
      exact (parse_back hf h1).2.1.symm
  · cases h
theorem gPool_fwd {l : List Cst} (hc : checkC l = 0) (ht : Told l) (r : List Int) : gPool (bytesZ l ++ r, false) = (l, r, false) := by
  obtain ⟨h1, h2⟩ := parse_bytes hc ht r
  unfold gPool
  simp only [h2, if_true, h1, Bool.false_eq_true, if_false]
  rw [suf_drop (List.suffix_append _ _)]
theorem gHead_fit {b : List Int} (hf : Fit .u8 b) : Fit .u8 (gHead b).1 := (gB_fit hf).2
theorem gHead_back {b : List Int} (h : (gHead b).2 = false) : b = [87, 66, 1] ++ (gHead b).1 := by
  have h' : (gB 3 (b, false)).2.2 = false ∧ (gB 3 (b, false)).1 = [87, 66, 1] := by simpa [gHead] using h
  obtain ⟨-, h2, -⟩ := gB_back 3 (by decide) h'.1
  rw [h'.2] at h2
  exact h2
theorem gHead_fwd (r : List Int) : gHead ([87, 66, 1] ++ r) = (r, false) := by
  unfold gHead
  rw [show (3 : Int) = ([87, 66, 1] : List Int).length from rfl, gB_fwd]
  simp
theorem gTl_back (l : List Cst) : ∀ s : RSt, Fit .u8 s.1 → (gTl l s).2.2 = false → s.2 = false ∧ s.1 = tlZ (gTl l s).1 ++ (gTl l s).2.1 := fun s hf h => by
  have f1 := gUp_fit (k := 1) hf
  have f2 := gTx_fit f1
  have f3 := gTx_fit f2
  have f4 := gLs_fit (k := 64) (fun _ => gTx_fit) f3
  have f5 := gLs_fit (k := 256) (fun _ => gFd_fit) f4
  have r := gUp_le (k := 1) (by decide) hf
  obtain ⟨h1, e1⟩ := gLs_back 256 (by decide) gMe_back (fun _ h => (gMe_fit h).1) _ f5 h
  obtain ⟨h2, e2⟩ := gLs_back 256 (by decide) gFd_back (fun _ => gFd_fit) _ f4 h1
  obtain ⟨h3, e3⟩ := gLs_back 64 (by decide) gTx_back (fun _ => gTx_fit) _ f3 h2
  obtain ⟨h4, e4⟩ := gTx_back _ f2 h3
  obtain ⟨h5, e5⟩ := gTx_back _ f1 h4
  obtain ⟨h6, e6⟩ := gUp_back 1 _ hf h5
  refine ⟨h6, ?_⟩
  unfold tlZ gTl
  simp only [List.append_assoc, flg_back r.1 r.2]
  rw [← e1, ← e2, ← e3, ← e4, ← e5, ← e6]
theorem okCl_parts {c : Cl} (h : okCl c = true) : checkC c.pool = 0 ∧ nmB c.nm = true ∧ (c.sup = .empty ∨ nmB c.sup = true) ∧ c.ifs.length ≤ 64 ∧ (∀ x ∈ c.ifs, nmB x = true) ∧ c.fds.length ≤ 256 ∧ (∀ x ∈ c.fds, okFd x = true) ∧ c.mts.length ≤ 256 ∧ ∀ x ∈ c.mts, okMe c.pool x = true := by
  unfold okCl at h
  simp only [Bool.and_eq_true, Bool.or_eq_true, decide_eq_true_eq, List.all_eq_true] at h
  exact h
def Good (c : Cl) : Prop := Told c.pool ∧ ∀ m ∈ c.mts, Fit .u8 m.code
theorem gTl_fwd {c : Cl} (h : okCl c = true) (hg : Good c) (r : List Int) : gTl c.pool (tlZ c ++ r, false) = (c, r, false) := by
  obtain ⟨h1, h2, h3, h4, h5, h6, h7, h8, h9⟩ := okCl_parts h
  have hp := (check_all h1).1
  have hs : TX c.sup := by
    rcases h3 with h3 | h3
    · rw [h3]; exact Nat.zero_le _
    · have := nameB_size h3; unfold TX; omega
  have e1 := fun q => gUp_fwd 1 (flg c.inf) q (flg_nn _)
  have e2 := fun q => gTx_fwd c.nm q (by have := nameB_size h2; unfold TX; omega)
  have e3 := fun q => gTx_fwd c.sup q hs
  have e4 := fun q => gLs_fwd 64 (by decide) gTx_fwd c.ifs q ⟨by omega, fun x hx => by have := nameB_size (h5 x hx); unfold TX; omega⟩
  have e5 := fun q => gLs_fwd 256 (by decide) gFd_fwd c.fds q ⟨by omega, h7⟩
  have e6 := fun q => gLs_fwd 256 (by decide) (gMe_fwd hp) c.mts q ⟨by omega, fun x hx => ⟨h9 x hx, hg.2 x hx⟩⟩
  unfold gTl tlZ
  simp only [List.append_assoc, e1, e2, e3, e4, e5, e6, flg_one]
theorem gCl_fwd {c : Cl} (h : okCl c = true) (hg : Good c) (r : List Int) : gCl (clZ c ++ r) = (c, r, false) := by
  have h1 := (okCl_parts h).1
  unfold gCl clZ
  rw [List.append_assoc, gHead_fwd, List.append_assoc, gPool_fwd h1 hg.1]
  exact gTl_fwd h hg r
theorem gCl_back {b : List Int} (hf : Fit .u8 b) (h : (gCl b).2.2 = false) : b = clZ (gCl b).1 ++ (gCl b).2.1 := by
  have f1 := gHead_fit hf
  have f2 := gPool_fit f1
  obtain ⟨h1, e1⟩ := gTl_back _ _ f2 h
  obtain ⟨h2, e2⟩ := gPool_back _ f1 h1
  have e3 := gHead_back h2
  unfold clZ
  rw [List.append_assoc, List.append_assoc]
  rw [show (gCl b).1.pool = (gPool (gHead b)).1 from rfl]
  exact e3.trans (by rw [e2, e1]; rfl)
theorem gIt_all {α : Type} {one : RSt → α × RSt} {Q : α → Prop} (hft : ∀ s, Fit .u8 s.1 → Fit .u8 (one s).2.1 ∧ Q (one s).1) : ∀ (n : Nat) (acc : List α) (s : RSt), Fit .u8 s.1 → (∀ x ∈ acc, Q x) → ∀ x ∈ (gIt one n acc s).1, Q x := by
  intro n
  induction n with
  | zero => intro acc s hf h; exact h
  | succ n ih =>
    intro acc s hf h
    unfold gIt
    split
    · exact h
    · obtain ⟨h1, h2⟩ := hft s hf
      refine ih _ _ h1 fun x hx => ?_
      rcases List.mem_append.1 hx with hx | hx
      · exact h x hx
      · rw [List.mem_singleton.1 hx]; exact h2
theorem gCl_good {b : List Int} (hf : Fit .u8 b) (hl : b.length ≤ 140737488351232) : Good (gCl b).1 := by
  have f1 := gHead_fit hf
  have hb1 : (gHead b).1.length ≤ b.length := by
    unfold gHead gB
    split
    · exact Nat.le_refl _
    · simp
  refine ⟨?_, ?_⟩
  · rw [show (gCl b).1.pool = (gPool (gHead b)).1 from rfl]
    unfold gPool
    split
    · exact fun x hx => by
        obtain ⟨p1, p2⟩ := (many_all f1).1 x hx
        refine ⟨p1, ?_⟩
        have := p2.2
        omega
    · intro x hx; cases hx
  · have f2 := gPool_fit f1
    have f3 := gUp_fit (k := 1) f2
    have f4 := gTx_fit f3
    have f5 := gTx_fit f4
    have f6 := gLs_fit (k := 64) (fun _ => gTx_fit) f5
    have f7 := gLs_fit (k := 256) (fun _ => gFd_fit) f6
    exact gIt_all (Q := fun (m : Me) => Fit .u8 m.code) (fun s h => gMe_fit h) _ [] _ (gUp_fit f7) (fun _ h => by cases h)
theorem parseK_fwd {c : Cl} (h : okCl c = true) (hg : Good c) (hl : (clZ c).length ≤ 65535) : parseK (clZ c) = (c, 0) := by
  have e := gCl_fwd h hg []
  rw [List.append_nil] at e
  unfold parseK
  rw [if_neg (by omega), e, if_neg (by simp), if_pos h]
theorem parseK_back {b : List Int} (hf : Fit .u8 b) (h : (parseK b).2 = 0) : b.length ≤ 65535 ∧ okCl (parseK b).1 = true ∧ Good (parseK b).1 ∧ clZ (parseK b).1 = b := by
  unfold parseK at h ⊢
  split at h <;> rename_i h1
  · cases h
  · rw [if_neg h1]
    split at h <;> rename_i h2
    · cases h
    · rw [if_neg h2]
      split at h <;> rename_i h3
      · rw [if_pos h3]
        have h4 : (gCl b).2.2 = false := by cases h : (gCl b).2.2 <;> simp_all
        have h5 : (gCl b).2.1 = [] := List.eq_nil_of_length_eq_zero (by have := fun e => h2 (.inr e); omega)
        have := gCl_back hf h4
        rw [h5, List.append_nil] at this
        exact ⟨by omega, h3, gCl_good hf (by omega), this.symm⟩
      · cases h
theorem parseK_err (b : List Int) : (parseK b).2 = 0 ∨ (parseK b = (cl0, 5) ∧ 65535 < b.length) ∨ (parseK b = (cl0, 80) ∧ b.length ≤ 65535) := by
  unfold parseK
  split <;> rename_i h1
  · exact .inr (.inl ⟨rfl, h1⟩)
  · split
    · exact .inr (.inr ⟨rfl, by omega⟩)
    · split
      · exact .inl rfl
      · exact .inr (.inr ⟨rfl, by omega⟩)
theorem parseK_more {c : Cl} (h : okCl c = true) (hg : Good c) {r : List Int} (hr : 0 < r.length) (hl : (clZ c ++ r).length ≤ 65535) : parseK (clZ c ++ r) = (cl0, 80) := by
  unfold parseK
  rw [if_neg (by omega), gCl_fwd h hg r, if_pos (.inr hr)]
theorem parseK_less {c : Cl} (hf : Fit .u8 (clZ c)) (h : okCl c = true) (hg : Good c) {k : Nat} (hk : k < (clZ c).length) (hl : (clZ c).length ≤ 65535) : parseK ((clZ c).take k) = (cl0, 80) := by
  rcases parseK_err ((clZ c).take k) with e | e | e
  · obtain ⟨h1, h2, h3, h4⟩ := parseK_back (hf.take k) e
    exfalso
    have e1 := gCl_fwd h2 h3 ((clZ c).drop k)
    rw [h4, List.take_append_drop] at e1
    have e2 := gCl_fwd h hg []
    rw [List.append_nil] at e2
    rw [e2] at e1
    injection e1 with _ e1
    injection e1 with e1 _
    have := congrArg List.length e1
    simp at this
    omega
  · have := e.2
    simp at this
    omega
  · exact e.1
theorem clZ_inj {c d : Cl} (h : okCl c = true) (hg : Good c) (h' : okCl d = true) (hg' : Good d) (e : clZ c = clZ d) : c = d := by
  have e1 := gCl_fwd h hg []
  have e2 := gCl_fwd h' hg' []
  rw [e, e2] at e1
  injection e1 with e1 _
  exact e1.symm
end Go.Proofs.YtokmeomjdpfknaaGreatDoor
/- A class that comes in, opened: what is told of it, and how great it may be. -/
namespace Go.Proofs.YtokmeomjdpfknaaGreatDoor
open Go.RowKit Go.ChangeShapes Go.WideShapes Go.Deep
set_option linter.unusedVariables false
section
variable {H : Type} {enc : TypeId × Value → H} {w : World}
theorem light_string {t : TypeId} {l : List UInt8} (h : Light t (.lit (.string l) : DataW H)) : l.length ≤ 140737488351232 := h l.length (by simp [DataW.weights])
theorem light_str {t : TypeId} {x : DataW H × List MemPlace} {s : ByteArray} (hx : x = (.lit (.string s.data.toList), [])) (h : Light t x.1) : s.size ≤ 140737488351232 := by
  subst hx
  have := light_string h
  rw [Lib.size_eq]
  exact this
theorem open_strG (fuel : Nat) (cs : List Value) (x : DataW H × List MemPlace) (h : DataW.trod enc Tryz.prog w 0 (fun _ => true) true fuel 9 cs = some x) (hl : Light 9 x.1) :
    ∃ y : ByteArray, cs = (ShS.vals y).toList ∧ ShS.nest w y ∧ y.size ≤ 140737488351232 := by
  obtain ⟨s, e, r, -⟩ := DataW.trod_string Tryz.underlying9 h
  exact ⟨s, e, trivial, light_str r hl⟩
set_option maxRecDepth 100000 in
theorem open_tyG (fuel : Nat) (cs : List Value) (x : DataW H × List MemPlace) (h : DataW.trod enc Tryz.prog w 0 (fun _ => true) true fuel 41 cs = some x) (hl : Light 41 x.1) :
    ∃ y : Ty, cs = y.vals.toList ∧ True ∧ TyOk y := by
  obtain ⟨ys, n', hn', hy, hlen, hyl, hf⟩ := DataW.trod_struct Tryz.underlying41 h
  have hc : cs.length = 2 := hlen.trans (by kernel_rfl)
  have k3 : Tryz.prog.cellsOf 3 = 1 := by kernel_rfl
  have k9 : Tryz.prog.cellsOf 9 = 1 := by kernel_rfl
  match cs, hc with
  | [c0, c1], _ =>
    have hyl' : ys.length = 2 := hyl
    clear hyl
    match ys, hyl' with
    | [y0, y1], _ =>
      subst hy
      have h0 : DataW.trod enc Tryz.prog w 0 (fun _ => true) true n' 3 [c0] = some y0 := by simpa [k3, k9] using hf 0 _ rfl
      have h1 : DataW.trod enc Tryz.prog w 0 (fun _ => true) true n' 9 [c1] = some y1 := by simpa [k3, k9] using hf 1 _ rfl
      obtain ⟨x0, e0, r0, w0⟩ := DataW.trod_int Tryz.underlying3 h0
      obtain ⟨x1, e1, r1, w1⟩ := DataW.trod_string Tryz.underlying9 h1
      have hs := light_str r1 (light_struct Tryz.underlying41 hl (j := 1) rfl rfl)
      injection e0 with e0
      injection e1 with e1
      subst e0 e1
      exact ⟨⟨x0, x1⟩, rfl, trivial, ⟨(bounds_i64 w0).1, (bounds_i64 w0).2⟩, hs⟩
set_option maxRecDepth 100000 in
theorem open_fieldG (fuel : Nat) (cs : List Value) (x : DataW H × List MemPlace) (h : DataW.trod enc Tryz.prog w 0 (fun _ => true) true fuel 63 cs = some x) (hl : Light 63 x.1) :
    ∃ y : Fd, cs = (ShF.vals y).toList ∧ ShF.nest w y ∧ (y.nm.size ≤ 140737488351232 ∧ TyOk y.ty) := by
  obtain ⟨ys, n', hn', hy, hlen, hyl, hf⟩ := DataW.trod_struct Tryz.underlying63 h
  have hc : cs.length = 4 := hlen.trans (by kernel_rfl)
  have k4 : Tryz.prog.cellsOf 4 = 1 := by kernel_rfl
  have k9 : Tryz.prog.cellsOf 9 = 1 := by kernel_rfl
  have kt : Tryz.prog.cellsOf 41 = 2 := by kernel_rfl
  match cs, hc with
  | [c0, c1, c2, c3], _ =>
    have hyl' : ys.length = 3 := hyl
    clear hyl
    match ys, hyl' with
    | [y0, y1, y2], _ =>
      subst hy
      have h0 : DataW.trod enc Tryz.prog w 0 (fun _ => true) true n' 4 [c0] = some y0 := by simpa [k4] using hf 0 _ rfl
      have h1 : DataW.trod enc Tryz.prog w 0 (fun _ => true) true n' 9 [c1] = some y1 := by simpa [k9] using hf 1 _ rfl
      have h2 : DataW.trod enc Tryz.prog w 0 (fun _ => true) true n' 41 [c2, c3] = some y2 := by simpa [kt] using hf 2 _ rfl
      obtain ⟨x0, e0, r0⟩ := DataW.trod_bool Tryz.underlying4 h0
      obtain ⟨x1, e1, r1, w1⟩ := DataW.trod_string Tryz.underlying9 h1
      have hs := light_str r1 (light_struct Tryz.underlying63 hl (j := 1) rfl rfl)
      obtain ⟨ty, et, -, ht⟩ := open_tyG _ _ _ h2 (light_struct Tryz.underlying63 hl (j := 2) rfl rfl)
      have et' : c2 = .int .i64 ty.k ∧ c3 = .string ty.s := by
        simp [Ty.vals] at et
        exact et
      obtain ⟨rfl, rfl⟩ := et'
      injection e0 with e0
      injection e1 with e1
      subst e0 e1
      exact ⟨⟨x0, x1, ty⟩, rfl, trivial, hs, ht⟩
set_option maxRecDepth 100000 in
theorem open_methQ (fuel : Nat) (cs : List Value) (x : DataW H × List MemPlace) (h : DataW.trod enc Tryz.prog w 0 (fun _ => true) true fuel 47 cs = some x) (hl : Light 47 x.1) :
    ∃ y : MeV, cs = (ShM.vals y).toList ∧ ShM.nest w y ∧ (MeRoom y.1 ∧ MeOk y.1) := by
  obtain ⟨ys, n', hn', hy, hlen, hyl, hf⟩ := DataW.trod_struct Tryz.underlying47 h
  have hc : cs.length = 10 := hlen.trans (by kernel_rfl)
  have k4 : Tryz.prog.cellsOf 4 = 1 := by kernel_rfl
  have k3 : Tryz.prog.cellsOf 3 = 1 := by kernel_rfl
  have k9 : Tryz.prog.cellsOf 9 = 1 := by kernel_rfl
  have kp : Tryz.prog.cellsOf 44 = 3 := by kernel_rfl
  have kt : Tryz.prog.cellsOf 41 = 2 := by kernel_rfl
  have kb : Tryz.prog.cellsOf 29 = 1 := by kernel_rfl
  have kh : Tryz.prog.cellsOf 45 = 1 := by kernel_rfl
  have ka : Tryz.prog.cellsOf 42 = 1 := by kernel_rfl
  have k8 : Tryz.prog.cellsOf 5 = 1 := by kernel_rfl
  have b8 : Tryz.prog.bytesOf 5 = 1 := by kernel_rfl
  match cs, hc with
  | [c0, c1, c2, c3, c4, c5, c6, c7, c8, c9], _ =>
    have hyl' : ys.length = 8 := hyl
    clear hyl
    match ys, hyl' with
    | [y0, y1, y2, y3, y4, y5, y6, y7], _ =>
      subst hy
      have h0 : DataW.trod enc Tryz.prog w 0 (fun _ => true) true n' 4 [c0] = some y0 := by simpa [k4] using hf 0 _ rfl
      have h1 : DataW.trod enc Tryz.prog w 0 (fun _ => true) true n' 4 [c1] = some y1 := by simpa [k4] using hf 1 _ rfl
      have h2 : DataW.trod enc Tryz.prog w 0 (fun _ => true) true n' 9 [c2] = some y2 := by simpa [k9] using hf 2 _ rfl
      have h3 : DataW.trod enc Tryz.prog w 0 (fun _ => true) true n' 44 [c3, c4, c5] = some y3 := by simpa [kp] using hf 3 _ rfl
      have h4 : DataW.trod enc Tryz.prog w 0 (fun _ => true) true n' 3 [c6] = some y4 := by simpa [k3] using hf 4 _ rfl
      have h5 : DataW.trod enc Tryz.prog w 0 (fun _ => true) true n' 3 [c7] = some y5 := by simpa [k3] using hf 5 _ rfl
      have h6 : DataW.trod enc Tryz.prog w 0 (fun _ => true) true n' 29 [c8] = some y6 := by simpa [kb] using hf 6 _ rfl
      have h7 : DataW.trod enc Tryz.prog w 0 (fun _ => true) true n' 45 [c9] = some y7 := by simpa [kh] using hf 7 _ rfl
      have l3 : Light 44 y3.1 := light_struct Tryz.underlying47 hl (j := 3) rfl rfl
      obtain ⟨x0, e0, r0⟩ := DataW.trod_bool Tryz.underlying4 h0
      obtain ⟨x1, e1, r1⟩ := DataW.trod_bool Tryz.underlying4 h1
      obtain ⟨x2, e2, r2, w2⟩ := DataW.trod_string Tryz.underlying9 h2
      have hs := light_str r2 (light_struct Tryz.underlying47 hl (j := 2) rfl rfl)
      obtain ⟨x4, e4, r4, w4⟩ := DataW.trod_int Tryz.underlying3 h4
      obtain ⟨x5, e5, r5, w5⟩ := DataW.trod_int Tryz.underlying3 h5
      obtain ⟨A6, n6, c6', l6, e6, q6, s6, z6⟩ := open_listI Tryz.underlying29 Tryz.underlying5 k8 b8 h6 (light_struct Tryz.underlying47 hl (j := 6) rfl rfl)
      obtain ⟨A7, n7, c7', l7, e7, q7, s7, z7, -⟩ := open_listG ShH (bytes := 32) (Q := fun _ => True) Tryz.underlying45 (by kernel_rfl) (by kernel_rfl) open_handG h7 (light_struct Tryz.underlying47 hl (j := 7) rfl rfl)
      obtain ⟨ps, n2, hn2, hp, hplen, hpl, hpf⟩ := DataW.trod_struct Tryz.underlying44 h3
      have hpl' : ps.length = 2 := hpl
      clear hpl
      match ps, hpl' with
      | [p0, p1], _ =>
        rw [hp] at l3
        have g0 : DataW.trod enc Tryz.prog w 0 (fun _ => true) true n2 41 [c3, c4] = some p0 := by simpa [kt] using hpf 0 _ rfl
        have g1 : DataW.trod enc Tryz.prog w 0 (fun _ => true) true n2 42 [c5] = some p1 := by simpa [ka] using hpf 1 _ rfl
        obtain ⟨ty, et, -, ht⟩ := open_tyG _ _ _ g0 (light_struct Tryz.underlying44 l3 (j := 0) rfl rfl)
        obtain ⟨A8, n8, c8', l8, e8, q8, s8, z8, hts⟩ := open_listG ShT (bytes := 24) (Q := TyOk) Tryz.underlying42 (by kernel_rfl) (by kernel_rfl) open_tyG g1 (light_struct Tryz.underlying44 l3 (j := 1) rfl rfl)
        have et' : c3 = .int .i64 ty.k ∧ c4 = .string ty.s := by
          simp [Ty.vals] at et
          exact et
        obtain ⟨rfl, rfl⟩ := et'
        injection e0 with e0
        injection e1 with e1
        injection e2 with e2
        injection e4 with e4
        injection e5 with e5
        injection e6 with e6
        injection e7 with e7
        injection e8 with e8
        subst e0 e1 e2 e4 e5 e6 e7 e8
        have z6' : l6.length ≤ reachBytes := by simpa using z6
        exact ⟨(⟨x0, x1, x2, ty, l8, x4, x5, l6, l7⟩, _, _, _), rfl, ⟨s8, s6, s7⟩, ⟨hs, ht, hts, z6'⟩, z6', z7, z8, bounds_i64 w4, bounds_i64 w5⟩
structure ClSize (c : Cl) : Prop where
  pool : c.pool.length * 56 ≤ 140737488351232
  ifs : c.ifs.length * 16 ≤ 140737488351232
  fds : c.fds.length * 48 ≤ 140737488351232
  mts : c.mts.length * 136 ≤ 140737488351232
  each : ∀ m ∈ c.mts, MeOk m
set_option maxRecDepth 100000 in
theorem open_classG (fuel : Nat) (cs : List Value) (x : DataW H × List MemPlace) (h : DataW.trod enc Tryz.prog w 0 (fun _ => true) true fuel 27 cs = some x) (hl : Light 27 x.1) :
    ∃ (c : Cl) (vp vi vf vm : Value), cs = (c.vals vp vi vf vm).toList ∧ ClAt w c vp vi vf vm ∧ ClRoom c ∧ ClSize c ∧ tot c.pool ≤ Rows.uptoBulk x.1 := by
  obtain ⟨ys, n', hn', hy, hlen, hyl, hf⟩ := DataW.trod_struct Tryz.underlying27 h
  have hc : cs.length = 7 := hlen.trans (by kernel_rfl)
  have k4 : Tryz.prog.cellsOf 4 = 1 := by kernel_rfl
  have k9 : Tryz.prog.cellsOf 9 = 1 := by kernel_rfl
  have kc : Tryz.prog.cellsOf 22 = 1 := by kernel_rfl
  have ks : Tryz.prog.cellsOf 23 = 1 := by kernel_rfl
  have kf : Tryz.prog.cellsOf 24 = 1 := by kernel_rfl
  have km : Tryz.prog.cellsOf 25 = 1 := by kernel_rfl
  match cs, hc with
  | [c0, c1, c2, c3, c4, c5, c6], _ =>
    have hyl' : ys.length = 7 := hyl
    clear hyl
    match ys, hyl' with
    | [y0, y1, y2, y3, y4, y5, y6], _ =>
      subst hy
      have h0 : DataW.trod enc Tryz.prog w 0 (fun _ => true) true n' 22 [c0] = some y0 := by simpa [kc] using hf 0 _ rfl
      have h1 : DataW.trod enc Tryz.prog w 0 (fun _ => true) true n' 9 [c1] = some y1 := by simpa [k9] using hf 1 _ rfl
      have h2 : DataW.trod enc Tryz.prog w 0 (fun _ => true) true n' 9 [c2] = some y2 := by simpa [k9] using hf 2 _ rfl
      have h3 : DataW.trod enc Tryz.prog w 0 (fun _ => true) true n' 4 [c3] = some y3 := by simpa [k4] using hf 3 _ rfl
      have h4 : DataW.trod enc Tryz.prog w 0 (fun _ => true) true n' 23 [c4] = some y4 := by simpa [ks] using hf 4 _ rfl
      have h5 : DataW.trod enc Tryz.prog w 0 (fun _ => true) true n' 24 [c5] = some y5 := by simpa [kf] using hf 5 _ rfl
      have h6 : DataW.trod enc Tryz.prog w 0 (fun _ => true) true n' 25 [c6] = some y6 := by simpa [km] using hf 6 _ rfl
      have hl0 : Light 22 y0.1 := light_struct Tryz.underlying27 hl (j := 0) rfl rfl
      obtain ⟨A0, n0, c0', l0, sp, e0, q0, s0, m0', hd0⟩ := open_consts h0
      obtain ⟨x1, e1, r1, w1⟩ := DataW.trod_string Tryz.underlying9 h1
      have hs1 := light_str r1 (light_struct Tryz.underlying27 hl (j := 1) rfl rfl)
      obtain ⟨x2, e2, r2, w2⟩ := DataW.trod_string Tryz.underlying9 h2
      have hs2 := light_str r2 (light_struct Tryz.underlying27 hl (j := 2) rfl rfl)
      obtain ⟨x3, e3, r3⟩ := DataW.trod_bool Tryz.underlying4 h3
      obtain ⟨A4, n4, c4', l4, e4, q4, s4, z4, hq4⟩ := open_listG ShS (bytes := 16) (Q := fun y => y.size ≤ 140737488351232) Tryz.underlying23 (by kernel_rfl) (by kernel_rfl) open_strG h4 (light_struct Tryz.underlying27 hl (j := 4) rfl rfl)
      obtain ⟨A5, n5, c5', l5, e5, q5, s5, z5, hq5⟩ := open_listG ShF (bytes := 48) (Q := fun y => y.nm.size ≤ 140737488351232 ∧ TyOk y.ty) Tryz.underlying24 (by kernel_rfl) (by kernel_rfl) open_fieldG h5 (light_struct Tryz.underlying27 hl (j := 5) rfl rfl)
      obtain ⟨A6, n6, c6', l6, e6, q6, s6, z6, hq6⟩ := open_listG ShM (bytes := 136) (Q := fun y => MeRoom y.1 ∧ MeOk y.1) Tryz.underlying25 (by kernel_rfl) (by kernel_rfl) open_methQ h6 (light_struct Tryz.underlying27 hl (j := 6) rfl rfl)
      have hp : (l0.length * 56 ≤ 140737488351232 ∧ ∀ y ∈ l0, y.t.size ≤ 140737488351232) ∧ tot l0 ≤ Rows.uptoBulk y0.1 := by
        rcases hd0 with ⟨rfl, hd⟩ | hd
        · exact ⟨⟨by simp, fun _ h => by cases h⟩, Nat.zero_le _⟩
        · rw [hd] at hl0 ⊢
          refine ⟨?_, bulk_consts _ _⟩
          have hw := light_slice Tryz.underlying22 hl0
          have hb : Tryz.prog.bytesOf 49 = 56 := by kernel_rfl
          rw [hb, List.length_map] at hw
          refine ⟨Nat.le_trans (Nat.mul_le_mul_right _ (Nat.le_add_right _ _)) hw.1, fun y hy => ?_⟩
          have := hw.2 _ (List.mem_map_of_mem hy) _ (dat_weightsP y)
          rw [Lib.size_eq]
          exact this
      injection e0 with e0
      injection e1 with e1
      injection e2 with e2
      injection e3 with e3
      injection e4 with e4
      injection e5 with e5
      injection e6 with e6
      subst e0 e1 e2 e3 e4 e5 e6
      refine ⟨⟨l0, x3, x1, x2, l4, l5, l6.map (·.1)⟩, _, _, _, _, rfl, ⟨s0.shp, s4, s5, l6, rfl, s6⟩, ⟨fun y hy => ⟨?_, hp.1.2 y hy⟩, hs1, hs2, hq4, hq5, fun m hm => ?_⟩, ⟨hp.1.1, z4, z5, by rw [List.length_map]; exact z6, fun m hm => ?_⟩, ?_⟩
      · exact s0.all y hy
      · obtain ⟨y, hy, rfl⟩ := List.mem_map.1 hm
        exact (hq6 y hy).1
      · obtain ⟨y, hy, rfl⟩ := List.mem_map.1 hm
        exact (hq6 y hy).2
      · refine Nat.le_trans hp.2 ?_
        simp only [List.map_cons, Rows.uptoBulk, Rows.uptoBulkAll]
        omega
end
theorem texts_room {c : Cl} (h : ClRoom c) : Texts c.pool := fun y hy => (h.pool y hy).2
theorem good_of {w : World} {c : Cl} {vp vi vf vm : Value} (h : ClAt w c vp vi vf vm) (hr : ClRoom c) : Good c := by
  refine ⟨(texts_room hr).told fun x hx => (hr.pool x hx).1, fun m hm => ?_⟩
  obtain ⟨es, e, hM⟩ := h.2.2.2
  rw [← e] at hm
  obtain ⟨y, hy, rfl⟩ := List.mem_map.1 hm
  exact (hM.low y hy).2.1.fit
end Go.Proofs.YtokmeomjdpfknaaGreatDoor
/- What the end of each law's proof of layer 8 needs: the three tables that its row lists, and a world that holds them. -/
namespace Go.Proofs.YtokmeomjdpfknaaGreatDoor
open Go.ChangeShapes Go.WideShapes Go.ChangeAt Go.RowKit Go.Lib
set_option linter.unusedVariables false
def mostNums : List Int := [64, 256, 256, 256]
theorem accept_eq : (Rows.laid_unicode_utf8_acceptRanges : DataW Unit) = Lib.acceptData := by kernel_rfl
theorem first_eq : Rows.laid_unicode_utf8_first = Lib.firstData := by kernel_rfl
theorem most_eq : (Rows.laid_warpbeam_class_most : DataW Unit) = Lib.tabData .i64 mostNums := by kernel_rfl
def Listed : List (String × DataW Unit) := [("unicode/utf8.acceptRanges", Rows.laid_unicode_utf8_acceptRanges), ("warpbeam/class.most", Rows.laid_warpbeam_class_most), ("unicode/utf8.first", Rows.laid_unicode_utf8_first)]
theorem Listed_eq : Listed = [("unicode/utf8.acceptRanges", Lib.acceptData), ("warpbeam/class.most", Lib.tabData .i64 mostNums), ("unicode/utf8.first", Lib.firstData)] := by
  unfold Listed
  rw [accept_eq, first_eq, most_eq]
theorem tabIs_of_read {P : Program} {W : World} {name : String} {k : IntKind} {zs : List Int} {g : Nat} {t e : TypeId} {n : Nat}
    (hg : P.globalNamed name = some g) (hty : (P.globals[g]?).map (·.type) = some t) (ht : P.underlying t = some (.array n e)) (he : P.underlying e = some (.int k)) (hce : P.cellsOf e = 1) (hct : P.cellsOf t = n)
    (h : Lib.VarReads P W name (Lib.tabData k zs)) : Lib.TabIs P W name k zs := by
  obtain ⟨g', t', cs, fuel, p, hg', ht', hvar, hd⟩ := h
  obtain rfl := Option.some.inj (hg.symm.trans hg')
  obtain rfl := Option.some.inj (hty.symm.trans ht')
  unfold Lib.TabIs
  rw [hvar, ← Lib.cells_of_tab ht he hce hct hd]
theorem most_of {W : World} (h : Lib.TabIs Tryz.prog W "warpbeam/class.most" .i64 mostNums) : Most W := by
  unfold Lib.TabIs World.var? at h
  rw [show Tryz.prog.globalNamed "warpbeam/class.most" = some 0 from by kernel_rfl] at h
  simp only [Option.bind_some] at h
  cases hx : W.heap[0]? with
  | none => simp [hx] at h
  | some o =>
    rw [hx] at h
    cases o with
    | cells cs T z =>
      have h3 : cs = #[Value.int .i64 64, .int .i64 256, .int .i64 256, .int .i64 256] := by
        injection h
      subst h3
      refine ⟨lt_of_get hx, fun i hi => ?_⟩
      unfold World.cell?
      simp only [hx]
      match i, hi with
      | 0, _ => rfl
      | 1, _ => rfl
      | 2, _ => rfl
      | 3, _ => rfl
    | _ => simp at h
theorem tabs_of {W : World} (hL : laidMetH Tryz.prog Listed W) : Tabs W ∧ Most W := by
  rw [Listed_eq] at hL
  refine ⟨utf8Tabs_of_readsT (U8Types.of196 Tryz.lays196) ⟨by kernel_rfl, by kernel_rfl, by kernel_rfl, by kernel_rfl, by kernel_rfl, by kernel_rfl, by kernel_rfl⟩ (Lib.laidMet.reads hL (.tail _ (.tail _ (.head _)))) (Lib.laidMet.reads hL (.head _)), most_of ?_⟩
  exact tabIs_of_read (g := 0) (t := 174) (e := 3) (n := 4) (by kernel_rfl) (by kernel_rfl) Tryz.underlying174 Tryz.underlying3 (by kernel_rfl) (by kernel_rfl) (Lib.laidMet.reads hL (.tail _ (.head _)))
noncomputable def laidWorld (os : Os) : World :=
  let w0 := World.holding Tryz.prog os ⟨#[], #[], []⟩
  let put (h : Array Obj) (g : Nat) (cs : Array Value) : Array Obj := h.modify g fun
    | .cells _ t frozen => .cells cs t frozen
    | o => o
  let h1 := put w0.heap 2 (Lib.firstTab.map fun z => Value.int .u8 z).toArray
  let h2 := put h1 3 ((List.range 16).flatMap fun i => [Value.int .u8 (Lib.accLo i), Value.int .u8 (Lib.accHi i)]).toArray
  let h3 := put h2 0 (mostNums.map fun z => Value.int .i64 z).toArray
  { w0 with heap := h3 }
theorem laid_met (os : Os) (args : Array Value) : laidMet Tryz.prog Listed ((laidWorld os).forCall (fun _ _ => 0) ⟨#[], args, []⟩).memory := by
  rw [Listed_eq]
  exact (LaidIn.of_run (l := [("unicode/utf8.acceptRanges", Lib.acceptData), ("warpbeam/class.most", Lib.tabData .i64 mostNums), ("unicode/utf8.first", Lib.firstData)]) [2, 3, 0] 8 (by kernel_rfl) (by kernel_rfl) (by kernel_rfl) (by kernel_rfl)).met
end Go.Proofs.YtokmeomjdpfknaaGreatDoor
