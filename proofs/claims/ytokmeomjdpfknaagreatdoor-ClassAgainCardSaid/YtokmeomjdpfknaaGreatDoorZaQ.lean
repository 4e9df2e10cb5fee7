/- Several texts of this proof, one behind the other. -/
import Derived.Test.YtokmeomjdpfknaaGreatDoorZaP
import Derived.Test.YtokmeomjdpfknaaGreatDoorZaE
import Derived.Test.YtokmeomjdpfknaaGreatDoorZaF
import Derived.Test.YtokmeomjdpfknaaGreatDoorZaD
import Derived.Laws.BitsAllLaws
import Derived.IntWalk
/- Constants as bytes, there and back: plain mathematics. -/
namespace Go.Proofs.YtokmeomjdpfknaaGreatDoor
open Go.RowKit
set_option linter.unusedVariables false

def encs (l : List Cst) : List Int := l.flatMap encC
theorem bytesZ_eq (l : List Cst) : bytesZ l = dg 1 10 l.length ++ encs (l.drop 1) := by
  unfold bytesZ encTo encs
  rw [List.take_length]
theorem encs_at {l : List Cst} {j : Nat} (h : j < l.length) : encs (l.drop j) = encC (gc l j) ++ encs (l.drop (j + 1)) := by
  unfold encs
  rw [List.drop_eq_getElem_cons h, List.flatMap_cons]
  congr 2
  simp [gc, h]
theorem t_empty {t : ByteArray} (h : t.toList = []) : t = .empty := toList_inj (by rw [h, ByteArray.toList_eq]; rfl)
theorem rdU_dg {n : Int} (h0 : 0 ≤ n) (h1 : n ≤ 9007199254740991) (r : List Int) : rdU (dg 1 10 n ++ r) 0 = (n, r, 0) := by
  unfold rdU
  rw [if_pos rfl]
  exact tU_dg h0 h1 r
theorem rdS_dg {n : Int} (h : I64 n) (r : List Int) : rdS (dg 2 10 n ++ r) 0 = (n, r, 0) := by
  unfold rdS
  rw [if_pos rfl]
  exact tS_dg (InB.start h.1 h.2 (.inl rfl)) (dg_len 2 10 n) r
theorem rdT_enc {t : ByteArray} (hv : Lib.validD t.data.toList = true) (hs : (encZ t.data.toList).length ≤ 9007199254740991) (r : List Int) :
    rdTP (dg 1 10 (encZ t.data.toList).length ++ (encZ t.data.toList ++ r)) 0 = (t, r, 0) := by
  obtain ⟨h1, h2⟩ := enc_back t hv
  unfold rdTP
  rw [rdU_dg (by omega) (by omega)]
  simp only
  rw [if_neg (by simp), if_neg (by rw [List.length_append]; omega), Int.toNat_natCast, List.take_left, List.drop_left, decT, if_pos h1, h2]
theorem rdOne_nil : rdOne [] = (c0, [], 3) := by
  unfold rdOne
  rw [if_pos rfl]
theorem rdOne_t (l : List Int) : rdOne (1 :: l) = (⟨1, (rdTP l 0).1, 0, 0, 0, 0⟩, (rdTP l 0).2) := by
  unfold rdOne
  rw [if_neg (by simp), if_pos (by rfl)]
  rfl
theorem rdOne_s {k : Int} (h : k = 2 ∨ k = 3) (l : List Int) : rdOne (k :: l) = (⟨k, .empty, (rdS l 0).1, 0, 0, 0⟩, (rdS l 0).2) := by
  unfold rdOne
  rw [if_neg (by simp), if_neg (show ¬ gi (k :: l) 0 = 1 by rw [gi_zero]; omega), if_pos (show gi (k :: l) 0 = 2 ∨ gi (k :: l) 0 = 3 by rw [gi_zero]; exact h)]
  rfl
theorem rdOne_c (l : List Int) : rdOne (4 :: l) = (⟨4, .empty, 0, (rdU l 0).1, 0, 0⟩, (rdU l 0).2) := by
  unfold rdOne
  rw [if_neg (by simp), if_neg (show ¬ gi (4 :: l) 0 = 1 by rw [gi_zero]; omega), if_neg (show ¬ (gi (4 :: l) 0 = 2 ∨ gi (4 :: l) 0 = 3) by rw [gi_zero]; omega), if_pos (show gi (4 :: l) 0 = 4 by rw [gi_zero])]
  rfl
theorem rdOne_m {k : Int} (h : k = 5 ∨ k = 6) (l : List Int) : rdOne (k :: l) = (⟨k, .empty, 0, (rdU l 0).1, (rdU (rdU l 0).2.1 (rdU l 0).2.2).1, (rdU (rdU (rdU l 0).2.1 (rdU l 0).2.2).2.1 (rdU (rdU l 0).2.1 (rdU l 0).2.2).2.2).1⟩, (rdU (rdU (rdU l 0).2.1 (rdU l 0).2.2).2.1 (rdU (rdU l 0).2.1 (rdU l 0).2.2).2.2).2) := by
  unfold rdOne
  rw [if_neg (by simp), if_neg (show ¬ gi (k :: l) 0 = 1 by rw [gi_zero]; omega), if_neg (show ¬ (gi (k :: l) 0 = 2 ∨ gi (k :: l) 0 = 3) by rw [gi_zero]; omega), if_neg (show ¬ gi (k :: l) 0 = 4 by rw [gi_zero]; omega), if_pos (show gi (k :: l) 0 = 5 ∨ gi (k :: l) 0 = 6 by rw [gi_zero]; exact h)]
  rfl
theorem rdOne_o {k : Int} (h : ¬ (k = 1 ∨ k = 2 ∨ k = 3 ∨ k = 4 ∨ k = 5 ∨ k = 6)) (l : List Int) : rdOne (k :: l) = (⟨k, .empty, 0, 0, 0, 0⟩, l, 4) := by
  unfold rdOne
  rw [if_neg (by simp), if_neg (show ¬ gi (k :: l) 0 = 1 by rw [gi_zero]; omega), if_neg (show ¬ (gi (k :: l) 0 = 2 ∨ gi (k :: l) 0 = 3) by rw [gi_zero]; omega), if_neg (show ¬ gi (k :: l) 0 = 4 by rw [gi_zero]; omega), if_neg (show ¬ (gi (k :: l) 0 = 5 ∨ gi (k :: l) 0 = 6) by rw [gi_zero]; omega)]
  rfl
theorem may_cases {l : List Cst} {x : Cst} (h : mayC l x = true) (hl : l.length ≤ 4096) :
    (∃ t, x = ⟨1, t, 0, 0, 0, 0⟩ ∧ Lib.validD t.data.toList = true) ∨ (∃ k n, x = ⟨k, .empty, n, 0, 0, 0⟩ ∧ (k = 2 ∨ k = 3)) ∨
    (∃ a, x = ⟨4, .empty, 0, a, 0, 0⟩ ∧ 0 ≤ a ∧ a ≤ 4096) ∨ (∃ k a b c, x = ⟨k, .empty, 0, a, b, c⟩ ∧ (k = 5 ∨ k = 6) ∧ (0 ≤ a ∧ a ≤ 4096) ∧ (0 ≤ b ∧ b ≤ 4096) ∧ (0 ≤ c ∧ c ≤ 4096)) := by
  obtain ⟨k, t, n, a, b, c⟩ := x
  have h : MayC l ⟨k, t, n, a, b, c⟩ := of_decide_eq_true h
  have rng : ∀ {i j : Int}, isK l i j = true → 0 ≤ i ∧ i ≤ 4096 := fun h => by
    obtain ⟨j, rfl, h1, h2, _⟩ := isK_at h
    omega
  rcases h with ⟨rfl, rfl, rfl, rfl, rfl, h6⟩ | ⟨rfl, h2, rfl, rfl, rfl, -, -⟩ | ⟨rfl, h2, rfl, rfl, rfl⟩ | ⟨rfl, h2, rfl, rfl, rfl, h6⟩ | ⟨h1, h2, rfl, h4, h5, h6⟩
  · exact .inl ⟨t, rfl, h6⟩
  · exact .inr (.inl ⟨2, n, by rw [show t = .empty from t_empty h2], .inl rfl⟩)
  · exact .inr (.inl ⟨3, n, by rw [show t = .empty from t_empty h2], .inr rfl⟩)
  · exact .inr (.inr (.inl ⟨a, by rw [show t = .empty from t_empty h2], rng h6⟩))
  · exact .inr (.inr (.inr ⟨k, a, b, c, by rw [show t = .empty from t_empty h2], h1, rng h4, rng h5, rng h6⟩))
theorem encC_t (t : ByteArray) (n a b c : Int) : encC ⟨1, t, n, a, b, c⟩ = 1 :: (dg 1 10 (encZ t.data.toList).length ++ encZ t.data.toList) := by
  unfold encC
  simp
theorem encC_s {k : Int} (h : k = 2 ∨ k = 3) (t : ByteArray) (n a b c : Int) : encC ⟨k, t, n, a, b, c⟩ = k :: dg 2 10 n := by
  unfold encC
  simp only
  rw [if_neg (by omega), if_pos h]
theorem encC_c (t : ByteArray) (n a b c : Int) : encC ⟨4, t, n, a, b, c⟩ = 4 :: dg 1 10 a := by
  unfold encC
  simp
theorem encC_m {k : Int} (h : k = 5 ∨ k = 6) (t : ByteArray) (n a b c : Int) : encC ⟨k, t, n, a, b, c⟩ = k :: (dg 1 10 a ++ dg 1 10 b ++ dg 1 10 c) := by
  unfold encC
  simp only
  rw [if_neg (by omega), if_neg (by omega), if_neg (by omega)]
theorem rdOne_enc {l : List Cst} {x : Cst} (h : mayC l x = true) (hl : l.length ≤ 4096) (hok : x.ok) (hs : (encZ x.t.data.toList).length ≤ 9007199254740991) (r : List Int) : rdOne (encC x ++ r) = (x, r, 0) := by
  rcases may_cases h hl with ⟨t, rfl, hv⟩ | ⟨k, n, rfl, hk⟩ | ⟨a, rfl, ha⟩ | ⟨k, a, b, c, rfl, hk, ha, hb, hc⟩
  · rw [encC_t, List.cons_append, List.append_assoc, rdOne_t, rdT_enc hv hs]
  · rw [encC_s hk, List.cons_append, rdOne_s hk, rdS_dg hok.2.1]
  · rw [encC_c, List.cons_append, rdOne_c, rdU_dg ha.1 (by omega)]
  · rw [encC_m hk, List.cons_append, List.append_assoc, List.append_assoc, rdOne_m hk, rdU_dg ha.1 (by omega)]
    simp only
    rw [rdU_dg hb.1 (by omega)]
    simp only
    rw [rdU_dg hc.1 (by omega)]
def Told (l : List Cst) : Prop := ∀ x ∈ l, x.ok ∧ (encZ x.t.data.toList).length ≤ 9007199254740991
theorem rdList_enc {l : List Cst} (hc : checkC l = 0) (ht : Told l) (r : List Int) : ∀ k, k ≤ l.length → rdList (encs (l.drop 1) ++ r) 0 k = (l.take k, encs (l.drop (max k 1)) ++ r, 0) := by
  obtain ⟨h1, h2, h3, h4⟩ := check_all hc
  intro k
  induction k with
  | zero => exact fun _ => rfl
  | succ k ih =>
    intro hk
    have ih := ih (by omega)
    by_cases h0 : k = 0
    · subst h0
      rw [rdList_first]
      have e : l.take 1 = [c0] := by
        match l, h2 with
        | x :: m, _ =>
          have : x = c0 := by simpa [gc] using h3
          simp [this]
      rw [e]
      rfl
    · have he : (rdList (encs (l.drop 1) ++ r) 0 k).2.2 = 0 := by rw [ih]
      have hx := ht _ (gc_mem (l := l) (j := k) (by omega))
      have m1 : max k 1 = k := by omega
      have m2 : max (k + 1) 1 = k + 1 := by omega
      rw [rdList_next (by omega) he, ih, m1, m2]
      simp only
      rw [encs_at (l := l) (j := k) (by omega), List.append_assoc, rdOne_enc (h4 k (by omega) (by omega)) h1 hx.1 hx.2]
      simp only
      rw [takeC_one (by omega)]
theorem parse_bytes {l : List Cst} (hc : checkC l = 0) (ht : Told l) (r : List Int) : manyZ (bytesZ l ++ r) = (l, r, 0) ∧ errZ (bytesZ l ++ r) = 0 := by
  obtain ⟨h1, h2, h3, h4⟩ := check_all hc
  have e : tU (bytesZ l ++ r) = ((l.length : Int), encs (l.drop 1) ++ r, 0) := by
    rw [bytesZ_eq, List.append_assoc]
    exact tU_dg (by omega) (by omega) _
  have hm : manyZ (bytesZ l ++ r) = (l, r, 0) := by
    unfold manyZ cntZ
    rw [e]
    simp only
    rw [if_neg (by omega), Int.toNat_natCast, rdList_enc hc ht r _ (Nat.le_refl _), List.take_length, show max l.length 1 = l.length by omega, List.drop_length]
    rfl
  refine ⟨hm, ?_⟩
  unfold errZ
  rw [hm]
  exact (if_pos rfl).trans hc
theorem rdU_back {l : List Int} {e : Int} (h : (rdU l e).2.2 = 0) : e = 0 ∧ l = dg 1 10 (rdU l e).1 ++ (rdU l e).2.1 := by
  unfold rdU at h ⊢
  by_cases he : e = 0
  · rw [if_pos he] at h ⊢
    exact ⟨he, (tU_ok h).2.symm⟩
  · rw [if_neg he] at h
    exact absurd h he
theorem rdOne_dec {l : List Int} (hf : Fit .u8 l) (h : (rdOne l).2.2 = 0) : l = encC (rdOne l).1 ++ (rdOne l).2.1 := by
  match l, hf, h with
  | [], _, h =>
    rw [rdOne_nil] at h
    cases h
  | k :: l, hf, h =>
    have hf1 : Fit .u8 l := fun x hx => hf x (List.mem_cons_of_mem _ hx)
    by_cases k1 : k = 1
    · subst k1
      rw [rdOne_t] at h ⊢
      simp only at h ⊢
      rw [encC_t]
      by_cases he : (rdU l 0).2.2 = 0
      · by_cases hb : ((rdU l 0).2.1.length : Int) < (rdU l 0).1
        · unfold rdTP at h
          rw [if_neg (by simpa using he), if_pos hb] at h
          cases h
        · have e : rdTP l 0 = ((decT ((rdU l 0).2.1.take (rdU l 0).1.toNat)).1, (rdU l 0).2.1.drop (rdU l 0).1.toNat, (decT ((rdU l 0).2.1.take (rdU l 0).1.toNat)).2) := by
            unfold rdTP
            rw [if_neg (by simpa using he), if_neg hb]
          rw [e] at h ⊢
          simp only at h ⊢
          have hu := (rdU_back he).2
          have hp := (rdU_pos he).1
          have hfu := (hf1.suf (rdU_suf l 0)).take (rdU l 0).1.toNat
          by_cases hst : stop ((rdU l 0).2.1.take (rdU l 0).1.toNat) = ((rdU l 0).2.1.take (rdU l 0).1.toNat).length
          · obtain ⟨_, d2, _⟩ := dec_back hfu hst _ rfl
            unfold decT
            rw [if_pos hst]
            simp only
            rw [d2]
            have hlen : (((rdU l 0).2.1.take (rdU l 0).1.toNat).length : Int) = (rdU l 0).1 := by rw [List.length_take]; omega
            rw [hlen, List.cons_append, List.append_assoc, List.take_append_drop, ← hu]
          · unfold decT at h
            rw [if_neg hst] at h
            cases h
      · unfold rdTP at h
        rw [if_pos he] at h
        exact absurd h he
    by_cases k2 : k = 2 ∨ k = 3
    · rw [rdOne_s k2] at h ⊢
      simp only at h ⊢
      rw [encC_s k2, List.cons_append]
      congr 1
      unfold rdS at h ⊢
      rw [if_pos rfl] at h ⊢
      exact (tS_ok h).symm
    by_cases k4 : k = 4
    · subst k4
      rw [rdOne_c] at h ⊢
      simp only at h ⊢
      rw [encC_c, List.cons_append]
      congr 1
      exact (rdU_back h).2
    by_cases k5 : k = 5 ∨ k = 6
    · rw [rdOne_m k5] at h ⊢
      simp only at h ⊢
      rw [encC_m k5, List.cons_append]
      congr 1
      obtain ⟨z2, e3⟩ := rdU_back h
      obtain ⟨z1, e2⟩ := rdU_back z2
      have e1 := (rdU_back z1).2
      rw [List.append_assoc, List.append_assoc, ← e3, ← e2, ← e1]
    · exfalso
      rw [rdOne_o (by omega)] at h
      cases h
theorem rdList_dec {p : List Int} (hf : Fit .u8 p) {e : Int} : ∀ {k : Nat}, 1 ≤ k → (rdList p e k).2.2 = 0 → gc (rdList p e k).1 0 = c0 ∧ p = encs ((rdList p e k).1.drop 1) ++ (rdList p e k).2.1 := by
  intro k
  induction k with
  | zero => exact fun h => absurd h (by omega)
  | succ k ih =>
    intro _ h
    by_cases he : (rdList p e k).2.2 = 0
    · by_cases h0 : k = 0
      · subst h0
        rw [rdList, if_pos he, if_pos rfl] at h ⊢
        exact ⟨rfl, rfl⟩
      · obtain ⟨i1, i2⟩ := ih (by omega) he
        have hl := rdList_len he
        rw [rdList_next (by omega) he] at h ⊢
        simp only at h ⊢
        have hd := rdOne_dec (hf.suf (rdList_suf p e k)) h
        refine ⟨?_, ?_⟩
        · rw [← i1]
          unfold gc
          rw [List.getD_eq_getElem?_getD, List.getD_eq_getElem?_getD, List.getElem?_append_left (by omega)]
        · rw [List.drop_append_of_le_length (by omega)]
          unfold encs
          rw [List.flatMap_append, List.append_assoc]
          simp only [List.flatMap_cons, List.flatMap_nil, List.append_nil]
          rw [← hd]
          exact i2
    · rw [rdList, if_neg he] at h
      exact absurd h he
theorem parse_back {b : List Int} (hf : Fit .u8 b) (h : errZ b = 0) : checkC (manyZ b).1 = 0 ∧ bytesZ (manyZ b).1 ++ (manyZ b).2.1 = b ∧ (manyZ b).2.2 = 0 := by
  unfold errZ at h
  by_cases he : (manyZ b).2.2 = 0
  · rw [if_pos he] at h
    refine ⟨h, ?_, he⟩
    obtain ⟨h1, h2, -⟩ := check_all h
    have hl : (manyZ b).1.length = (tU b).1.toNat := rdList_len he
    have hu : (tU b).2.2 = 0 := by
      by_cases hu : (tU b).2.2 = 0
      · exact hu
      · exfalso
        rw [(tU_err hu).1] at hl
        simp at hl
        rw [hl] at h2
        simp at h2
    have hp := (tU_pos hu).1
    have hd := (rdList_dec (hf.suf (tU_suf b)) (k := (tU b).1.toNat) (by omega) he).2
    rw [bytesZ_eq, hl, List.append_assoc, Int.toNat_of_nonneg hp]
    have : encs ((manyZ b).1.drop 1) ++ (manyZ b).2.1 = (tU b).2.1 := hd.symm
    rw [this]
    exact (tU_ok hu).2
  · rw [if_neg he] at h
    exact absurd h he
end Go.Proofs.YtokmeomjdpfknaaGreatDoor
/- Classes as bytes: plain mathematics: what may be, how it is written, how it is read. -/
namespace Go.Proofs.YtokmeomjdpfknaaGreatDoor
open Go.RowKit
set_option linter.unusedVariables false

def tyD (t : Ty) : TyD := ⟨t.k, t.s.data.toList⟩
def tyO (t : TyD) : Ty := ⟨t.k, bs t.s⟩
theorem bs_data (s : ByteArray) : bs s.data.toList = s := rfl
theorem data_bs (l : List UInt8) : (bs l).data.toList = l := rfl
theorem tyD_O (t : TyD) : tyD (tyO t) = t := rfl
theorem tyO_D (t : Ty) : tyO (tyD t) = t := rfl
theorem map_DO (l : List TyD) : (l.map tyO).map tyD = l := by
  rw [List.map_map]
  exact (List.map_congr_left fun x _ => tyD_O x).trans (List.map_id l)
theorem map_OD (l : List Ty) : (l.map tyD).map tyO = l := by
  rw [List.map_map]
  exact (List.map_congr_left fun x _ => tyO_D x).trans (List.map_id l)
def Me.pr (m : Me) : Pr := ⟨tyD m.ret, m.args.map tyD⟩
structure Fd where
  st : Bool
  nm : ByteArray
  ty : Ty
deriving DecidableEq
structure Cl where
  pool : List Cst
  inf : Bool
  nm : ByteArray
  sup : ByteArray
  ifs : List ByteArray
  fds : List Fd
  mts : List Me
deriving DecidableEq
def cl0 : Cl := ⟨[], false, .empty, .empty, [], [], []⟩
def ub (s : ByteArray) : List Int := s.data.toList.map fun u => (u.toNat : Int)
theorem ub_len (s : ByteArray) : (ub s).length = s.size := by unfold ub; rw [List.length_map, ← Lib.size_eq]
theorem ub_fit (s : ByteArray) : Fit .u8 (ub s) := fun x hx => by
  obtain ⟨u, _, rfl⟩ := List.mem_map.1 hx
  exact wf_u8 (by omega) (by have := u.toNat_lt; omega)
theorem str_ub (s : ByteArray) : strOfNums (ub s) = s := by
  unfold strOfNums ub
  rw [List.map_map, show ((fun n : Int => UInt8.ofNat n.toNat) ∘ fun u : UInt8 => (u.toNat : Int)) = id from funext fun u => by simp, List.map_id]
theorem ub_str {l : List Int} (h : Fit .u8 l) : ub (strOfNums l) = l := by
  unfold strOfNums ub
  simp only [List.map_map]
  conv => rhs; rw [← List.map_id l]
  exact List.map_congr_left fun x hx => by
    have := h.u8 hx
    simp
    omega
theorem str_size (l : List Int) : (strOfNums l).size = l.length := by simp [strOfNums, ByteArray.size]

def nu (n : Int) : List Int := dg 1 10 n
def flg (b : Bool) : Int := if b then 1 else 0
def txA (s : ByteArray) : List Int := nu s.size ++ ub s
def lsZ {α : Type} (f : α → List Int) (l : List α) : List Int := nu l.length ++ l.flatMap f
def fdZ (f : Fd) : List Int := nu (flg f.st) ++ (txA f.nm ++ txA (bs (textT (tyD f.ty))))
def hdZ (h : Hd) : List Int := nu h.f ++ (nu h.t ++ (nu h.a ++ nu h.c))
def kdZ (m : Me) : Int := if m.ab then 2 else flg m.st
def meT (m : Me) : List Int := nu m.sk ++ (nu m.lo ++ ((nu m.code.length ++ m.code) ++ lsZ hdZ m.hs))
def meZ (m : Me) : List Int := nu (kdZ m) ++ (txA m.nm ++ (txA (bs (textP m.pr)) ++ if m.ab then [] else meT m))
def tlZ (c : Cl) : List Int := nu (flg c.inf) ++ (txA c.nm ++ (txA c.sup ++ (lsZ txA c.ifs ++ (lsZ fdZ c.fds ++ lsZ meZ c.mts))))
def clZ (c : Cl) : List Int := [87, 66, 1] ++ (bytesZ c.pool ++ tlZ c)
def nmB (s : ByteArray) : Bool := nameB s.data.toList
def okFd (f : Fd) : Bool := nmB f.nm && okT (tyD f.ty)
def okMe (pool : List Cst) (m : Me) : Bool :=
  nmB m.nm && (decide (checkP m.pr = 0) && if m.ab then !m.st && (decide (m.sk = 0) && (decide (m.lo = 0) && (decide (m.code.length = 0) && decide (m.hs.length = 0)))) else decide ((checkZ m pool).2.2 = 0))
noncomputable def okCl (c : Cl) : Bool :=
  decide (checkC c.pool = 0) && (nmB c.nm && ((decide (c.sup = .empty) || nmB c.sup) && (decide (c.ifs.length ≤ 64) && (c.ifs.all nmB &&
    (decide (c.fds.length ≤ 256) && (c.fds.all okFd && (decide (c.mts.length ≤ 256) && c.mts.all (okMe c.pool))))))))
noncomputable def chkK (c : Cl) : Int := if okCl c = true then 0 else 80
noncomputable def bytesK (c : Cl) : List Int × Int := if okCl c = true then (if 65535 < (clZ c).length then ([], 5) else (clZ c, 0)) else ([], 80)

abbrev RSt := List Int × Bool
def gU (s : RSt) : Int × RSt := if s.2 = true ∨ (tU (s.1.take 8)).2.2 ≠ 0 then (0, s.1, true) else ((tU (s.1.take 8)).1, s.1.drop ((s.1.take 8).length - (tU (s.1.take 8)).2.1.length), false)
def gB (n : Int) (s : RSt) : List Int × RSt := if s.2 = true ∨ (s.1.length : Int) < n then ([], s.1, true) else (s.1.take n.toNat, s.1.drop n.toNat, false)
def gTx (s : RSt) : ByteArray × RSt := (strOfNums (gB (gU s).1 (gU s).2).1, (gB (gU s).1 (gU s).2).2)
def gUp (k : Int) (s : RSt) : Int × RSt := if k < (gU s).1 then (0, (gU s).2.1, true) else gU s
def gTy (s : RSt) : Ty × RSt := (tyO (typeZ (gTx s).1.data.toList).1, (gTx s).2.1, (gTx s).2.2 || decide ((typeZ (gTx s).1.data.toList).2 ≠ 0))
def gPr (s : RSt) : Pr × RSt := ((protoZ (gTx s).1.data.toList).1, (gTx s).2.1, (gTx s).2.2 || decide ((protoZ (gTx s).1.data.toList).2 ≠ 0))
def gFd (s : RSt) : Fd × RSt := (⟨decide ((gUp 1 s).1 = 1), (gTx (gUp 1 s).2).1, (gTy (gTx (gUp 1 s).2).2).1⟩, (gTy (gTx (gUp 1 s).2).2).2)
def gHd (s : RSt) : Hd × RSt := (⟨(gU s).1, (gU (gU s).2).1, (gU (gU (gU s).2).2).1, (gU (gU (gU (gU s).2).2).2).1⟩, (gU (gU (gU (gU s).2).2).2).2)
def gIt {α : Type} (one : RSt → α × RSt) : Nat → List α → RSt → List α × RSt
  | 0, acc, s => (acc, s)
  | n + 1, acc, s => if s.2 = true then (acc, s) else gIt one n (acc ++ [(one s).1]) (one s).2
def gLs {α : Type} (k : Int) (one : RSt → α × RSt) (s : RSt) : List α × RSt := gIt one (gUp k s).1.toNat [] (gUp k s).2
def gMt (d : Me) (s : RSt) : Me × RSt :=
  let a := gU s
  let b := gU a.2
  let n := gU b.2
  let c := gB n.1 n.2
  let h := gLs 256 gHd c.2
  ({ d with sk := a.1, lo := b.1, code := c.1, hs := h.1 }, h.2)
def gMe (s : RSt) : Me × RSt :=
  let k := gUp 2 s
  let x := gTx k.2
  let p := gPr x.2
  let d : Me := ⟨decide (k.1 = 1), decide (k.1 = 2), x.1, tyO p.1.ret, p.1.args.map tyO, 0, 0, [], []⟩
  if k.1 = 2 then (d, p.2) else gMt d p.2
noncomputable def gPool (s : RSt) : List Cst × RSt :=
  if errZ s.1 = 0 then ((manyZ s.1).1, if s.2 = true then (s.1, true) else (s.1.drop (s.1.length - (manyZ s.1).2.1.length), false)) else ([], s.1, true)
def gTl (l : List Cst) (s : RSt) : Cl × RSt :=
  let i := gUp 1 s
  let n := gTx i.2
  let u := gTx n.2
  let f := gLs 64 gTx u.2
  let d := gLs 256 gFd f.2
  let m := gLs 256 gMe d.2
  (⟨l, decide (i.1 = 1), n.1, u.1, f.1, d.1, m.1⟩, m.2)
def gHead (b : List Int) : RSt := ((gB 3 (b, false)).2.1, (gB 3 (b, false)).2.2 || decide ((gB 3 (b, false)).1 ≠ [87, 66, 1]))
noncomputable def gCl (b : List Int) : Cl × RSt := gTl (gPool (gHead b)).1 (gPool (gHead b)).2
noncomputable def parseK (b : List Int) : Cl × Int :=
  if 65535 < b.length then (cl0, 5) else if (gCl b).2.2 = true ∨ 0 < (gCl b).2.1.length then (cl0, 80) else if okCl (gCl b).1 = true then ((gCl b).1, 0) else (cl0, 80)

def NN (n : Int) : Prop := 0 ≤ n ∧ n ≤ 9007199254740991
theorem tU_nn {l : List Int} (h : (tU l).2.2 = 0) (hf : Fit .u8 l) : NN (tU l).1 := by
  obtain ⟨h1, h2⟩ := tU_ok h
  unfold uS at h1
  split at h1
  · injection h1 with _ h1
    cases h1
  · unfold NN; omega
theorem tU_take {l : List Int} (hf : Fit .u8 l) (h : (tU (l.take 8)).2.2 = 0) : NN (tU (l.take 8)).1 ∧ l = nu (tU (l.take 8)).1 ++ l.drop ((l.take 8).length - (tU (l.take 8)).2.1.length) := by
  obtain ⟨h1, h2⟩ := tU_ok h
  refine ⟨tU_nn h (hf.take 8), ?_⟩
  have e := congrArg List.length h2
  rw [List.length_append] at e
  have hd : l = nu (tU (l.take 8)).1 ++ ((tU (l.take 8)).2.1 ++ l.drop 8) := by
    conv => lhs; rw [← List.take_append_drop 8 l, ← h2]
    rw [List.append_assoc]
    rfl
  have hk : (l.take 8).length - (tU (l.take 8)).2.1.length = (nu (tU (l.take 8)).1).length := by
    unfold nu
    omega
  rw [hk]
  have hr : l.drop (nu (tU (l.take 8)).1).length = (tU (l.take 8)).2.1 ++ l.drop 8 := by
    generalize (tU (l.take 8)).1 = n at hd ⊢
    generalize (tU (l.take 8)).2.1 ++ l.drop 8 = r at hd ⊢
    rw [hd, List.drop_left]
  rw [hr]
  exact hd
theorem nu_len {n : Int} (h : NN n) : (nu n).length ≤ 8 := dg_one_eight h.1 h.2
def Back {α : Type} (g : RSt → α × RSt) (e : α → List Int) : Prop := ∀ s : RSt, Fit .u8 s.1 → (g s).2.2 = false → s.2 = false ∧ s.1 = e (g s).1 ++ (g s).2.1
def Fwd {α : Type} (g : RSt → α × RSt) (e : α → List Int) (P : α → Prop) : Prop := ∀ x r, P x → g (e x ++ r, false) = (x, r, false)
theorem gU_back : Back gU nu := fun s hf h => by
  unfold gU at h ⊢
  split at h <;> rename_i h1
  · cases h
  · rw [if_neg h1]
    have h2 : s.2 = false := by cases h : s.2 <;> simp_all
    exact ⟨h2, (tU_take hf (by simpa using fun e => h1 (.inr e))).2⟩
theorem gU_nn {s : RSt} (hf : Fit .u8 s.1) : NN (gU s).1 := by
  unfold gU
  split <;> rename_i h1
  · exact ⟨Int.le_refl 0, by show (0 : Int) ≤ 9007199254740991; decide⟩
  · exact (tU_take hf (by simpa using fun e => h1 (.inr e))).1
theorem gU_fwd : Fwd gU nu NN := fun n r h => by
  have h8 := nu_len h
  have e : (nu n ++ r).take 8 = nu n ++ r.take (8 - (nu n).length) := by rw [List.take_append, List.take_of_length_le h8]
  have ht : tU ((nu n ++ r).take 8) = (n, r.take (8 - (nu n).length), 0) := by rw [e]; exact tU_dg h.1 h.2 _
  unfold gU
  rw [if_neg (by simp [ht])]
  simp only [ht]
  congr 2
  rw [show ((nu n ++ r).take 8).length - (r.take (8 - (nu n).length)).length = (nu n).length by rw [e, List.length_append]; omega]
  exact List.drop_left
theorem gB_back (n : Int) (h0 : 0 ≤ n) {s : RSt} (h : (gB n s).2.2 = false) : s.2 = false ∧ s.1 = (gB n s).1 ++ (gB n s).2.1 ∧ ((gB n s).1.length : Int) = n := by
  unfold gB at h ⊢
  split at h <;> rename_i h1
  · cases h
  · rw [if_neg h1]
    have h2 : s.2 = false := by cases h : s.2 <;> simp_all
    exact ⟨h2, by simp, by simp; omega⟩
theorem gB_fwd (x r : List Int) : gB x.length (x ++ r, false) = (x, r, false) := by
  unfold gB
  rw [if_neg (by simp; omega)]
  simp
theorem gB_fit {n : Int} {s : RSt} (hf : Fit .u8 s.1) : Fit .u8 (gB n s).1 ∧ Fit .u8 (gB n s).2.1 := by
  unfold gB
  split
  · exact ⟨Fit.nil _, hf⟩
  · exact ⟨hf.take _, hf.drop _⟩
theorem gU_fit {s : RSt} (hf : Fit .u8 s.1) : Fit .u8 (gU s).2.1 := by
  unfold gU
  split
  · exact hf
  · exact hf.drop _
theorem gTx_fit {s : RSt} (hf : Fit .u8 s.1) : Fit .u8 (gTx s).2.1 := (gB_fit (gU_fit hf)).2
theorem gTx_back : Back gTx txA := fun s hf h => by
  have hU := gU_nn hf
  obtain ⟨h1, h2, h3⟩ := gB_back (gU s).1 hU.1 h
  obtain ⟨h4, h5⟩ := gU_back s hf h1
  refine ⟨h4, ?_⟩
  have hb := (gB_fit (n := (gU s).1) (gU_fit hf)).1
  have e1 : txA (gTx s).1 = nu (gU s).1 ++ (gB (gU s).1 (gU s).2).1 := by
    unfold txA gTx
    rw [ub_str hb, str_size, h3]
  rw [e1, List.append_assoc]
  exact h5.trans (by rw [h2]; rfl)
def TX (s : ByteArray) : Prop := s.size ≤ 9007199254740991
theorem gTx_fwd : Fwd gTx txA TX := fun x r h => by
  have e1 : gU (txA x ++ r, false) = ((x.size : Int), ub x ++ r, false) := by
    unfold txA
    rw [List.append_assoc]
    exact gU_fwd _ _ ⟨by omega, by unfold TX at h; omega⟩
  unfold gTx
  rw [e1]
  simp only
  rw [← ub_len, gB_fwd]
  simp only [str_ub]
theorem gUp_fit {k : Int} {s : RSt} (hf : Fit .u8 s.1) : Fit .u8 (gUp k s).2.1 := by
  unfold gUp
  split
  · exact gU_fit hf
  · exact gU_fit hf
theorem gUp_le {k : Int} {s : RSt} (hk : 0 ≤ k) (hf : Fit .u8 s.1) : 0 ≤ (gUp k s).1 ∧ (gUp k s).1 ≤ k := by
  unfold gUp
  split <;> rename_i h
  · exact ⟨Int.le_refl _, hk⟩
  · exact ⟨(gU_nn hf).1, by omega⟩
theorem gUp_back (k : Int) : Back (gUp k) nu := fun s hf h => by
  unfold gUp at h ⊢
  split at h <;> rename_i h1
  · cases h
  · rw [if_neg h1]
    exact gU_back s hf h
theorem gUp_fwd (k : Int) : Fwd (gUp k) nu (fun n => NN n ∧ n ≤ k) := fun n r h => by
  unfold gUp
  rw [gU_fwd n r h.1, if_neg (by simp only; omega)]
theorem gTy_fit {s : RSt} (hf : Fit .u8 s.1) : Fit .u8 (gTy s).2.1 := gTx_fit hf
theorem gTy_back : Back gTy (fun t => txA (bs (textT (tyD t)))) := fun s hf h => by
  have h' : (gTx s).2.2 = false ∧ (typeZ (gTx s).1.data.toList).2 = 0 := by simpa [gTy] using h
  obtain ⟨h1, h2⟩ := gTx_back s hf h'.1
  refine ⟨h1, ?_⟩
  have e := (type_back h'.2).2
  simp only [gTy, tyD_O, e, bs_data]
  exact h2
theorem textK_len {t : TyD} (h : okT t = true) : (textT t).length ≤ 67 := by
  unfold okT at h
  unfold textT
  split at h <;> rename_i h1
  · have : t.s = [] := by simpa using h
    rw [this]
    repeat' split
    all_goals simp
  · split at h <;> rename_i h2
    · have := name_len h
      repeat' split
      all_goals first | (simp; done) | (simp only [List.length_cons, List.length_append, List.length_nil]; omega)
    · cases h
theorem gTy_fwd : Fwd gTy (fun t => txA (bs (textT (tyD t)))) (fun t => okT (tyD t) = true) := fun t r h => by
  have hl := textK_len h
  have e := gTx_fwd (bs (textT (tyD t))) r (by unfold TX; rw [show (bs (textT (tyD t))).size = (textT (tyD t)).length from rfl]; omega)
  unfold gTy
  rw [e]
  simp only [data_bs, type_text h, tyO_D]
  simp
theorem gPr_fit {s : RSt} (hf : Fit .u8 s.1) : Fit .u8 (gPr s).2.1 := gTx_fit hf
theorem gPr_back : Back gPr (fun p => txA (bs (textP p))) := fun s hf h => by
  have h' : (gTx s).2.2 = false ∧ (protoZ (gTx s).1.data.toList).2 = 0 := by simpa [gPr] using h
  obtain ⟨h1, h2⟩ := gTx_back s hf h'.1
  refine ⟨h1, ?_⟩
  have e := (proto_back h'.2).2
  simp only [gPr, e, bs_data]
  exact h2
theorem flat_le {α : Type} {f : α → List UInt8} {b : Nat} : ∀ {l : List α}, (∀ x ∈ l, (f x).length ≤ b) → (l.flatMap f).length ≤ l.length * b := by
  intro l
  induction l with
  | nil => intro _; simp
  | cons x l ih =>
    intro h
    rw [List.flatMap_cons, List.length_append, List.length_cons, Nat.add_mul]
    have := h x (List.mem_cons_self ..)
    have := ih fun y hy => h y (List.mem_cons_of_mem _ hy)
    omega
theorem checkP_parts {p : Pr} (h : checkP p = 0) : p.args.length ≤ 16 ∧ (p.ret = t0D ∨ okT p.ret = true) ∧ ∀ t ∈ p.args, okT t = true := by
  unfold checkP at h
  split at h <;> rename_i h1
  · cases h
  · split at h <;> rename_i h2
    · unfold okP at h2
      simp at h2
      exact ⟨by omega, h2.1, h2.2⟩
    · cases h
theorem textPK_len {p : Pr} (h : checkP p = 0) : (textP p).length ≤ 1141 := by
  obtain ⟨h1, h2, h3⟩ := checkP_parts h
  have ha := flat_le (f := textT) (b := 67) (l := p.args) fun t ht => textK_len (h3 t ht)
  have hr : (textT p.ret).length ≤ 67 := by
    rcases h2 with h2 | h2
    · rw [h2]; decide
    · exact textK_len h2
  unfold textP
  simp only [List.length_cons, List.length_append]
  have : p.args.length * 67 ≤ 16 * 67 := Nat.mul_le_mul_right _ h1
  omega
theorem gPr_fwd : Fwd gPr (fun p => txA (bs (textP p))) (fun p => checkP p = 0) := fun p r h => by
  have hl := textPK_len h
  have e := gTx_fwd (bs (textP p)) r (by unfold TX; rw [show (bs (textP p)).size = (textP p).length from rfl]; omega)
  unfold gPr
  rw [e]
  simp only [data_bs, proto_text h]
  simp
theorem flg_one (b : Bool) : decide (flg b = 1) = b := by cases b <;> rfl
theorem flg_back {n : Int} (h0 : 0 ≤ n) (h1 : n ≤ 1) : flg (decide (n = 1)) = n := by
  have : n = 0 ∨ n = 1 := by omega
  rcases this with rfl | rfl <;> rfl
theorem flg_nn (b : Bool) : NN (flg b) ∧ flg b ≤ 1 := by cases b <;> exact ⟨⟨by decide, by decide⟩, by decide⟩
theorem gFd_fit {s : RSt} (hf : Fit .u8 s.1) : Fit .u8 (gFd s).2.1 := gTy_fit (gTx_fit (gUp_fit hf))
theorem gFd_back : Back gFd fdZ := fun s hf h => by
  obtain ⟨h1, e1⟩ := gTy_back _ (gTx_fit (gUp_fit hf)) h
  obtain ⟨h2, e2⟩ := gTx_back _ (gUp_fit hf) h1
  obtain ⟨h3, e3⟩ := gUp_back 1 s hf h2
  refine ⟨h3, ?_⟩
  obtain ⟨r1, r2⟩ := gUp_le (k := 1) (by decide) hf
  unfold fdZ gFd
  simp only [flg_back r1 r2, List.append_assoc]
  rw [← e1, ← e2, ← e3]
theorem nameB_size {s : ByteArray} (h : nmB s = true) : s.size ≤ 64 := by
  have := (name_len h).2
  rwa [← Lib.size_eq] at this
theorem gFd_fwd : Fwd gFd fdZ (fun f => okFd f = true) := fun f r h => by
  have h : (nmB f.nm && okT (tyD f.ty)) = true := h
  rw [Bool.and_eq_true] at h
  have e1 := gUp_fwd 1 (flg f.st) (txA f.nm ++ (txA (bs (textT (tyD f.ty))) ++ r)) (flg_nn _)
  have e2 := gTx_fwd f.nm (txA (bs (textT (tyD f.ty))) ++ r) (by have := nameB_size h.1; unfold TX; omega)
  have e3 := gTy_fwd f.ty r h.2
  unfold gFd fdZ
  simp only [List.append_assoc]
  rw [e1]
  simp only
  rw [e2]
  simp only
  rw [e3]
  simp only [flg_one]
theorem gHd_fit {s : RSt} (hf : Fit .u8 s.1) : Fit .u8 (gHd s).2.1 := gU_fit (gU_fit (gU_fit (gU_fit hf)))
theorem gHd_back : Back gHd hdZ := fun s hf h => by
  have f1 := gU_fit hf
  have f2 := gU_fit f1
  have f3 := gU_fit f2
  obtain ⟨h1, e1⟩ := gU_back _ f3 h
  obtain ⟨h2, e2⟩ := gU_back _ f2 h1
  obtain ⟨h3, e3⟩ := gU_back _ f1 h2
  obtain ⟨h4, e4⟩ := gU_back _ hf h3
  refine ⟨h4, ?_⟩
  unfold hdZ gHd
  simp only [List.append_assoc]
  rw [← e1, ← e2, ← e3, ← e4]
def HdOk (h : Hd) : Prop := NN h.f ∧ NN h.t ∧ NN h.a ∧ NN h.c
theorem gHd_fwd : Fwd gHd hdZ HdOk := fun x r h => by
  obtain ⟨h1, h2, h3, h4⟩ := h
  unfold gHd hdZ
  simp only [List.append_assoc]
  rw [gU_fwd _ _ h1]
  simp only
  rw [gU_fwd _ _ h2]
  simp only
  rw [gU_fwd _ _ h3]
  simp only
  rw [gU_fwd _ _ h4]
theorem gIt_back {α : Type} {one : RSt → α × RSt} {e : α → List Int} (hb : Back one e) (hft : ∀ s, Fit .u8 s.1 → Fit .u8 (one s).2.1) :
    ∀ (n : Nat) (acc : List α) (s : RSt), Fit .u8 s.1 → (gIt one n acc s).2.2 = false → s.2 = false ∧ ∃ m, (gIt one n acc s).1 = acc ++ m ∧ m.length = n ∧ s.1 = m.flatMap e ++ (gIt one n acc s).2.1 := by
  intro n
  induction n with
  | zero => intro acc s hf h; exact ⟨h, [], by simp [gIt], rfl, by simp [gIt]⟩
  | succ n ih =>
    intro acc s hf h
    unfold gIt at h ⊢
    split at h <;> rename_i h1
    · rw [h1] at h; cases h
    · rw [if_neg h1]
      obtain ⟨h2, m, h3, h4, h5⟩ := ih _ _ (hft s hf) h
      obtain ⟨h6, h7⟩ := hb s hf h2
      exact ⟨h6, (one s).1 :: m, by rw [h3]; simp, by simp [h4], by rw [List.flatMap_cons, List.append_assoc, ← h5]; exact h7⟩
theorem gIt_fwd {α : Type} {one : RSt → α × RSt} {e : α → List Int} {P : α → Prop} (hb : Fwd one e P) (r : List Int) : ∀ (m acc : List α), (∀ x ∈ m, P x) → gIt one m.length acc (m.flatMap e ++ r, false) = (acc ++ m, r, false) := by
  intro m
  induction m with
  | nil => intro acc _; simp [gIt]
  | cons x m ih =>
    intro acc h
    rw [List.length_cons, gIt, if_neg (by simp), List.flatMap_cons, List.append_assoc, hb x _ (h x (List.mem_cons_self ..))]
    simp only
    rw [ih _ fun y hy => h y (List.mem_cons_of_mem _ hy)]
    simp
theorem gIt_fit {α : Type} {one : RSt → α × RSt} (hft : ∀ s, Fit .u8 s.1 → Fit .u8 (one s).2.1) : ∀ (n : Nat) (acc : List α) (s : RSt), Fit .u8 s.1 → Fit .u8 (gIt one n acc s).2.1 := by
  intro n
  induction n with
  | zero => intro acc s hf; exact hf
  | succ n ih =>
    intro acc s hf
    unfold gIt
    split
    · exact hf
    · exact ih _ _ (hft s hf)
theorem gLs_fit {α : Type} {k : Int} {one : RSt → α × RSt} (hft : ∀ s, Fit .u8 s.1 → Fit .u8 (one s).2.1) {s : RSt} (hf : Fit .u8 s.1) : Fit .u8 (gLs k one s).2.1 := gIt_fit hft _ _ _ (gUp_fit hf)
theorem gLs_back {α : Type} {one : RSt → α × RSt} {e : α → List Int} (k : Int) (hk : 0 ≤ k) (hb : Back one e) (hft : ∀ s, Fit .u8 s.1 → Fit .u8 (one s).2.1) : Back (gLs k one) (lsZ e) := fun s hf h => by
  obtain ⟨h1, m, h2, h3, h4⟩ := gIt_back hb hft _ [] _ (gUp_fit hf) h
  obtain ⟨h5, h6⟩ := gUp_back k s hf h1
  refine ⟨h5, ?_⟩
  have r := (gUp_le hk hf).1
  have e1 : (gLs k one s).1 = m := by unfold gLs; rw [h2]; rfl
  rw [e1]
  unfold lsZ
  rw [show (m.length : Int) = (gUp k s).1 by rw [h3]; omega, List.append_assoc]
  exact h6.trans (by rw [h4]; rfl)
theorem gLs_fwd {α : Type} {one : RSt → α × RSt} {e : α → List Int} {P : α → Prop} (k : Int) (hk : k ≤ 9007199254740991) (hb : Fwd one e P) : Fwd (gLs k one) (lsZ e) (fun l => (l.length : Int) ≤ k ∧ ∀ x ∈ l, P x) := fun l r h => by
  unfold gLs lsZ
  rw [List.append_assoc, gUp_fwd k _ _ ⟨⟨by omega, by omega⟩, h.1⟩]
  simp only [Int.toNat_natCast]
  rw [gIt_fwd hb r l [] h.2]
  rfl
end Go.Proofs.YtokmeomjdpfknaaGreatDoor
