/- The instructions of the stack's machine and their bytes: plain mathematics, no program. -/
import Derived.Test.YthobicnhophdlaaBase
namespace Go.Proofs.Ythobicnhophdlaa
set_option linter.unusedVariables false

/-- An instruction: its place, which one, its numbers, where it goes, its keys. -/
structure In where
  a : Int
  o : Int
  n : Int
  m : Int
  to : List Int
  ks : List Int
deriving DecidableEq
def i0 : In := ⟨0, 0, 0, 0, [], []⟩
/-- What stands behind its first byte. -/
def shapeZ (o : Int) : Int :=
  if 5 ≤ o ∧ o ≤ 10 then 1 else if o = 1 ∨ o = 2 then 2
  else if o = 3 ∨ (61 ≤ o ∧ o ≤ 65) ∨ o = 68 ∨ o = 76 ∨ o = 77 ∨ (79 ≤ o ∧ o ≤ 82) then 3
  else if 42 ≤ o ∧ o ≤ 58 then 4 else if o = 11 then 5 else if o = 59 then 6 else if o = 60 then 7 else 0
def endsZ (o : Int) : Bool := decide ((58 ≤ o ∧ o ≤ 60) ∨ o = 78 ∨ (83 ≤ o ∧ o ≤ 86))
theorem shapeZ_le (o : Int) : 0 ≤ shapeZ o ∧ shapeZ o ≤ 7 := by
  unfold shapeZ
  repeat' split
  all_goals omega
/-- A number's bytes, the highest one first; the number that bytes are. -/
def be1 (n : Int) : List Int := [n % 256]
def be2 (n : Int) : List Int := [n / 256 % 256, n % 256]
def be4 (n : Int) : List Int := [n / 16777216 % 256, n / 65536 % 256, n / 256 % 256, n % 256]
def u1 (a : Int) : Int := a
def u2 (a b : Int) : Int := a * 256 + b
def u4 (a b c d : Int) : Int := ((a * 256 + b) * 256 + c) * 256 + d
def s1 (v : Int) : Int := if v < 128 then v else v - 256
def s2 (v : Int) : Int := if v < 32768 then v else v - 65536
def s4 (v : Int) : Int := if v < 2147483648 then v else v - 4294967296
/-- A byte. -/
def B8 (c : Int) : Prop := 0 ≤ c ∧ c < 256
theorem be1_all (n : Int) : ∀ c ∈ be1 n, B8 c := by simp [be1, B8]; omega
theorem be2_all (n : Int) : ∀ c ∈ be2 n, B8 c := by simp [be2, B8]; omega
theorem be4_all (n : Int) : ∀ c ∈ be4 n, B8 c := by simp [be4, B8]; omega
theorem be1_u {n : Int} (h : 0 ≤ n ∧ n ≤ 255) : be1 n = [n] := by simp [be1]; omega
theorem be1_s {n : Int} (h : -128 ≤ n ∧ n ≤ 127) : s1 (n % 256) = n := by unfold s1; split <;> omega
theorem be2_u {n : Int} (h : 0 ≤ n ∧ n ≤ 65535) : u2 (n / 256 % 256) (n % 256) = n := by unfold u2; omega
theorem be2_s {n : Int} (h : -32768 ≤ n ∧ n ≤ 32767) : s2 (u2 (n / 256 % 256) (n % 256)) = n := by unfold s2 u2; split <;> omega
theorem be4_s {n : Int} (h : -2147483648 ≤ n ∧ n ≤ 2147483647) : s4 (u4 (n / 16777216 % 256) (n / 65536 % 256) (n / 256 % 256) (n % 256)) = n := by unfold s4 u4; split <;> omega
theorem s1_be {a : Int} (ha : B8 a) : be1 (s1 a) = [a] := by unfold be1 s1 B8 at *; split <;> simp <;> omega
theorem u2_be {a b : Int} (ha : B8 a) (hb : B8 b) : be2 (u2 a b) = [a, b] := by unfold be2 u2 B8 at *; simp; omega
theorem s2_be {a b : Int} (ha : B8 a) (hb : B8 b) : be2 (s2 (u2 a b)) = [a, b] := by unfold be2 s2 u2 B8 at *; split <;> simp <;> omega
theorem s4_be {a b c d : Int} (ha : B8 a) (hb : B8 b) (hc : B8 c) (hd : B8 d) : be4 (s4 (u4 a b c d)) = [a, b, c, d] := by unfold be4 s4 u4 B8 at *; split <;> simp <;> omega
theorem s1_in {a : Int} (ha : B8 a) : -128 ≤ s1 a ∧ s1 a ≤ 127 := by unfold s1 B8 at *; split <;> omega
theorem u2_in {a b : Int} (ha : B8 a) (hb : B8 b) : 0 ≤ u2 a b ∧ u2 a b ≤ 65535 := by unfold u2 B8 at *; omega
theorem s2_in {a b : Int} (ha : B8 a) (hb : B8 b) : -32768 ≤ s2 (u2 a b) ∧ s2 (u2 a b) ≤ 32767 := by unfold s2 u2 B8 at *; split <;> omega
theorem s4_in {a b c d : Int} (ha : B8 a) (hb : B8 b) (hc : B8 c) (hd : B8 d) : -2147483648 ≤ s4 (u4 a b c d) ∧ s4 (u4 a b c d) ≤ 2147483647 := by unfold s4 u4 B8 at *; split <;> omega
/-- May one go there; is that an int; do numbers rise, all ints? -/
def mayTo (a t : Int) : Bool := decide (0 ≤ t ∧ t < 8192 ∧ -32768 ≤ t - a ∧ t - a ≤ 32767)
def isInt (n : Int) : Bool := decide (-2147483648 ≤ n ∧ n ≤ 2147483647)
def rise : List Int → Bool
  | [] => true
  | [k] => isInt k
  | k :: l :: r => isInt k && decide (k < l) && rise (l :: r)
/-- May an instruction's fields be, of a shape? -/
def fieldsOk (x : In) : Bool :=
  let z := shapeZ x.o
  let n := if z = 1 ∨ z = 5 then decide (0 ≤ x.n ∧ x.n ≤ 255) else if z = 2 then decide (-32768 ≤ x.n ∧ x.n ≤ 32767) else if z = 3 then decide (0 ≤ x.n ∧ x.n ≤ 65535)
    else if z = 6 then decide (2 ≤ x.to.length ∧ x.to.length ≤ 1001) && isInt x.n && isInt (x.n + x.to.length - 2) else decide (x.n = 0)
  let m := if z = 5 then decide (-128 ≤ x.m ∧ x.m ≤ 127) else decide (x.m = 0)
  let t := if z = 4 then decide (x.to.length = 1) else if z = 6 then true else if z = 7 then decide (1 ≤ x.to.length ∧ x.to.length ≤ 1001) else decide (x.to = [])
  let k := if z = 7 then decide (x.ks.length + 1 = x.to.length) else decide (x.ks = [])
  n && m && t && k
def mayI (x : In) : Bool := decide (0 ≤ x.a ∧ x.a < 8192 ∧ 0 ≤ x.o ∧ x.o ≤ 89) && x.to.all (mayTo x.a) && fieldsOk x && rise x.ks
/-- What goes on behind the first place, and keys with it. -/
def tos (a : Int) : List Int → List Int
  | [] => []
  | t :: r => be2 (t - a) ++ tos a r
def kts (a : Int) : List Int → List Int → List Int
  | k :: ks, t :: r => be4 k ++ (be2 (t - a) ++ kts a ks r)
  | _, _ => []
/-- What stands behind the first byte. -/
def tailB (x : In) : List Int :=
  let z := shapeZ x.o
  if z = 1 then be1 x.n else if z = 2 ∨ z = 3 then be2 x.n else if z = 4 then be2 (x.to.headD 0 - x.a) else if z = 5 then be1 x.n ++ be1 x.m
  else if z = 6 then be2 (x.to.headD 0 - x.a) ++ (be4 x.n ++ (be2 (x.to.length - 1) ++ tos x.a x.to.tail))
  else if z = 7 then be2 (x.to.headD 0 - x.a) ++ (be2 x.ks.length ++ kts x.a x.ks x.to.tail) else []
def encB (x : In) : List Int := x.o :: tailB x
def opsEnc (x : In) : List Int × Int := if mayI x = true then (encB x, 0) else ([], 2)
/-- So many places to go to; so many keys with such; what is left. -/
def rdTos (a : Int) : Nat → List Int → Option (List Int × List Int)
  | 0, l => some ([], l)
  | n + 1, p :: q :: l => (rdTos a n l).map fun x => ((a + s2 (u2 p q)) :: x.1, x.2)
  | _ + 1, _ => none
def rdKts (a : Int) : Nat → List Int → Option (List Int × List Int × List Int)
  | 0, l => some ([], [], l)
  | n + 1, b :: c :: d :: e :: p :: q :: l => (rdKts a n l).map fun x => (s4 (u4 b c d e) :: x.1, (a + s2 (u2 p q)) :: x.2.1, x.2.2)
  | _ + 1, _ => none
/-- An instruction's fields off what stands behind its first byte, and what is left. -/
def body (a o : Int) (l : List Int) : Option (In × List Int) :=
  let z := shapeZ o
  if z = 1 then (match l with | p :: r => some (⟨a, o, p, 0, [], []⟩, r) | _ => none)
  else if z = 2 then (match l with | p :: q :: r => some (⟨a, o, s2 (u2 p q), 0, [], []⟩, r) | _ => none)
  else if z = 3 then (match l with | p :: q :: r => some (⟨a, o, u2 p q, 0, [], []⟩, r) | _ => none)
  else if z = 4 then (match l with | p :: q :: r => some (⟨a, o, 0, 0, [a + s2 (u2 p q)], []⟩, r) | _ => none)
  else if z = 5 then (match l with | p :: q :: r => some (⟨a, o, p, s1 q, [], []⟩, r) | _ => none)
  else if z = 6 then (match l with
    | p :: q :: b :: c :: d :: e :: f :: g :: r => (rdTos a (u2 f g).toNat r).map fun x => (⟨a, o, s4 (u4 b c d e), 0, (a + s2 (u2 p q)) :: x.1, []⟩, x.2)
    | _ => none)
  else if z = 7 then (match l with
    | p :: q :: f :: g :: r => (rdKts a (u2 f g).toNat r).map fun x => (⟨a, o, 0, 0, (a + s2 (u2 p q)) :: x.2.1, x.1⟩, x.2.2)
    | _ => none)
  else some (⟨a, o, 0, 0, [], []⟩, l)
def opsDec (b : List Int) (at' : Int) : In × Int × Int :=
  if at' < 0 ∨ (b.length : Int) ≤ at' ∨ 8192 ≤ at' then (i0, 0, 9)
  else match b.drop at'.toNat with
    | [] => (i0, 0, 9)
    | o :: l => if 89 < o then (i0, 0, 60) else match body at' o l with
      | none => (i0, 0, 3)
      | some (x, r) => if mayI x = true then (x, b.length - r.length, 0) else (i0, 0, 4)

theorem mayTo_in {a t : Int} (h : mayTo a t = true) : -32768 ≤ t - a ∧ t - a ≤ 32767 := by
  have := of_decide_eq_true h
  omega
theorem be2_to {a t : Int} (h : mayTo a t = true) : a + s2 (u2 ((t - a) / 256 % 256) ((t - a) % 256)) = t := by
  rw [be2_s (mayTo_in h)]
  omega
theorem rdTos_tos {a : Int} : ∀ {ts : List Int} (r : List Int), ts.all (mayTo a) = true → rdTos a ts.length (tos a ts ++ r) = some (ts, r) := by
  intro ts
  induction ts with
  | nil => intro r _; rfl
  | cons t ts ih =>
    intro r h
    rw [List.all_cons, Bool.and_eq_true] at h
    rw [tos, List.length_cons, be2, List.append_assoc]
    simp only [List.cons_append, List.nil_append, rdTos]
    rw [ih r h.2, be2_to h.1]
    rfl
theorem isInt_in {n : Int} (h : isInt n = true) : -2147483648 ≤ n ∧ n ≤ 2147483647 := of_decide_eq_true h
theorem rise_int : ∀ {ks : List Int}, rise ks = true → ∀ k ∈ ks, isInt k = true
  | [], _, k, h => by cases h
  | [a], h, k, hk => by rw [List.mem_singleton.1 hk]; exact h
  | a :: b :: r, h, k, hk => by
    rw [rise, Bool.and_eq_true, Bool.and_eq_true] at h
    rcases List.mem_cons.1 hk with rfl | hk
    · exact h.1.1
    · exact rise_int h.2 k hk
theorem rdKts_kts {a : Int} : ∀ {ks ts : List Int} (r : List Int), ks.length = ts.length → (∀ k ∈ ks, isInt k = true) → ts.all (mayTo a) = true → rdKts a ks.length (kts a ks ts ++ r) = some (ks, ts, r) := by
  intro ks
  induction ks with
  | nil =>
    intro ts r hl _ _
    have : ts = [] := List.eq_nil_of_length_eq_zero hl.symm
    subst this
    rfl
  | cons k ks ih =>
    intro ts r hl hk ht
    match ts, hl with
    | t :: ts, hl =>
      rw [List.all_cons, Bool.and_eq_true] at ht
      rw [kts, List.length_cons, be4, be2, List.append_assoc, List.append_assoc]
      simp only [List.cons_append, List.nil_append, rdKts]
      rw [ih r (by simpa using hl) (fun x hx => hk x (List.mem_cons_of_mem _ hx)) ht.2, be2_to ht.1, be4_s (isInt_in (hk k (List.mem_cons_self ..)))]
      rfl
/-- What an instruction that may be is known by. -/
theorem may_parts {x : In} (h : mayI x = true) : (0 ≤ x.a ∧ x.a < 8192 ∧ 0 ≤ x.o ∧ x.o ≤ 89) ∧ x.to.all (mayTo x.a) = true ∧ fieldsOk x = true ∧ rise x.ks = true := by
  unfold mayI at h
  rw [Bool.and_eq_true, Bool.and_eq_true, Bool.and_eq_true] at h
  exact ⟨of_decide_eq_true h.1.1.1, h.1.1.2, h.1.2, h.2⟩
/-- What was encoded is taken as it was, whatever stands behind it. -/
theorem body_enc {x : In} (h : mayI x = true) (r : List Int) : body x.a x.o (tailB x ++ r) = some (x, r) := by
  obtain ⟨-, ht, hf, hr⟩ := may_parts h
  obtain ⟨a, o, n, m, to, ks⟩ := x
  simp only at ht hr ⊢
  unfold fieldsOk at hf
  simp only [Bool.and_eq_true] at hf
  obtain ⟨⟨⟨f1, f2⟩, f3⟩, f4⟩ := hf
  unfold body tailB
  simp only
  obtain ⟨z, hz⟩ : ∃ z, z = shapeZ o := ⟨_, rfl⟩
  have hz7 := shapeZ_le o
  rw [← hz] at f1 f2 f3 f4 hz7 ⊢
  have hc : z = 0 ∨ z = 1 ∨ z = 2 ∨ z = 3 ∨ z = 4 ∨ z = 5 ∨ z = 6 ∨ z = 7 := by omega
  clear hz hz7
  rcases hc with rfl | rfl | rfl | rfl | rfl | rfl | rfl | rfl
  · simp at f1 f2 f3 f4
    simp [f1, f2, f3, f4]
  · simp at f1 f2 f3 f4
    simp [be1_u f1, f2, f3, f4]
  · simp at f1 f2 f3 f4
    simp [be2, be2_s f1, f2, f3, f4]
  · simp at f1 f2 f3 f4
    simp [be2, be2_u f1, f2, f3, f4]
  · simp at f1 f2 f3 f4
    match to, f3 with
    | [t], _ =>
      simp only [List.all_cons, List.all_nil, Bool.and_true] at ht
      simp [be2, be2_to ht, f1, f2, f4]
  · simp at f1 f2 f3 f4
    have e : n % 256 = n := by omega
    simp [be1, e, be1_s f2, f3, f4]
  · simp at f1 f2 f3 f4
    match to, f1 with
    | t :: ts, f1 =>
      rw [List.all_cons, Bool.and_eq_true] at ht
      have hn := be4_s (isInt_in f1.1.2)
      have hl : u2 (((ts.length : Int)) / 256 % 256) ((ts.length : Int) % 256) = ts.length := be2_u (by simp at f1; omega)
      simp [be2, be4, hn, be2_to ht.1, hl, rdTos_tos r ht.2, f2, f4]
  · simp at f1 f2 f3 f4
    match to, f3 with
    | t :: ts, f3 =>
      rw [List.all_cons, Bool.and_eq_true] at ht
      have hkl : ks.length = ts.length := by simpa using f4
      have hl : u2 (((ks.length : Int)) / 256 % 256) ((ks.length : Int) % 256) = ks.length := be2_u (by simp at f3; omega)
      have hk := rdKts_kts (a := a) r hkl (rise_int hr) ht.2
      simp [be2, be2_to ht.1, hl, hk, f1, f2]
theorem rdTos_more {a : Int} (q : List Int) : ∀ {n : Nat} {l : List Int} {x : List Int × List Int}, rdTos a n l = some x → rdTos a n (l ++ q) = some (x.1, x.2 ++ q) := by
  intro n
  induction n with
  | zero =>
    intro l x h
    injection h with h
    subst h
    rfl
  | succ n ih =>
    intro l x h
    match l, h with
    | p :: c :: l, h =>
      simp only [rdTos, List.cons_append] at h ⊢
      obtain ⟨y, hy, he⟩ := Option.map_eq_some_iff.1 h
      subst he
      rw [ih hy]
      rfl
theorem rdKts_more {a : Int} (q : List Int) : ∀ {n : Nat} {l : List Int} {x : List Int × List Int × List Int}, rdKts a n l = some x → rdKts a n (l ++ q) = some (x.1, x.2.1, x.2.2 ++ q) := by
  intro n
  induction n with
  | zero =>
    intro l x h
    injection h with h
    subst h
    rfl
  | succ n ih =>
    intro l x h
    match l, h with
    | b :: c :: d :: e :: p :: f :: l, h =>
      simp only [rdKts, List.cons_append] at h ⊢
      obtain ⟨y, hy, he⟩ := Option.map_eq_some_iff.1 h
      subst he
      rw [ih hy]
      rfl
theorem rdTos_back {a : Int} : ∀ {n : Nat} {l : List Int} {x : List Int × List Int}, (∀ c ∈ l, B8 c) → rdTos a n l = some x → x.1.length = n ∧ l = tos a x.1 ++ x.2 := by
  intro n
  induction n with
  | zero =>
    intro l x _ h
    injection h with h
    subst h
    exact ⟨rfl, rfl⟩
  | succ n ih =>
    intro l x hb h
    match l, h, hb with
    | p :: c :: l, h, hb =>
      simp only [rdTos] at h
      obtain ⟨y, hy, he⟩ := Option.map_eq_some_iff.1 h
      subst he
      obtain ⟨h1, h2⟩ := ih (fun z hz => hb z (List.mem_cons_of_mem _ (List.mem_cons_of_mem _ hz))) hy
      refine ⟨by simp [h1], ?_⟩
      have e : a + s2 (u2 p c) - a = s2 (u2 p c) := by omega
      rw [tos, e, s2_be (hb p (by simp)) (hb c (by simp))]
      simp only [List.cons_append, List.nil_append]
      rw [← h2]
theorem rdKts_back {a : Int} : ∀ {n : Nat} {l : List Int} {x : List Int × List Int × List Int}, (∀ c ∈ l, B8 c) → rdKts a n l = some x → x.1.length = n ∧ x.2.1.length = n ∧ l = kts a x.1 x.2.1 ++ x.2.2 := by
  intro n
  induction n with
  | zero =>
    intro l x _ h
    injection h with h
    subst h
    exact ⟨rfl, rfl, rfl⟩
  | succ n ih =>
    intro l x hb h
    match l, h, hb with
    | b :: c :: d :: e :: p :: q :: l, h, hb =>
      simp only [rdKts] at h
      obtain ⟨y, hy, he⟩ := Option.map_eq_some_iff.1 h
      subst he
      obtain ⟨h1, h2, h3⟩ := ih (fun z hz => hb z (by simp [hz])) hy
      refine ⟨by simp [h1], by simp [h2], ?_⟩
      have e2 : a + s2 (u2 p q) - a = s2 (u2 p q) := by omega
      rw [kts, e2, s2_be (hb p (by simp)) (hb q (by simp)), s4_be (hb b (by simp)) (hb c (by simp)) (hb d (by simp)) (hb e (by simp))]
      simp only [List.cons_append, List.nil_append]
      rw [← h3]
theorem body_more {a o : Int} {l : List Int} {x : In × List Int} (q : List Int) (h : body a o l = some x) : body a o (l ++ q) = some (x.1, x.2 ++ q) := by
  unfold body at h ⊢
  simp only at h ⊢
  obtain ⟨z, hz⟩ : ∃ z, z = shapeZ o := ⟨_, rfl⟩
  have hz7 := shapeZ_le o
  rw [← hz] at h hz7 ⊢
  have hc : z = 0 ∨ z = 1 ∨ z = 2 ∨ z = 3 ∨ z = 4 ∨ z = 5 ∨ z = 6 ∨ z = 7 := by omega
  clear hz hz7
  rcases hc with rfl | rfl | rfl | rfl | rfl | rfl | rfl | rfl
  · simp at h ⊢
    subst h
    exact ⟨rfl, rfl⟩
  · match l with
    | [] => simp at h
    | p :: l => simp at h ⊢; subst h; exact ⟨rfl, rfl⟩
  · match l with
    | [] => simp at h
    | [_] => simp at h
    | p :: c :: l => simp at h ⊢; subst h; exact ⟨rfl, rfl⟩
  · match l with
    | [] => simp at h
    | [_] => simp at h
    | p :: c :: l => simp at h ⊢; subst h; exact ⟨rfl, rfl⟩
  · match l with
    | [] => simp at h
    | [_] => simp at h
    | p :: c :: l => simp at h ⊢; subst h; exact ⟨rfl, rfl⟩
  · match l with
    | [] => simp at h
    | [_] => simp at h
    | p :: c :: l => simp at h ⊢; subst h; exact ⟨rfl, rfl⟩
  · match l with
    | [] => simp at h
    | [_] => simp at h
    | [_, _] => simp at h
    | [_, _, _] => simp at h
    | [_, _, _, _] => simp at h
    | [_, _, _, _, _] => simp at h
    | [_, _, _, _, _, _] => simp at h
    | [_, _, _, _, _, _, _] => simp at h
    | p :: c :: b :: d :: e :: f :: g :: i :: l =>
      simp at h
      obtain ⟨y1, y2, hy, he⟩ := h
      subst he
      simp [rdTos_more q hy]
  · match l with
    | [] => simp at h
    | [_] => simp at h
    | [_, _] => simp at h
    | [_, _, _] => simp at h
    | p :: c :: f :: g :: l =>
      simp at h
      obtain ⟨y1, y2, y3, hy, he⟩ := h
      subst he
      simp [rdKts_more q hy]
/-- What is taken is what stands there. -/
theorem body_back {a o : Int} {l : List Int} {x : In × List Int} (hb : ∀ c ∈ l, B8 c) (h : body a o l = some x) : x.1.a = a ∧ x.1.o = o ∧ l = tailB x.1 ++ x.2 := by
  unfold body at h
  simp only at h
  unfold tailB
  simp only
  obtain ⟨z, hz⟩ : ∃ z, z = shapeZ o := ⟨_, rfl⟩
  have hz7 := shapeZ_le o
  rw [← hz] at h
  have hc : z = 0 ∨ z = 1 ∨ z = 2 ∨ z = 3 ∨ z = 4 ∨ z = 5 ∨ z = 6 ∨ z = 7 := by omega
  have hzz := fun {y : In} (e : y.o = o) => (show shapeZ y.o = z by rw [e, hz])
  clear hz7
  rcases hc with hc | hc | hc | hc | hc | hc | hc | hc
  · rw [hc] at h
    simp at h
    subst h
    refine ⟨rfl, rfl, ?_⟩
    rw [hzz rfl, hc]
    simp
  · rw [hc] at h
    match l, h, hb with
    | p :: l, h, hb =>
      simp at h
      subst h
      refine ⟨rfl, rfl, ?_⟩
      rw [hzz rfl, hc]
      have := hb p (by simp)
      simp [be1_u (n := p) (by unfold B8 at this; omega)]
  · rw [hc] at h
    match l, h, hb with
    | p :: c :: l, h, hb =>
      simp at h
      subst h
      refine ⟨rfl, rfl, ?_⟩
      rw [hzz rfl, hc]
      simp [s2_be (hb p (by simp)) (hb c (by simp))]
  · rw [hc] at h
    match l, h, hb with
    | p :: c :: l, h, hb =>
      simp at h
      subst h
      refine ⟨rfl, rfl, ?_⟩
      rw [hzz rfl, hc]
      simp [u2_be (hb p (by simp)) (hb c (by simp))]
  · rw [hc] at h
    match l, h, hb with
    | p :: c :: l, h, hb =>
      simp at h
      subst h
      refine ⟨rfl, rfl, ?_⟩
      rw [hzz rfl, hc]
      have e : a + s2 (u2 p c) - a = s2 (u2 p c) := by omega
      simp [e, s2_be (hb p (by simp)) (hb c (by simp))]
  · rw [hc] at h
    match l, h, hb with
    | p :: c :: l, h, hb =>
      simp at h
      subst h
      refine ⟨rfl, rfl, ?_⟩
      rw [hzz rfl, hc]
      have := hb p (by simp)
      simp [be1_u (n := p) (by unfold B8 at this; omega), s1_be (hb c (by simp))]
  · rw [hc] at h
    match l, h, hb with
    | p :: c :: b :: d :: e :: f :: g :: i :: l, h, hb =>
      simp at h
      obtain ⟨y1, y2, hy, he⟩ := h
      subst he
      refine ⟨rfl, rfl, ?_⟩
      rw [hzz rfl, hc]
      obtain ⟨h1, h2⟩ := rdTos_back (fun z hz => hb z (by simp [hz])) hy
      have hu := u2_in (hb g (by simp)) (hb i (by simp))
      have e1 : a + s2 (u2 p c) - a = s2 (u2 p c) := by omega
      have e2 : (y1.length : Int) = u2 g i := by simp only at h1; omega
      simp only at h2
      simp [e1, e2, s2_be (hb p (by simp)) (hb c (by simp)), u2_be (hb g (by simp)) (hb i (by simp)), s4_be (hb b (by simp)) (hb d (by simp)) (hb e (by simp)) (hb f (by simp)), ← h2]
  · rw [hc] at h
    match l, h, hb with
    | p :: c :: f :: g :: l, h, hb =>
      simp at h
      obtain ⟨y1, y2, y3, hy, he⟩ := h
      subst he
      refine ⟨rfl, rfl, ?_⟩
      rw [hzz rfl, hc]
      obtain ⟨h1, h2, h3⟩ := rdKts_back (fun z hz => hb z (by simp [hz])) hy
      have hu := u2_in (hb f (by simp)) (hb g (by simp))
      have e1 : a + s2 (u2 p c) - a = s2 (u2 p c) := by omega
      have e2 : (y1.length : Int) = u2 f g := by simp only at h1; omega
      simp only at h3
      simp [e1, e2, s2_be (hb p (by simp)) (hb c (by simp)), u2_be (hb f (by simp)) (hb g (by simp)), ← h3]
/-- What is cut off an instruction's bytes is missed. -/
theorem body_cut {x : In} (h : mayI x = true) {p q : List Int} (e : p ++ q = tailB x) (hq : q ≠ []) : body x.a x.o p = none := by
  cases hb : body x.a x.o p with
  | none => rfl
  | some y =>
    have h1 := body_more q hb
    have h2 := body_enc h []
    rw [List.append_nil, ← e, h1] at h2
    injection h2 with h2
    injection h2 with h2 h3
    exact absurd (List.append_eq_nil_iff.1 h3).2 hq
theorem tail_all {x : In} : ∀ c ∈ tailB x, B8 c := by
  have ht : ∀ (a : Int) (ts : List Int), ∀ c ∈ tos a ts, B8 c := by
    intro a ts
    induction ts with
    | nil => intro c h; cases h
    | cons t ts ih =>
      intro c h
      rw [tos] at h
      rcases List.mem_append.1 h with h | h
      · exact be2_all _ c h
      · exact ih c h
  have hk : ∀ (a : Int) (ks ts : List Int), ∀ c ∈ kts a ks ts, B8 c := by
    intro a ks
    induction ks with
    | nil => intro ts c h; simp [kts] at h
    | cons k ks ih =>
      intro ts c h
      match ts, h with
      | [], h => simp [kts] at h
      | t :: ts, h =>
        rw [kts] at h
        rcases List.mem_append.1 h with h | h
        · exact be4_all _ c h
        · rcases List.mem_append.1 h with h | h
          · exact be2_all _ c h
          · exact ih ts c h
  unfold tailB
  intro c h
  simp only at h
  split at h
  · exact be1_all _ c h
  split at h
  · exact be2_all _ c h
  split at h
  · exact be2_all _ c h
  split at h
  · rcases List.mem_append.1 h with h | h
    · exact be1_all _ c h
    · exact be1_all _ c h
  split at h
  · rcases List.mem_append.1 h with h | h
    · exact be2_all _ c h
    · rcases List.mem_append.1 h with h | h
      · exact be4_all _ c h
      · rcases List.mem_append.1 h with h | h
        · exact be2_all _ c h
        · exact ht _ _ c h
  split at h
  · rcases List.mem_append.1 h with h | h
    · exact be2_all _ c h
    · rcases List.mem_append.1 h with h | h
      · exact be2_all _ c h
      · exact hk _ _ _ c h
  · cases h
theorem enc_all {x : In} (h : mayI x = true) : ∀ c ∈ encB x, B8 c := by
  intro c hc
  rcases List.mem_cons.1 hc with rfl | hc
  · have := (may_parts h).1
    exact ⟨by omega, by omega⟩
  · exact tail_all c hc
/-- What was encoded is decoded as it was, wherever it stands. -/
theorem dec_enc {x : In} (h : mayI x = true) (p r : List Int) (hp : (p.length : Int) = x.a) : opsDec (p ++ (encB x ++ r)) x.a = (x, x.a + (encB x).length, 0) := by
  have ha := (may_parts h).1
  have hd : (p ++ (encB x ++ r)).drop x.a.toNat = encB x ++ r := by rw [← hp]; simp
  unfold opsDec
  rw [if_neg (by simp [encB]; omega), hd]
  unfold encB
  simp only [List.cons_append]
  rw [if_neg (by omega), body_enc h r]
  simp only
  rw [if_pos h]
  simp
  omega
/-- What can be decoded is encoded so. -/
theorem enc_dec {b : List Int} {k : Int} (hb : ∀ c ∈ b, B8 c) (h : (opsDec b k).2.2 = 0) : mayI (opsDec b k).1 = true ∧ 0 ≤ k ∧ (opsDec b k).1.a = k ∧ k < (opsDec b k).2.1 ∧ (opsDec b k).2.1 ≤ b.length ∧ encB (opsDec b k).1 = (b.drop k.toNat).take ((opsDec b k).2.1 - k).toNat := by
  unfold opsDec at h ⊢
  by_cases h1 : k < 0 ∨ (b.length : Int) ≤ k ∨ 8192 ≤ k
  · rw [if_pos h1] at h; cases h
  · rw [if_neg h1] at h ⊢
    have hbd : ∀ c ∈ b.drop k.toNat, B8 c := fun c hc => hb c (List.mem_of_mem_drop hc)
    have hld : (b.drop k.toNat).length = b.length - k.toNat := List.length_drop
    obtain ⟨d, hd⟩ : ∃ d, d = b.drop k.toNat := ⟨_, rfl⟩
    rw [← hd] at h hbd hld ⊢
    match d, h, hbd, hld with
    | [], h, _, _ => cases h
    | o :: l, h, hbd, hld =>
      simp only at h ⊢
      by_cases h2 : 89 < o
      · rw [if_pos h2] at h; cases h
      · rw [if_neg h2] at h ⊢
        cases hbo : body k o l with
        | none => rw [hbo] at h; cases h
        | some y =>
          obtain ⟨x, r⟩ := y
          rw [hbo] at h
          simp only at h ⊢
          by_cases h3 : mayI x = true
          · rw [if_pos h3]
            obtain ⟨e1, e2, e3⟩ := body_back (fun c hc => hbd c (List.mem_cons_of_mem _ hc)) hbo
            simp only at e1 e2 e3
            have hlen := congrArg List.length e3
            rw [List.length_append] at hlen
            rw [List.length_cons] at hld
            refine ⟨h3, by omega, e1, by simp only; omega, by simp only; omega, ?_⟩
            have hn : ((b.length : Int) - r.length - k).toNat = (tailB x).length + 1 := by omega
            simp only
            rw [hn, List.take_succ_cons, e3, List.take_left, encB, e2]
          · rw [if_neg h3] at h; cases h
end Go.Proofs.Ythobicnhophdlaa
