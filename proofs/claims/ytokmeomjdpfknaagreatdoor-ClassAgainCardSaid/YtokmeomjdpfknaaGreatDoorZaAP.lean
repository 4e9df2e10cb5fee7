/- Several texts of this proof, one behind the other. -/
import Derived.Test.YtokmeomjdpfknaaGreatDoorZaAO
import Derived.Test.YtokmeomjdpfknaaGreatDoorZaAL
import Derived.Test.YtokmeomjdpfknaaGreatDoorZaAE
/- The program's Parse of classes, walked. -/
namespace Go.Proofs.YtokmeomjdpfknaaGreatDoor
open Go.RowKit
set_option linter.unusedVariables false

theorem okT_room {t : TyD} (h : okT t = true) : TyOk (tyO t) := by
  have h1 := okT_name h
  refine ⟨?_, by show (bs t.s).size ≤ _; rw [show (bs t.s).size = t.s.length from rfl]; omega⟩
  show I64 t.k
  unfold okT at h
  unfold I64
  split at h <;> rename_i h2
  · omega
  · split at h <;> rename_i h3
    · omega
    · cases h
theorem t0_room : TyOk (tyO t0D) := ⟨⟨by decide, by decide⟩, by decide⟩
theorem typeZ_room (l : List UInt8) : TyOk (tyO (typeZ l).1) := by
  rcases typeZ_err l with h | h
  · exact okT_room (type_back h).1
  · rw [h]; exact t0_room
theorem protoZ_room (l : List UInt8) : TyOk (tyO (protoZ l).1.ret) ∧ ∀ t ∈ (protoZ l).1.args.map tyO, TyOk t := by
  rcases protoZ_err l with h | h
  · obtain ⟨h1, h2, h3⟩ := checkP_parts (proto_back h).1
    refine ⟨?_, fun t ht => ?_⟩
    · rcases h2 with h2 | h2
      · rw [h2]; exact t0_room
      · exact okT_room h2
    · obtain ⟨y, hy, rfl⟩ := List.mem_map.1 ht
      exact okT_room (h3 y hy)
  · rw [h]
    exact ⟨t0_room, fun t ht => by simp at ht⟩
theorem gIt_inv {α : Type} {one : RSt → α × RSt} {I : RSt → Prop} {Q : α → Prop} (hft : ∀ s, I s → I (one s).2 ∧ Q (one s).1) : ∀ (n : Nat) (acc : List α) (s : RSt), I s → (∀ x ∈ acc, Q x) → I (gIt one n acc s).2 ∧ ∀ x ∈ (gIt one n acc s).1, Q x := by
  intro n
  induction n with
  | zero => intro acc s hf h; exact ⟨hf, h⟩
  | succ n ih =>
    intro acc s hf h
    unfold gIt
    split
    · exact ⟨hf, h⟩
    · obtain ⟨h1, h2⟩ := hft s hf
      refine ih _ _ h1 fun x hx => ?_
      rcases List.mem_append.1 hx with hx | hx
      · exact h x hx
      · rw [List.mem_singleton.1 hx]; exact h2
def In16 (s : RSt) : Prop := Fit .u8 s.1 ∧ s.1.length ≤ 65535
theorem in_U {s : RSt} (h : In16 s) : In16 (gU s).2 := ⟨gU_fit h.1, Nat.le_trans (gU_le s) h.2⟩
theorem in_B {n : Int} {s : RSt} (h : In16 s) : In16 (gB n s).2 := ⟨(gB_fit h.1).2, Nat.le_trans (gB_le n s).1 h.2⟩
theorem in_Tx {s : RSt} (h : In16 s) : In16 (gTx s).2 := in_B (in_U h)
theorem in_Up {k : Int} {s : RSt} (h : In16 s) : In16 (gUp k s).2 := ⟨gUp_fit h.1, Nat.le_trans (gUp_len k s) h.2⟩
theorem in_Ty {s : RSt} (h : In16 s) : In16 (gTy s).2 := ⟨(in_Tx h).1, (in_Tx h).2⟩
theorem in_Pr {s : RSt} (h : In16 s) : In16 (gPr s).2 := ⟨(in_Tx h).1, (in_Tx h).2⟩
theorem in_Hd {s : RSt} (h : In16 s) : In16 (gHd s).2 := in_U (in_U (in_U (in_U h)))
theorem in_Fd {s : RSt} (h : In16 s) : In16 (gFd s).2 := in_Ty (in_Tx (in_Up h))
theorem in_Ls {α : Type} {k : Int} {one : RSt → α × RSt} {Q : α → Prop} (hft : ∀ s, In16 s → In16 (one s).2 ∧ Q (one s).1) {s : RSt} (h : In16 s) : In16 (gLs k one s).2 ∧ ∀ x ∈ (gLs k one s).1, Q x :=
  gIt_inv hft _ _ _ (in_Up h) (fun _ h => by cases h)
theorem tx_room {s : RSt} (h : In16 s) : (gTx s).1.size ≤ 65535 := Nat.le_trans (gTx_le s).2 h.2
theorem gMe_in {s : RSt} (h : In16 s) : In16 (gMe s).2 ∧ MeRoom (gMe s).1 := by
  have h1 := in_Up (k := 2) h
  have h2 := in_Tx h1
  have h3 := in_Pr h2
  have r1 := tx_room h1
  obtain ⟨r2, r3⟩ := protoZ_room (gTx (gTx (gUp 2 s).2).2).1.data.toList
  unfold gMe
  simp only
  split
  · exact ⟨h3, ⟨by simp only; omega, r2, r3, by simp⟩⟩
  · have h4 := in_U h3
    have h5 := in_U h4
    have h6 := in_U h5
    have h7 := in_B (n := (gU (gU (gU (gPr (gTx (gUp 2 s).2).2).2).2).2).1) h6
    have h8 := (gB_le (gU (gU (gU (gPr (gTx (gUp 2 s).2).2).2).2).2).1 (gU (gU (gU (gPr (gTx (gUp 2 s).2).2).2).2).2).2).2
    have h9 := h6.2
    refine ⟨(in_Ls (Q := fun _ => True) (fun s h => ⟨in_Hd h, trivial⟩) h7).1, ⟨by show (gTx (gUp 2 s).2).1.size ≤ _; omega, r2, r3, ?_⟩⟩
    show (gB (gU (gU (gU (gPr (gTx (gUp 2 s).2).2).2).2).2).1 (gU (gU (gU (gPr (gTx (gUp 2 s).2).2).2).2).2).2).1.length ≤ _
    omega
theorem gCl_room {b : List Int} (hf : Fit .u8 b) (hl : b.length ≤ 65535) : ClRoom (gCl b).1 := by
  have i0 : In16 (gHead b) := ⟨gHead_fit hf, Nat.le_trans (gB_le 3 (b, false)).1 hl⟩
  have i1 : In16 (gPool (gHead b)).2 := ⟨gPool_fit i0.1, by
    have h := i0.2
    unfold gPool
    split
    · simp only
      split
      · exact h
      · simp only [List.length_drop]
        omega
    · exact h⟩
  have i2 := in_Up (k := 1) i1
  have i3 := in_Tx i2
  have i4 := in_Tx i3
  have i5 := in_Ls (k := 64) (one := gTx) (Q := fun s => s.size ≤ 65535) (fun s h => ⟨in_Tx h, tx_room h⟩) i4
  have i6 := in_Ls (k := 256) (one := gFd) (Q := fun f => f.nm.size ≤ 65535 ∧ TyOk f.ty) (fun s h => ⟨in_Fd h, tx_room (in_Up h), typeZ_room _⟩) i5.1
  have i7 := in_Ls (k := 256) (one := gMe) (Q := MeRoom) (fun s h => gMe_in h) i6.1
  have t1 := tx_room i2
  have t2 := tx_room i3
  refine ⟨?_, ?_, ?_, ?_, ?_, ?_⟩
  · intro x hx
    have hx : x ∈ (gPool (gHead b)).1 := hx
    unfold gPool at hx
    split at hx
    · obtain ⟨p1, p2⟩ := (many_all i0.1).1 x hx
      have := p2.1
      have := i0.2
      exact ⟨p1, by omega⟩
    · cases hx
  · show (gTx (gUp 1 (gPool (gHead b)).2).2).1.size ≤ _
    omega
  · show (gTx (gTx (gUp 1 (gPool (gHead b)).2).2).2).1.size ≤ _
    omega
  · intro s hs
    have := i5.2 s hs
    omega
  · intro f hf
    have := i6.2 f hf
    exact ⟨by omega, this.2⟩
  · exact i7.2
def PAns (B : Nat) (r : Cl × Int) (u : Value) (w' : World) : Prop := ∃ vp vi vf vm, u = .tuple #[.agg (r.1.vals vp vi vf vm), .int .i64 r.2] ∧ ClOwn B w' r.1 vp vi vf vm
theorem clOwn_zero (B : Nat) (w : World) : ClOwn B w cl0 (.slice none 0 0) (.slice none 0 0) (.slice none 0 0) (.slice none 0 0) := ⟨Shp.Own.nil _ _ _, Shp.Own.nil _ _ _, Shp.Own.nil _ _ _, OwnM.nil _ _⟩
theorem BK.sets7 {W : World} {r : Nat} {T : TypeId} {z0 z1 z2 z3 z4 z5 z6 : Value} (h : BK W r #[z0, z1, z2, z3, z4, z5, z6] T) (a0 a1 a2 a3 a4 a5 a6 : Value) : BK (sets7 W r a0 a1 a2 a3 a4 a5 a6) r #[a0, a1, a2, a3, a4, a5, a6] T := by
  have h0 : BK _ r #[a0, z1, z2, z3, z4, z5, z6] T := h.put 0 a0
  have h1 : BK _ r #[a0, a1, z2, z3, z4, z5, z6] T := h0.put 1 a1
  have h2 : BK _ r #[a0, a1, a2, z3, z4, z5, z6] T := h1.put 2 a2
  have h3 : BK _ r #[a0, a1, a2, a3, z4, z5, z6] T := h2.put 3 a3
  have h4 : BK _ r #[a0, a1, a2, a3, a4, z5, z6] T := h3.put 4 a4
  have h5 : BK _ r #[a0, a1, a2, a3, a4, a5, z6] T := h4.put 5 a5
  exact h5.put 6 a6
theorem sets7_ext {w W : World} (h : Ext w W) (a0 a1 a2 a3 a4 a5 a6 : Value) : Ext w (sets7 W w.heap.size a0 a1 a2 a3 a4 a5 a6) :=
  h.grown (sets7_grown W w.heap.size a0 a1 a2 a3 a4 a5 a6) (fun k hk => by injection hk with hk; omega)
set_option maxRecDepth 100000 in
set_option maxHeartbeats 2000000 in
theorem classParse_any (v : Value) (b : List Int) (w : World) (h : Row w .u8 v b) (hT : Tabs w) (hM : Most w) :
    Calls Tryz.prog 21 #[v] w (Ret w (PAns w.heap.size (parseK b))) := by
  have H := Lib.hid h
  have hfit := h.fit
  obtain ⟨A, c, rfl, hcl, hcm, -⟩ := id h
  unfold maxLen at hcm
  obtain ⟨G, hG⟩ : ∃ G, parseK b = G := ⟨_, rfl⟩
  have HG := Lib.hid hG
  rw [hG]
  by_cases hbig : 65535 < b.length
  · have HE := Lib.hid (show G = (cl0, 5) by rw [← hG]; unfold parseK; rw [if_pos hbig])
    clear hG h hfit hT hM
    go_enter Tryz.func21, Tryz.ntmps21
    go_wp2
    refine bodyPost_ret (v := .tuple #[.agg #[.slice none 0 0, .string ⟨#[]⟩, .string ⟨#[]⟩, .bool false, .slice none 0 0, .slice none 0 0, .slice none 0 0], .int .i64 5]) (by simp [results, Tryz.results21, go_sem]; try first | exact ⟨rfl, rfl⟩ | rfl) rfl ?_
    rw [HE.out]
    exact Ret.mk ⟨_, _, _, _, rfl, clOwn_zero _ _⟩ ((Ext.refl w).alloc _)
  · have hlb : b.length ≤ 65535 := by omega
    have HGP := Lib.hid (show G = if (gCl b).2.2 = true ∨ 0 < (gCl b).2.1.length then (cl0, 80) else if okCl (gCl b).1 = true then ((gCl b).1, 0) else (cl0, 80) by rw [← hG]; unfold parseK; rw [if_neg hbig])
    have hroom := gCl_room hfit hlb
    have hrk : RK w ((w.alloc (.cells #[.slice none 0 0, .string ⟨#[]⟩, .string ⟨#[]⟩, .bool false, .slice none 0 0, .slice none 0 0, .slice none 0 0] 27)).alloc (.cells #[.slice A b.length c, .bool false] 82)) (w.heap.size + 1) (b, false) :=
      ⟨_, (by have := BK.new (w.alloc (.cells #[.slice none 0 0, .string ⟨#[]⟩, .string ⟨#[]⟩, .bool false, .slice none 0 0, .slice none 0 0, .slice none 0 0] 27)) #[.slice A b.length c, .bool false] 82; simpa [BK] using this), h, ((Ext.refl w).alloc _).alloc _, by omega⟩
    have HR := Lib.hid (rclass_any w _ (w.heap.size + 1) b hrk hT hM (by omega))
    have HK := Lib.hid (fun W vp vi vf vm (e : Ext w W) (ha : ClAt W (gCl b).1 vp vi vf vm) => classCheck_any (gCl b).1 vp vi vf vm W ha hroom (hT.ext e) (hM.ext e))
    obtain ⟨X, hX⟩ : ∃ X, gCl b = X := ⟨_, rfl⟩
    rw [hX] at HGP HR HK
    obtain ⟨cc, lb, wb⟩ := X
    simp only at HGP HR HK
    clear hG h hfit hT hM hX hroom hrk HG
    go_enter Tryz.func21, Tryz.ntmps21
    go_wp2_with fail
    refine HR.out.mono ?_
    rintro x w1 ⟨vp, vi, vf, vm, ⟨rfl, h1, g1⟩, ho⟩
    have R1 := ((BK.new w #[.slice none 0 0, .string ⟨#[]⟩, .string ⟨#[]⟩, .bool false, .slice none 0 0, .slice none 0 0, .slice none 0 0] 27).ext ((Ext.refl _).alloc (.cells #[.slice A b.length c, .bool false] 82))).kept g1 (by omega)
    have hs1 : w.heap.size + 2 ≤ w1.heap.size := by have := g1.size; simpa using this
    obtain ⟨pool, inf, nm, sup, ifs, fds, mts⟩ := cc
    unfold Cl.vals at HK
    simp only at HK
    obtain ⟨Ap, cp, rfl, -⟩ := (show ShC.Own _ w1 vp pool from ho.1).slice
    obtain ⟨Ai, ci, rfl, -⟩ := (show ShS.Own _ w1 vi ifs from ho.2.1).slice
    obtain ⟨Af, cf, rfl, -⟩ := (show ShF.Own _ w1 vf fds from ho.2.2.1).slice
    obtain ⟨Am, cm, rfl, -⟩ := (show OwnM _ w1 vm mts from ho.2.2.2).slice
    obtain ⟨A2, c2, -, -, -, d0, d1, e0, e1⟩ := h1.cells
    simp only at d0 d1
    have X1 := Lib.hid h1.ext0
    have O1 := Lib.hid (ho.base (B' := w.heap.size + 2) (by simp))
    have R2 := Lib.hid R1
    have lg := h1.lt
    have ng : ¬ w.heap.size + 1 = w1.heap.size := by omega
    have nr : ¬ w.heap.size = w1.heap.size := by omega
    unfold Cl.vals
    simp only
    obtain ⟨np, hnp⟩ : ∃ n, pool.length = n := ⟨_, rfl⟩
    obtain ⟨ni, hni⟩ : ∃ n, ifs.length = n := ⟨_, rfl⟩
    obtain ⟨nf, hnf⟩ : ∃ n, fds.length = n := ⟨_, rfl⟩
    obtain ⟨nM, hnm⟩ : ∃ n, mts.length = n := ⟨_, rfl⟩
    rw [hnp, hni, hnf, hnm] at O1 ⊢
    have lR := R1.lt
    clear h1 g1 ho R1 e0 e1 hnp hni hnf hnm
    have KK := Lib.hid (HK.out _ _ _ _ _ (X1.out.alloc (.cells #[Value.slice Ap np cp, Value.string nm, Value.string sup, Value.bool inf, Value.slice Ai ni ci, Value.slice Af nf cf, Value.slice Am nM cm] 27)) (O1.out.ext ((Ext.refl w1).alloc (.cells #[Value.slice Ap np cp, Value.string nm, Value.string sup, Value.bool inf, Value.slice Ai ni ci, Value.slice Af nf cf, Value.slice Am nM cm] 27))).at)
    cases wb
    case true =>
      have HE := Lib.hid (show G = (cl0, 80) by rw [HGP.out]; rw [if_pos (.inl rfl)])
      have z0 : w1.cell? ⟨w.heap.size, 0, none⟩ = some (.slice none 0 0) := R2.out.cell 0
      have g0 := R2.out.free 0
      have z1 : w1.cell? ⟨w.heap.size, 1, none⟩ = some (.string ⟨#[]⟩) := R2.out.cell 1
      have g1 := R2.out.free 1
      have z2 : w1.cell? ⟨w.heap.size, 2, none⟩ = some (.string ⟨#[]⟩) := R2.out.cell 2
      have g2 := R2.out.free 2
      have z3 : w1.cell? ⟨w.heap.size, 3, none⟩ = some (.bool false) := R2.out.cell 3
      have g3 := R2.out.free 3
      have z4 : w1.cell? ⟨w.heap.size, 4, none⟩ = some (.slice none 0 0) := R2.out.cell 4
      have g4 := R2.out.free 4
      have z5 : w1.cell? ⟨w.heap.size, 5, none⟩ = some (.slice none 0 0) := R2.out.cell 5
      have g5 := R2.out.free 5
      have z6 : w1.cell? ⟨w.heap.size, 6, none⟩ = some (.slice none 0 0) := R2.out.cell 6
      have g6 := R2.out.free 6
      go_wp2
      have e0 : ((sets7 w1 w.heap.size (Value.slice none 0 0) (Value.string ⟨#[]⟩) (Value.string ⟨#[]⟩) (Value.bool false) (Value.slice none 0 0) (Value.slice none 0 0) (Value.slice none 0 0)).alloc (.cells #[Value.slice Ap np cp, Value.string nm, Value.string sup, Value.bool inf, Value.slice Ai ni ci, Value.slice Af nf cf, Value.slice Am nM cm] 27)).cell? ⟨w.heap.size, 0, none⟩ = some (.slice none 0 0) := ((R2.out.sets7 (Value.slice none 0 0) (Value.string ⟨#[]⟩) (Value.string ⟨#[]⟩) (Value.bool false) (Value.slice none 0 0) (Value.slice none 0 0) (Value.slice none 0 0)).ext ((Ext.refl _).alloc (.cells #[Value.slice Ap np cp, Value.string nm, Value.string sup, Value.bool inf, Value.slice Ai ni ci, Value.slice Af nf cf, Value.slice Am nM cm] 27))).cell 0
      have e1 : ((sets7 w1 w.heap.size (Value.slice none 0 0) (Value.string ⟨#[]⟩) (Value.string ⟨#[]⟩) (Value.bool false) (Value.slice none 0 0) (Value.slice none 0 0) (Value.slice none 0 0)).alloc (.cells #[Value.slice Ap np cp, Value.string nm, Value.string sup, Value.bool inf, Value.slice Ai ni ci, Value.slice Af nf cf, Value.slice Am nM cm] 27)).cell? ⟨w.heap.size, 1, none⟩ = some (.string ⟨#[]⟩) := ((R2.out.sets7 (Value.slice none 0 0) (Value.string ⟨#[]⟩) (Value.string ⟨#[]⟩) (Value.bool false) (Value.slice none 0 0) (Value.slice none 0 0) (Value.slice none 0 0)).ext ((Ext.refl _).alloc (.cells #[Value.slice Ap np cp, Value.string nm, Value.string sup, Value.bool inf, Value.slice Ai ni ci, Value.slice Af nf cf, Value.slice Am nM cm] 27))).cell 1
      have e2 : ((sets7 w1 w.heap.size (Value.slice none 0 0) (Value.string ⟨#[]⟩) (Value.string ⟨#[]⟩) (Value.bool false) (Value.slice none 0 0) (Value.slice none 0 0) (Value.slice none 0 0)).alloc (.cells #[Value.slice Ap np cp, Value.string nm, Value.string sup, Value.bool inf, Value.slice Ai ni ci, Value.slice Af nf cf, Value.slice Am nM cm] 27)).cell? ⟨w.heap.size, 2, none⟩ = some (.string ⟨#[]⟩) := ((R2.out.sets7 (Value.slice none 0 0) (Value.string ⟨#[]⟩) (Value.string ⟨#[]⟩) (Value.bool false) (Value.slice none 0 0) (Value.slice none 0 0) (Value.slice none 0 0)).ext ((Ext.refl _).alloc (.cells #[Value.slice Ap np cp, Value.string nm, Value.string sup, Value.bool inf, Value.slice Ai ni ci, Value.slice Af nf cf, Value.slice Am nM cm] 27))).cell 2
      have e3 : ((sets7 w1 w.heap.size (Value.slice none 0 0) (Value.string ⟨#[]⟩) (Value.string ⟨#[]⟩) (Value.bool false) (Value.slice none 0 0) (Value.slice none 0 0) (Value.slice none 0 0)).alloc (.cells #[Value.slice Ap np cp, Value.string nm, Value.string sup, Value.bool inf, Value.slice Ai ni ci, Value.slice Af nf cf, Value.slice Am nM cm] 27)).cell? ⟨w.heap.size, 3, none⟩ = some (.bool false) := ((R2.out.sets7 (Value.slice none 0 0) (Value.string ⟨#[]⟩) (Value.string ⟨#[]⟩) (Value.bool false) (Value.slice none 0 0) (Value.slice none 0 0) (Value.slice none 0 0)).ext ((Ext.refl _).alloc (.cells #[Value.slice Ap np cp, Value.string nm, Value.string sup, Value.bool inf, Value.slice Ai ni ci, Value.slice Af nf cf, Value.slice Am nM cm] 27))).cell 3
      have e4 : ((sets7 w1 w.heap.size (Value.slice none 0 0) (Value.string ⟨#[]⟩) (Value.string ⟨#[]⟩) (Value.bool false) (Value.slice none 0 0) (Value.slice none 0 0) (Value.slice none 0 0)).alloc (.cells #[Value.slice Ap np cp, Value.string nm, Value.string sup, Value.bool inf, Value.slice Ai ni ci, Value.slice Af nf cf, Value.slice Am nM cm] 27)).cell? ⟨w.heap.size, 4, none⟩ = some (.slice none 0 0) := ((R2.out.sets7 (Value.slice none 0 0) (Value.string ⟨#[]⟩) (Value.string ⟨#[]⟩) (Value.bool false) (Value.slice none 0 0) (Value.slice none 0 0) (Value.slice none 0 0)).ext ((Ext.refl _).alloc (.cells #[Value.slice Ap np cp, Value.string nm, Value.string sup, Value.bool inf, Value.slice Ai ni ci, Value.slice Af nf cf, Value.slice Am nM cm] 27))).cell 4
      have e5 : ((sets7 w1 w.heap.size (Value.slice none 0 0) (Value.string ⟨#[]⟩) (Value.string ⟨#[]⟩) (Value.bool false) (Value.slice none 0 0) (Value.slice none 0 0) (Value.slice none 0 0)).alloc (.cells #[Value.slice Ap np cp, Value.string nm, Value.string sup, Value.bool inf, Value.slice Ai ni ci, Value.slice Af nf cf, Value.slice Am nM cm] 27)).cell? ⟨w.heap.size, 5, none⟩ = some (.slice none 0 0) := ((R2.out.sets7 (Value.slice none 0 0) (Value.string ⟨#[]⟩) (Value.string ⟨#[]⟩) (Value.bool false) (Value.slice none 0 0) (Value.slice none 0 0) (Value.slice none 0 0)).ext ((Ext.refl _).alloc (.cells #[Value.slice Ap np cp, Value.string nm, Value.string sup, Value.bool inf, Value.slice Ai ni ci, Value.slice Af nf cf, Value.slice Am nM cm] 27))).cell 5
      have e6 : ((sets7 w1 w.heap.size (Value.slice none 0 0) (Value.string ⟨#[]⟩) (Value.string ⟨#[]⟩) (Value.bool false) (Value.slice none 0 0) (Value.slice none 0 0) (Value.slice none 0 0)).alloc (.cells #[Value.slice Ap np cp, Value.string nm, Value.string sup, Value.bool inf, Value.slice Ai ni ci, Value.slice Af nf cf, Value.slice Am nM cm] 27)).cell? ⟨w.heap.size, 6, none⟩ = some (.slice none 0 0) := ((R2.out.sets7 (Value.slice none 0 0) (Value.string ⟨#[]⟩) (Value.string ⟨#[]⟩) (Value.bool false) (Value.slice none 0 0) (Value.slice none 0 0) (Value.slice none 0 0)).ext ((Ext.refl _).alloc (.cells #[Value.slice Ap np cp, Value.string nm, Value.string sup, Value.bool inf, Value.slice Ai ni ci, Value.slice Af nf cf, Value.slice Am nM cm] 27))).cell 6
      refine bodyPost_ret (v := .tuple #[.agg #[.slice none 0 0, .string ⟨#[]⟩, .string ⟨#[]⟩, .bool false, .slice none 0 0, .slice none 0 0, .slice none 0 0], .int .i64 80]) (by change (results _ _).run _ ((sets7 w1 w.heap.size (Value.slice none 0 0) (Value.string ⟨#[]⟩) (Value.string ⟨#[]⟩) (Value.bool false) (Value.slice none 0 0) (Value.slice none 0 0) (Value.slice none 0 0)).alloc (.cells #[Value.slice Ap np cp, Value.string nm, Value.string sup, Value.bool inf, Value.slice Ai ni ci, Value.slice Af nf cf, Value.slice Am nM cm] 27)) = _; simp [results, Tryz.results21, go_sem, e0, e1, e2, e3, e4, e5, e6]; rfl) rfl ?_
      rw [HE.out]
      exact Ret.mk ⟨_, _, _, _, rfl, clOwn_zero _ _⟩ ((sets7_ext X1.out _ _ _ _ _ _ _).alloc _)
    case false =>
      by_cases hrest : 0 < lb.length
      · have HE := Lib.hid (show G = (cl0, 80) by rw [HGP.out]; rw [if_pos (.inr hrest)])
        have z0 : w1.cell? ⟨w.heap.size, 0, none⟩ = some (.slice none 0 0) := R2.out.cell 0
        have g0 := R2.out.free 0
        have z1 : w1.cell? ⟨w.heap.size, 1, none⟩ = some (.string ⟨#[]⟩) := R2.out.cell 1
        have g1 := R2.out.free 1
        have z2 : w1.cell? ⟨w.heap.size, 2, none⟩ = some (.string ⟨#[]⟩) := R2.out.cell 2
        have g2 := R2.out.free 2
        have z3 : w1.cell? ⟨w.heap.size, 3, none⟩ = some (.bool false) := R2.out.cell 3
        have g3 := R2.out.free 3
        have z4 : w1.cell? ⟨w.heap.size, 4, none⟩ = some (.slice none 0 0) := R2.out.cell 4
        have g4 := R2.out.free 4
        have z5 : w1.cell? ⟨w.heap.size, 5, none⟩ = some (.slice none 0 0) := R2.out.cell 5
        have g5 := R2.out.free 5
        have z6 : w1.cell? ⟨w.heap.size, 6, none⟩ = some (.slice none 0 0) := R2.out.cell 6
        have g6 := R2.out.free 6
        go_wp2
        have e0 : ((sets7 w1 w.heap.size (Value.slice none 0 0) (Value.string ⟨#[]⟩) (Value.string ⟨#[]⟩) (Value.bool false) (Value.slice none 0 0) (Value.slice none 0 0) (Value.slice none 0 0)).alloc (.cells #[Value.slice Ap np cp, Value.string nm, Value.string sup, Value.bool inf, Value.slice Ai ni ci, Value.slice Af nf cf, Value.slice Am nM cm] 27)).cell? ⟨w.heap.size, 0, none⟩ = some (.slice none 0 0) := ((R2.out.sets7 (Value.slice none 0 0) (Value.string ⟨#[]⟩) (Value.string ⟨#[]⟩) (Value.bool false) (Value.slice none 0 0) (Value.slice none 0 0) (Value.slice none 0 0)).ext ((Ext.refl _).alloc (.cells #[Value.slice Ap np cp, Value.string nm, Value.string sup, Value.bool inf, Value.slice Ai ni ci, Value.slice Af nf cf, Value.slice Am nM cm] 27))).cell 0
        have e1 : ((sets7 w1 w.heap.size (Value.slice none 0 0) (Value.string ⟨#[]⟩) (Value.string ⟨#[]⟩) (Value.bool false) (Value.slice none 0 0) (Value.slice none 0 0) (Value.slice none 0 0)).alloc (.cells #[Value.slice Ap np cp, Value.string nm, Value.string sup, Value.bool inf, Value.slice Ai ni ci, Value.slice Af nf cf, Value.slice Am nM cm] 27)).cell? ⟨w.heap.size, 1, none⟩ = some (.string ⟨#[]⟩) := ((R2.out.sets7 (Value.slice none 0 0) (Value.string ⟨#[]⟩) (Value.string ⟨#[]⟩) (Value.bool false) (Value.slice none 0 0) (Value.slice none 0 0) (Value.slice none 0 0)).ext ((Ext.refl _).alloc (.cells #[Value.slice Ap np cp, Value.string nm, Value.string sup, Value.bool inf, Value.slice Ai ni ci, Value.slice Af nf cf, Value.slice Am nM cm] 27))).cell 1
        have e2 : ((sets7 w1 w.heap.size (Value.slice none 0 0) (Value.string ⟨#[]⟩) (Value.string ⟨#[]⟩) (Value.bool false) (Value.slice none 0 0) (Value.slice none 0 0) (Value.slice none 0 0)).alloc (.cells #[Value.slice Ap np cp, Value.string nm, Value.string sup, Value.bool inf, Value.slice Ai ni ci, Value.slice Af nf cf, Value.slice Am nM cm] 27)).cell? ⟨w.heap.size, 2, none⟩ = some (.string ⟨#[]⟩) := ((R2.out.sets7 (Value.slice none 0 0) (Value.string ⟨#[]⟩) (Value.string ⟨#[]⟩) (Value.bool false) (Value.slice none 0 0) (Value.slice none 0 0) (Value.slice none 0 0)).ext ((Ext.refl _).alloc (.cells #[Value.slice Ap np cp, Value.string nm, Value.string sup, Value.bool inf, Value.slice Ai ni ci, Value.slice Af nf cf, Value.slice Am nM cm] 27))).cell 2
        have e3 : ((sets7 w1 w.heap.size (Value.slice none 0 0) (Value.string ⟨#[]⟩) (Value.string ⟨#[]⟩) (Value.bool false) (Value.slice none 0 0) (Value.slice none 0 0) (Value.slice none 0 0)).alloc (.cells #[Value.slice Ap np cp, Value.string nm, Value.string sup, Value.bool inf, Value.slice Ai ni ci, Value.slice Af nf cf, Value.slice Am nM cm] 27)).cell? ⟨w.heap.size, 3, none⟩ = some (.bool false) := ((R2.out.sets7 (Value.slice none 0 0) (Value.string ⟨#[]⟩) (Value.string ⟨#[]⟩) (Value.bool false) (Value.slice none 0 0) (Value.slice none 0 0) (Value.slice none 0 0)).ext ((Ext.refl _).alloc (.cells #[Value.slice Ap np cp, Value.string nm, Value.string sup, Value.bool inf, Value.slice Ai ni ci, Value.slice Af nf cf, Value.slice Am nM cm] 27))).cell 3
        have e4 : ((sets7 w1 w.heap.size (Value.slice none 0 0) (Value.string ⟨#[]⟩) (Value.string ⟨#[]⟩) (Value.bool false) (Value.slice none 0 0) (Value.slice none 0 0) (Value.slice none 0 0)).alloc (.cells #[Value.slice Ap np cp, Value.string nm, Value.string sup, Value.bool inf, Value.slice Ai ni ci, Value.slice Af nf cf, Value.slice Am nM cm] 27)).cell? ⟨w.heap.size, 4, none⟩ = some (.slice none 0 0) := ((R2.out.sets7 (Value.slice none 0 0) (Value.string ⟨#[]⟩) (Value.string ⟨#[]⟩) (Value.bool false) (Value.slice none 0 0) (Value.slice none 0 0) (Value.slice none 0 0)).ext ((Ext.refl _).alloc (.cells #[Value.slice Ap np cp, Value.string nm, Value.string sup, Value.bool inf, Value.slice Ai ni ci, Value.slice Af nf cf, Value.slice Am nM cm] 27))).cell 4
        have e5 : ((sets7 w1 w.heap.size (Value.slice none 0 0) (Value.string ⟨#[]⟩) (Value.string ⟨#[]⟩) (Value.bool false) (Value.slice none 0 0) (Value.slice none 0 0) (Value.slice none 0 0)).alloc (.cells #[Value.slice Ap np cp, Value.string nm, Value.string sup, Value.bool inf, Value.slice Ai ni ci, Value.slice Af nf cf, Value.slice Am nM cm] 27)).cell? ⟨w.heap.size, 5, none⟩ = some (.slice none 0 0) := ((R2.out.sets7 (Value.slice none 0 0) (Value.string ⟨#[]⟩) (Value.string ⟨#[]⟩) (Value.bool false) (Value.slice none 0 0) (Value.slice none 0 0) (Value.slice none 0 0)).ext ((Ext.refl _).alloc (.cells #[Value.slice Ap np cp, Value.string nm, Value.string sup, Value.bool inf, Value.slice Ai ni ci, Value.slice Af nf cf, Value.slice Am nM cm] 27))).cell 5
        have e6 : ((sets7 w1 w.heap.size (Value.slice none 0 0) (Value.string ⟨#[]⟩) (Value.string ⟨#[]⟩) (Value.bool false) (Value.slice none 0 0) (Value.slice none 0 0) (Value.slice none 0 0)).alloc (.cells #[Value.slice Ap np cp, Value.string nm, Value.string sup, Value.bool inf, Value.slice Ai ni ci, Value.slice Af nf cf, Value.slice Am nM cm] 27)).cell? ⟨w.heap.size, 6, none⟩ = some (.slice none 0 0) := ((R2.out.sets7 (Value.slice none 0 0) (Value.string ⟨#[]⟩) (Value.string ⟨#[]⟩) (Value.bool false) (Value.slice none 0 0) (Value.slice none 0 0) (Value.slice none 0 0)).ext ((Ext.refl _).alloc (.cells #[Value.slice Ap np cp, Value.string nm, Value.string sup, Value.bool inf, Value.slice Ai ni ci, Value.slice Af nf cf, Value.slice Am nM cm] 27))).cell 6
        refine bodyPost_ret (v := .tuple #[.agg #[.slice none 0 0, .string ⟨#[]⟩, .string ⟨#[]⟩, .bool false, .slice none 0 0, .slice none 0 0, .slice none 0 0], .int .i64 80]) (by change (results _ _).run _ ((sets7 w1 w.heap.size (Value.slice none 0 0) (Value.string ⟨#[]⟩) (Value.string ⟨#[]⟩) (Value.bool false) (Value.slice none 0 0) (Value.slice none 0 0) (Value.slice none 0 0)).alloc (.cells #[Value.slice Ap np cp, Value.string nm, Value.string sup, Value.bool inf, Value.slice Ai ni ci, Value.slice Af nf cf, Value.slice Am nM cm] 27)) = _; simp [results, Tryz.results21, go_sem, e0, e1, e2, e3, e4, e5, e6]; rfl) rfl ?_
        rw [HE.out]
        exact Ret.mk ⟨_, _, _, _, rfl, clOwn_zero _ _⟩ ((sets7_ext X1.out _ _ _ _ _ _ _).alloc _)
      · have HE2 := Lib.hid (show G = if okCl ⟨pool, inf, nm, sup, ifs, fds, mts⟩ = true then (⟨pool, inf, nm, sup, ifs, fds, mts⟩, 0) else (cl0, 80) by rw [HGP.out]; rw [if_neg (fun h => h.elim (fun h => by cases h) hrest)])
        unfold chkK at KK
        obtain ⟨Z, hZ⟩ : ∃ Z, okCl ⟨pool, inf, nm, sup, ifs, fds, mts⟩ = Z := ⟨_, rfl⟩
        rw [hZ] at KK HE2
        have hrest0 : lb.length = 0 := by omega
        rw [hrest0] at d0
        clear hZ hrest hrest0
        go_wp2_with fail
        refine KK.out.mono ?_
        rintro x w2 ⟨rfl, x2⟩
        have X2 := Lib.hid ((X1.out.alloc (.cells #[Value.slice Ap np cp, Value.string nm, Value.string sup, Value.bool inf, Value.slice Ai ni ci, Value.slice Af nf cf, Value.slice Am nM cm] 27)).trans x2)
        have R3 := Lib.hid ((R2.out.ext ((Ext.refl w1).alloc (.cells #[Value.slice Ap np cp, Value.string nm, Value.string sup, Value.bool inf, Value.slice Ai ni ci, Value.slice Af nf cf, Value.slice Am nM cm] 27))).ext x2)
        have B3 := Lib.hid ((BK.new w1 #[Value.slice Ap np cp, Value.string nm, Value.string sup, Value.bool inf, Value.slice Ai ni ci, Value.slice Af nf cf, Value.slice Am nM cm] 27).ext x2)
        have O3 := Lib.hid ((O1.out.ext ((Ext.refl w1).alloc (.cells #[Value.slice Ap np cp, Value.string nm, Value.string sup, Value.bool inf, Value.slice Ai ni ci, Value.slice Af nf cf, Value.slice Am nM cm] 27))).ext x2)
        have l2 := B3.out.lt
        clear x2 d0 d1
        cases Z
        case false =>
          have HE := Lib.hid (show G = (cl0, 80) from HE2.out.trans (if_neg (by decide)))
          have z0 : w2.cell? ⟨w.heap.size, 0, none⟩ = some (.slice none 0 0) := R3.out.cell 0
          have g0 := R3.out.free 0
          have z1 : w2.cell? ⟨w.heap.size, 1, none⟩ = some (.string ⟨#[]⟩) := R3.out.cell 1
          have g1 := R3.out.free 1
          have z2 : w2.cell? ⟨w.heap.size, 2, none⟩ = some (.string ⟨#[]⟩) := R3.out.cell 2
          have g2 := R3.out.free 2
          have z3 : w2.cell? ⟨w.heap.size, 3, none⟩ = some (.bool false) := R3.out.cell 3
          have g3 := R3.out.free 3
          have z4 : w2.cell? ⟨w.heap.size, 4, none⟩ = some (.slice none 0 0) := R3.out.cell 4
          have g4 := R3.out.free 4
          have z5 : w2.cell? ⟨w.heap.size, 5, none⟩ = some (.slice none 0 0) := R3.out.cell 5
          have g5 := R3.out.free 5
          have z6 : w2.cell? ⟨w.heap.size, 6, none⟩ = some (.slice none 0 0) := R3.out.cell 6
          have g6 := R3.out.free 6
          go_wp2
          have e0 : (sets7 w2 w.heap.size (Value.slice none 0 0) (Value.string ⟨#[]⟩) (Value.string ⟨#[]⟩) (Value.bool false) (Value.slice none 0 0) (Value.slice none 0 0) (Value.slice none 0 0)).cell? ⟨w.heap.size, 0, none⟩ = some (.slice none 0 0) := (R3.out.sets7 (Value.slice none 0 0) (Value.string ⟨#[]⟩) (Value.string ⟨#[]⟩) (Value.bool false) (Value.slice none 0 0) (Value.slice none 0 0) (Value.slice none 0 0)).cell 0
          have e1 : (sets7 w2 w.heap.size (Value.slice none 0 0) (Value.string ⟨#[]⟩) (Value.string ⟨#[]⟩) (Value.bool false) (Value.slice none 0 0) (Value.slice none 0 0) (Value.slice none 0 0)).cell? ⟨w.heap.size, 1, none⟩ = some (.string ⟨#[]⟩) := (R3.out.sets7 (Value.slice none 0 0) (Value.string ⟨#[]⟩) (Value.string ⟨#[]⟩) (Value.bool false) (Value.slice none 0 0) (Value.slice none 0 0) (Value.slice none 0 0)).cell 1
          have e2 : (sets7 w2 w.heap.size (Value.slice none 0 0) (Value.string ⟨#[]⟩) (Value.string ⟨#[]⟩) (Value.bool false) (Value.slice none 0 0) (Value.slice none 0 0) (Value.slice none 0 0)).cell? ⟨w.heap.size, 2, none⟩ = some (.string ⟨#[]⟩) := (R3.out.sets7 (Value.slice none 0 0) (Value.string ⟨#[]⟩) (Value.string ⟨#[]⟩) (Value.bool false) (Value.slice none 0 0) (Value.slice none 0 0) (Value.slice none 0 0)).cell 2
          have e3 : (sets7 w2 w.heap.size (Value.slice none 0 0) (Value.string ⟨#[]⟩) (Value.string ⟨#[]⟩) (Value.bool false) (Value.slice none 0 0) (Value.slice none 0 0) (Value.slice none 0 0)).cell? ⟨w.heap.size, 3, none⟩ = some (.bool false) := (R3.out.sets7 (Value.slice none 0 0) (Value.string ⟨#[]⟩) (Value.string ⟨#[]⟩) (Value.bool false) (Value.slice none 0 0) (Value.slice none 0 0) (Value.slice none 0 0)).cell 3
          have e4 : (sets7 w2 w.heap.size (Value.slice none 0 0) (Value.string ⟨#[]⟩) (Value.string ⟨#[]⟩) (Value.bool false) (Value.slice none 0 0) (Value.slice none 0 0) (Value.slice none 0 0)).cell? ⟨w.heap.size, 4, none⟩ = some (.slice none 0 0) := (R3.out.sets7 (Value.slice none 0 0) (Value.string ⟨#[]⟩) (Value.string ⟨#[]⟩) (Value.bool false) (Value.slice none 0 0) (Value.slice none 0 0) (Value.slice none 0 0)).cell 4
          have e5 : (sets7 w2 w.heap.size (Value.slice none 0 0) (Value.string ⟨#[]⟩) (Value.string ⟨#[]⟩) (Value.bool false) (Value.slice none 0 0) (Value.slice none 0 0) (Value.slice none 0 0)).cell? ⟨w.heap.size, 5, none⟩ = some (.slice none 0 0) := (R3.out.sets7 (Value.slice none 0 0) (Value.string ⟨#[]⟩) (Value.string ⟨#[]⟩) (Value.bool false) (Value.slice none 0 0) (Value.slice none 0 0) (Value.slice none 0 0)).cell 5
          have e6 : (sets7 w2 w.heap.size (Value.slice none 0 0) (Value.string ⟨#[]⟩) (Value.string ⟨#[]⟩) (Value.bool false) (Value.slice none 0 0) (Value.slice none 0 0) (Value.slice none 0 0)).cell? ⟨w.heap.size, 6, none⟩ = some (.slice none 0 0) := (R3.out.sets7 (Value.slice none 0 0) (Value.string ⟨#[]⟩) (Value.string ⟨#[]⟩) (Value.bool false) (Value.slice none 0 0) (Value.slice none 0 0) (Value.slice none 0 0)).cell 6
          refine bodyPost_ret (v := .tuple #[.agg #[.slice none 0 0, .string ⟨#[]⟩, .string ⟨#[]⟩, .bool false, .slice none 0 0, .slice none 0 0, .slice none 0 0], .int .i64 80]) (by change (results _ _).run _ (sets7 w2 w.heap.size (Value.slice none 0 0) (Value.string ⟨#[]⟩) (Value.string ⟨#[]⟩) (Value.bool false) (Value.slice none 0 0) (Value.slice none 0 0) (Value.slice none 0 0)) = _; simp [results, Tryz.results21, go_sem, e0, e1, e2, e3, e4, e5, e6]; rfl) rfl ?_
          rw [HE.out]
          exact Ret.mk ⟨_, _, _, _, rfl, clOwn_zero _ _⟩ (sets7_ext X2.out _ _ _ _ _ _ _)
        case true =>
          have HE := Lib.hid (HE2.out.trans (if_pos rfl))
          have z0 : w2.cell? ⟨w.heap.size, 0, none⟩ = some (.slice none 0 0) := R3.out.cell 0
          have g0 := R3.out.free 0
          have z1 : w2.cell? ⟨w.heap.size, 1, none⟩ = some (.string ⟨#[]⟩) := R3.out.cell 1
          have g1 := R3.out.free 1
          have z2 : w2.cell? ⟨w.heap.size, 2, none⟩ = some (.string ⟨#[]⟩) := R3.out.cell 2
          have g2 := R3.out.free 2
          have z3 : w2.cell? ⟨w.heap.size, 3, none⟩ = some (.bool false) := R3.out.cell 3
          have g3 := R3.out.free 3
          have z4 : w2.cell? ⟨w.heap.size, 4, none⟩ = some (.slice none 0 0) := R3.out.cell 4
          have g4 := R3.out.free 4
          have z5 : w2.cell? ⟨w.heap.size, 5, none⟩ = some (.slice none 0 0) := R3.out.cell 5
          have g5 := R3.out.free 5
          have z6 : w2.cell? ⟨w.heap.size, 6, none⟩ = some (.slice none 0 0) := R3.out.cell 6
          have g6 := R3.out.free 6
          have y0 : w2.cell? ⟨w1.heap.size, 0, none⟩ = some (Value.slice Ap np cp) := B3.out.cell 0
          have y1 : w2.cell? ⟨w1.heap.size, 1, none⟩ = some (Value.string nm) := B3.out.cell 1
          have y2 : w2.cell? ⟨w1.heap.size, 2, none⟩ = some (Value.string sup) := B3.out.cell 2
          have y3 : w2.cell? ⟨w1.heap.size, 3, none⟩ = some (Value.bool inf) := B3.out.cell 3
          have y4 : w2.cell? ⟨w1.heap.size, 4, none⟩ = some (Value.slice Ai ni ci) := B3.out.cell 4
          have y5 : w2.cell? ⟨w1.heap.size, 5, none⟩ = some (Value.slice Af nf cf) := B3.out.cell 5
          have y6 : w2.cell? ⟨w1.heap.size, 6, none⟩ = some (Value.slice Am nM cm) := B3.out.cell 6
          go_wp2
          have e0 : (sets7 w2 w.heap.size (Value.slice Ap np cp) (Value.string nm) (Value.string sup) (Value.bool inf) (Value.slice Ai ni ci) (Value.slice Af nf cf) (Value.slice Am nM cm)).cell? ⟨w.heap.size, 0, none⟩ = some (Value.slice Ap np cp) := (R3.out.sets7 (Value.slice Ap np cp) (Value.string nm) (Value.string sup) (Value.bool inf) (Value.slice Ai ni ci) (Value.slice Af nf cf) (Value.slice Am nM cm)).cell 0
          have e1 : (sets7 w2 w.heap.size (Value.slice Ap np cp) (Value.string nm) (Value.string sup) (Value.bool inf) (Value.slice Ai ni ci) (Value.slice Af nf cf) (Value.slice Am nM cm)).cell? ⟨w.heap.size, 1, none⟩ = some (Value.string nm) := (R3.out.sets7 (Value.slice Ap np cp) (Value.string nm) (Value.string sup) (Value.bool inf) (Value.slice Ai ni ci) (Value.slice Af nf cf) (Value.slice Am nM cm)).cell 1
          have e2 : (sets7 w2 w.heap.size (Value.slice Ap np cp) (Value.string nm) (Value.string sup) (Value.bool inf) (Value.slice Ai ni ci) (Value.slice Af nf cf) (Value.slice Am nM cm)).cell? ⟨w.heap.size, 2, none⟩ = some (Value.string sup) := (R3.out.sets7 (Value.slice Ap np cp) (Value.string nm) (Value.string sup) (Value.bool inf) (Value.slice Ai ni ci) (Value.slice Af nf cf) (Value.slice Am nM cm)).cell 2
          have e3 : (sets7 w2 w.heap.size (Value.slice Ap np cp) (Value.string nm) (Value.string sup) (Value.bool inf) (Value.slice Ai ni ci) (Value.slice Af nf cf) (Value.slice Am nM cm)).cell? ⟨w.heap.size, 3, none⟩ = some (Value.bool inf) := (R3.out.sets7 (Value.slice Ap np cp) (Value.string nm) (Value.string sup) (Value.bool inf) (Value.slice Ai ni ci) (Value.slice Af nf cf) (Value.slice Am nM cm)).cell 3
          have e4 : (sets7 w2 w.heap.size (Value.slice Ap np cp) (Value.string nm) (Value.string sup) (Value.bool inf) (Value.slice Ai ni ci) (Value.slice Af nf cf) (Value.slice Am nM cm)).cell? ⟨w.heap.size, 4, none⟩ = some (Value.slice Ai ni ci) := (R3.out.sets7 (Value.slice Ap np cp) (Value.string nm) (Value.string sup) (Value.bool inf) (Value.slice Ai ni ci) (Value.slice Af nf cf) (Value.slice Am nM cm)).cell 4
          have e5 : (sets7 w2 w.heap.size (Value.slice Ap np cp) (Value.string nm) (Value.string sup) (Value.bool inf) (Value.slice Ai ni ci) (Value.slice Af nf cf) (Value.slice Am nM cm)).cell? ⟨w.heap.size, 5, none⟩ = some (Value.slice Af nf cf) := (R3.out.sets7 (Value.slice Ap np cp) (Value.string nm) (Value.string sup) (Value.bool inf) (Value.slice Ai ni ci) (Value.slice Af nf cf) (Value.slice Am nM cm)).cell 5
          have e6 : (sets7 w2 w.heap.size (Value.slice Ap np cp) (Value.string nm) (Value.string sup) (Value.bool inf) (Value.slice Ai ni ci) (Value.slice Af nf cf) (Value.slice Am nM cm)).cell? ⟨w.heap.size, 6, none⟩ = some (Value.slice Am nM cm) := (R3.out.sets7 (Value.slice Ap np cp) (Value.string nm) (Value.string sup) (Value.bool inf) (Value.slice Ai ni ci) (Value.slice Af nf cf) (Value.slice Am nM cm)).cell 6
          refine bodyPost_ret (v := .tuple #[.agg #[Value.slice Ap np cp, Value.string nm, Value.string sup, Value.bool inf, Value.slice Ai ni ci, Value.slice Af nf cf, Value.slice Am nM cm], .int .i64 0]) (by change (results _ _).run _ (sets7 w2 w.heap.size (Value.slice Ap np cp) (Value.string nm) (Value.string sup) (Value.bool inf) (Value.slice Ai ni ci) (Value.slice Af nf cf) (Value.slice Am nM cm)) = _; simp [results, Tryz.results21, go_sem, e0, e1, e2, e3, e4, e5, e6]; rfl) rfl ?_
          rw [HE.out]
          exact Ret.mk ⟨_, _, _, _, rfl, (O3.out.keptU (sets7_grown w2 w.heap.size _ _ _ _ _ _ _) (by omega)).base (by omega)⟩ (sets7_ext X2.out _ _ _ _ _ _ _)
end Go.Proofs.YtokmeomjdpfknaaGreatDoor
