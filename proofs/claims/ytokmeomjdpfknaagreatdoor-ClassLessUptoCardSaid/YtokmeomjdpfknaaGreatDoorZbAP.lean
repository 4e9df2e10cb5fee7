/- Several texts of this proof, one behind the other. -/
import Derived.Test.YtokmeomjdpfknaaGreatDoorZbAO
import Derived.Test.YtokmeomjdpfknaaGreatDoorZbAL
import Derived.Test.YtokmeomjdpfknaaGreatDoorZbAI
import Derived.Test.YtokmeomjdpfknaaGreatDoorZbAH
import Derived.Test.YtokmeomjdpfknaaGreatDoorZbY
namespace Go.Proofs.YtokmeomjdpfknaaGreatDoor
open Go.RowKit
set_option linter.unusedVariables false

theorem okT_room {t : TyD} (h : okT t = true) : TyOk (tyO t) := by
  have h1 := okT_name h
  refine ⟨?_, by show (bs t.s).size ≤ _; rw [show (bs t.s).size = t.s.length from rfl]; omega⟩
  show I64 t.k
  unfold okT at h
  unfold I64
  split at h <;> rename_i h2
  · omega
  · split at h <;> rename_i h3
    · omega
    · cases h
theorem t0_room : TyOk (tyO t0D) := ⟨⟨by decide, by decide⟩, by decide⟩
theorem typeZ_room (l : List UInt8) : TyOk (tyO (typeZ l).1) := by
  rcases typeZ_err l with h | h
  · exact okT_room (type_back h).1
  · rw [h]; exact t0_room
theorem protoZ_room (l : List UInt8) : TyOk (tyO (protoZ l).1.ret) ∧ ∀ t ∈ (protoZ l).1.args.map tyO, TyOk t := by
  rcases protoZ_err l with h | h
  · obtain ⟨h1, h2, h3⟩ := checkP_parts (proto_back h).1
    refine ⟨?_, fun t ht => ?_⟩
    · rcases h2 with h2 | h2
      · rw [h2]; exact t0_room
      · exact okT_room h2
    · obtain ⟨y, hy, rfl⟩ := List.mem_map.1 ht
      exact okT_room (h3 y hy)
  · rw [h]
    exact ⟨t0_room, fun t ht => by simp at ht⟩
theorem gIt_inv {α : Type} {one : RSt → α × RSt} {I : RSt → Prop} {Q : α → Prop} (hft : ∀ s, I s → I (one s).2 ∧ Q (one s).1) : ∀ (n : Nat) (acc : List α) (s : RSt), I s → (∀ x ∈ acc, Q x) → I (gIt one n acc s).2 ∧ ∀ x ∈ (gIt one n acc s).1, Q x := by
  intro n
  induction n with
  | zero => intro acc s hf h; exact ⟨hf, h⟩
  | succ n ih =>
    intro acc s hf h
    unfold gIt
    split
    · exact ⟨hf, h⟩
    · obtain ⟨h1, h2⟩ := hft s hf
      refine ih _ _ h1 fun x hx => ?_
      rcases List.mem_append.1 hx with hx | hx
      · exact h x hx
      · rw [List.mem_singleton.1 hx]; exact h2
def In16 (s : RSt) : Prop := Fit .u8 s.1 ∧ s.1.length ≤ 65535
theorem in_U {s : RSt} (h : In16 s) : In16 (gU s).2 := ⟨gU_fit h.1, Nat.le_trans (gU_le s) h.2⟩
theorem in_B {n : Int} {s : RSt} (h : In16 s) : In16 (gB n s).2 := ⟨(gB_fit h.1).2, Nat.le_trans (gB_le n s).1 h.2⟩
theorem in_Tx {s : RSt} (h : In16 s) : In16 (gTx s).2 := in_B (in_U h)
theorem in_Up {k : Int} {s : RSt} (h : In16 s) : In16 (gUp k s).2 := ⟨gUp_fit h.1, Nat.le_trans (gUp_len k s) h.2⟩
theorem in_Ty {s : RSt} (h : In16 s) : In16 (gTy s).2 := ⟨(in_Tx h).1, (in_Tx h).2⟩
theorem in_Pr {s : RSt} (h : In16 s) : In16 (gPr s).2 := ⟨(in_Tx h).1, (in_Tx h).2⟩
theorem in_Hd {s : RSt} (h : In16 s) : In16 (gHd s).2 := in_U (in_U (in_U (in_U h)))
theorem in_Fd {s : RSt} (h : In16 s) : In16 (gFd s).2 := in_Ty (in_Tx (in_Up h))
theorem in_Ls {α : Type} {k : Int} {one : RSt → α × RSt} {Q : α → Prop} (hft : ∀ s, In16 s → In16 (one s).2 ∧ Q (one s).1) {s : RSt} (h : In16 s) : In16 (gLs k one s).2 ∧ ∀ x ∈ (gLs k one s).1, Q x :=
  gIt_inv hft _ _ _ (in_Up h) (fun _ h => by cases h)
theorem tx_room {s : RSt} (h : In16 s) : (gTx s).1.size ≤ 65535 := Nat.le_trans (gTx_le s).2 h.2
theorem gMe_in {s : RSt} (h : In16 s) : In16 (gMe s).2 ∧ MeRoom (gMe s).1 := by
  have h1 := in_Up (k := 2) h
  have h2 := in_Tx h1
  have h3 := in_Pr h2
  have r1 := tx_room h1
  obtain ⟨r2, r3⟩ := protoZ_room (gTx (gTx (gUp 2 s).2).2).1.data.toList
  unfold gMe
  simp only
  split
  · exact ⟨h3, ⟨by simp only; omega, r2, r3, by simp⟩⟩
  · have h4 := in_U h3
    have h5 := in_U h4
    have h6 := in_U h5
    have h7 := in_B (n := (gU (gU (gU (gPr (gTx (gUp 2 s).2).2).2).2).2).1) h6
    have h8 := (gB_le (gU (gU (gU (gPr (gTx (gUp 2 s).2).2).2).2).2).1 (gU (gU (gU (gPr (gTx (gUp 2 s).2).2).2).2).2).2).2
    have h9 := h6.2
    refine ⟨(in_Ls (Q := fun _ => True) (fun s h => ⟨in_Hd h, trivial⟩) h7).1, ⟨by show (gTx (gUp 2 s).2).1.size ≤ _; omega, r2, r3, ?_⟩⟩
    show (gB (gU (gU (gU (gPr (gTx (gUp 2 s).2).2).2).2).2).1 (gU (gU (gU (gPr (gTx (gUp 2 s).2).2).2).2).2).2).1.length ≤ _
    omega
theorem gCl_room {b : List Int} (hf : Fit .u8 b) (hl : b.length ≤ 65535) : ClRoom (gCl b).1 := by
  have i0 : In16 (gHead b) := ⟨gHead_fit hf, Nat.le_trans (gB_le 3 (b, false)).1 hl⟩
  have i1 : In16 (gPool (gHead b)).2 := ⟨gPool_fit i0.1, by
    have h := i0.2
    unfold gPool
    split
    · simp only
      split
      · exact h
      · simp only [List.length_drop]
        omega
    · exact h⟩
  have i2 := in_Up (k := 1) i1
  have i3 := in_Tx i2
  have i4 := in_Tx i3
  have i5 := in_Ls (k := 64) (one := gTx) (Q := fun s => s.size ≤ 65535) (fun s h => ⟨in_Tx h, tx_room h⟩) i4
  have i6 := in_Ls (k := 256) (one := gFd) (Q := fun f => f.nm.size ≤ 65535 ∧ TyOk f.ty) (fun s h => ⟨in_Fd h, tx_room (in_Up h), typeZ_room _⟩) i5.1
  have i7 := in_Ls (k := 256) (one := gMe) (Q := MeRoom) (fun s h => gMe_in h) i6.1
  have t1 := tx_room i2
  have t2 := tx_room i3
  refine ⟨?_, ?_, ?_, ?_, ?_, ?_⟩
  · intro x hx
    have hx : x ∈ (gPool (gHead b)).1 := hx
    unfold gPool at hx
    split at hx
    · obtain ⟨p1, p2⟩ := (many_all i0.1).1 x hx
      have := p2.1
      have := i0.2
      exact ⟨p1, by omega⟩
    · cases hx
  · show (gTx (gUp 1 (gPool (gHead b)).2).2).1.size ≤ _
    omega
  · show (gTx (gTx (gUp 1 (gPool (gHead b)).2).2).2).1.size ≤ _
    omega
  · intro s hs
    have := i5.2 s hs
    omega
  · intro f hf
    have := i6.2 f hf
    exact ⟨by omega, this.2⟩
  · exact i7.2
def PAns (B : Nat) (r : Cl × Int) (u : Value) (w' : World) : Prop := ∃ vp vi vf vm, u = .tuple #[.agg (r.1.vals vp vi vf vm), .int .i64 r.2] ∧ ClOwn B w' r.1 vp vi vf vm
theorem clOwn_zero (B : Nat) (w : World) : ClOwn B w cl0 (.slice none 0 0) (.slice none 0 0) (.slice none 0 0) (.slice none 0 0) := ⟨Shp.Own.nil _ _ _, Shp.Own.nil _ _ _, Shp.Own.nil _ _ _, OwnM.nil _ _⟩
theorem BK.sets7 {W : World} {r : Nat} {T : TypeId} {z0 z1 z2 z3 z4 z5 z6 : Value} (h : BK W r #[z0, z1, z2, z3, z4, z5, z6] T) (a0 a1 a2 a3 a4 a5 a6 : Value) : BK (sets7 W r a0 a1 a2 a3 a4 a5 a6) r #[a0, a1, a2, a3, a4, a5, a6] T := by
  have h0 : BK _ r #[a0, z1, z2, z3, z4, z5, z6] T := h.put 0 a0
  have h1 : BK _ r #[a0, a1, z2, z3, z4, z5, z6] T := h0.put 1 a1
  have h2 : BK _ r #[a0, a1, a2, z3, z4, z5, z6] T := h1.put 2 a2
  have h3 : BK _ r #[a0, a1, a2, a3, z4, z5, z6] T := h2.put 3 a3
  have h4 : BK _ r #[a0, a1, a2, a3, a4, z5, z6] T := h3.put 4 a4
  have h5 : BK _ r #[a0, a1, a2, a3, a4, a5, z6] T := h4.put 5 a5
  exact h5.put 6 a6
theorem sets7_ext {w W : World} (h : Ext w W) (a0 a1 a2 a3 a4 a5 a6 : Value) : Ext w (sets7 W w.heap.size a0 a1 a2 a3 a4 a5 a6) :=
  h.grown (sets7_grown W w.heap.size a0 a1 a2 a3 a4 a5 a6) (fun k hk => by injection hk with hk; omega)
set_option maxRecDepth 100000 in
set_option maxHeartbeats 2000000 in
theorem classParse_any (v : Value) (b : List Int) (w : World) (h : Row w .u8 v b) (hT : Tabs w) (hM : Most w) :
    Calls Tryz.prog 21 #[v] w (Ret w (PAns w.heap.size (parseK b))) := by
  have H := Lib.hid h
  have hfit := h.fit
  obtain ⟨A, c, rfl, hcl, hcm, -⟩ := id h
  unfold maxLen at hcm
  obtain ⟨G, hG⟩ : ∃ G, parseK b = G := ⟨_, rfl⟩
  have HG := Lib.hid hG
  rw [hG]
  by_cases hbig : 65535 < b.length
  · have HE := Lib.hid (show G = (cl0, 5) by rw [← hG]; unfold parseK; rw [if_pos hbig])
    clear hG h hfit hT hM
    go_enter Tryz.func21, Tryz.ntmps21
    go_wp2
    refine bodyPost_ret (v := .tuple #[.agg #[.slice none 0 0, .string ⟨#[]⟩, .string ⟨#[]⟩, .bool false, .slice none 0 0, .slice none 0 0, .slice none 0 0], .int .i64 5]) (by simp [results, Tryz.results21, go_sem]; try first | exact ⟨rfl, rfl⟩ | rfl) rfl ?_
    rw [HE.out]
    exact Ret.mk ⟨_, _, _, _, rfl, clOwn_zero _ _⟩ ((Ext.refl w).alloc _)
  · have hlb : b.length ≤ 65535 := by omega
    have HGP := Lib.hid (show G = if (gCl b).2.2 = true ∨ 0 < (gCl b).2.1.length then (cl0, 80) else if okCl (gCl b).1 = true then ((gCl b).1, 0) else (cl0, 80) by rw [← hG]; unfold parseK; rw [if_neg hbig])
    have hroom := gCl_room hfit hlb
    have hrk : RK w ((w.alloc (.cells #[.slice none 0 0, .string ⟨#[]⟩, .string ⟨#[]⟩, .bool false, .slice none 0 0, .slice none 0 0, .slice none 0 0] 27)).alloc (.cells #[.slice A b.length c, .bool false] 82)) (w.heap.size + 1) (b, false) :=
      ⟨_, (by have := BK.new (w.alloc (.cells #[.slice none 0 0, .string ⟨#[]⟩, .string ⟨#[]⟩, .bool false, .slice none 0 0, .slice none 0 0, .slice none 0 0] 27)) #[.slice A b.length c, .bool false] 82; simpa [BK] using this), h, ((Ext.refl w).alloc _).alloc _, by omega⟩
    have HR := Lib.hid (rclass_any w _ (w.heap.size + 1) b hrk hT hM (by omega))
    have HK := Lib.hid (fun W vp vi vf vm (e : Ext w W) (ha : ClAt W (gCl b).1 vp vi vf vm) => classCheck_any (gCl b).1 vp vi vf vm W ha hroom (hT.ext e) (hM.ext e))
    obtain ⟨X, hX⟩ : ∃ X, gCl b = X := ⟨_, rfl⟩
    rw [hX] at HGP HR HK
    obtain ⟨cc, lb, wb⟩ := X
    simp only at HGP HR HK
    clear hG h hfit hT hM hX hroom hrk HG
    go_enter Tryz.func21, Tryz.ntmps21
    go_wp2_with fail
    refine HR.out.mono ?_
    rintro x w1 ⟨vp, vi, vf, vm, ⟨rfl, h1, g1⟩, ho⟩
    have R1 := ((BK.new w #[.slice none 0 0, .string ⟨#[]⟩, .string ⟨#[]⟩, .bool false, .slice none 0 0, .slice none 0 0, .slice none 0 0] 27).ext ((Ext.refl _).alloc (.cells #[.slice A b.length c, .bool false] 82))).kept g1 (by omega)
    have hs1 : w.heap.size + 2 ≤ w1.heap.size := by have := g1.size; simpa using this
    obtain ⟨pool, inf, nm, sup, ifs, fds, mts⟩ := cc
    unfold Cl.vals at HK
    simp only at HK
    obtain ⟨Ap, cp, rfl, -⟩ := (show ShC.Own _ w1 vp pool from ho.1).slice
    obtain ⟨Ai, ci, rfl, -⟩ := (show ShS.Own _ w1 vi ifs from ho.2.1).slice
    obtain ⟨Af, cf, rfl, -⟩ := (show ShF.Own _ w1 vf fds from ho.2.2.1).slice
    obtain ⟨Am, cm, rfl, -⟩ := (show OwnM _ w1 vm mts from ho.2.2.2).slice
    obtain ⟨A2, c2, -, -, -, d0, d1, e0, e1⟩ := h1.cells
    simp only at d0 d1
    have X1 := Lib.hid h1.ext0
    have O1 := Lib.hid (ho.base (B' := w.heap.size + 2) (by simp))
    have R2 := Lib.hid R1
    have lg := h1.lt
    have ng : ¬ w.heap.size + 1 = w1.heap.size := by omega
    have nr : ¬ w.heap.size = w1.heap.size := by omega
    unfold Cl.vals
    simp only
    obtain ⟨np, hnp⟩ : ∃ n, pool.length = n := ⟨_, rfl⟩
    obtain ⟨ni, hni⟩ : ∃ n, ifs.length = n := ⟨_, rfl⟩
    obtain ⟨nf, hnf⟩ : ∃ n, fds.length = n := ⟨_, rfl⟩
    obtain ⟨nM, hnm⟩ : ∃ n, mts.length = n := ⟨_, rfl⟩
    rw [hnp, hni, hnf, hnm] at O1 ⊢
    have lR := R1.lt
    clear h1 g1 ho R1 e0 e1 hnp hni hnf hnm
    have KK := Lib.hid (HK.out _ _ _ _ _ (X1.out.alloc (.cells #[Value.slice Ap np cp, Value.string nm, Value.string sup, Value.bool inf, Value.slice Ai ni ci, Value.slice Af nf cf, Value.slice Am nM cm] 27)) (O1.out.ext ((Ext.refl w1).alloc (.cells #[Value.slice Ap np cp, Value.string nm, Value.string sup, Value.bool inf, Value.slice Ai ni ci, Value.slice Af nf cf, Value.slice Am nM cm] 27))).at)
    cases wb
    case true =>
      have HE := Lib.hid (show G = (cl0, 80) by rw [HGP.out]; rw [if_pos (.inl rfl)])
      obtain ⟨z0, z1, z2, z3, z4, z5, z6⟩ := cells7 R2.out
      have g0 := R2.out.free 0
      have g1 := R2.out.free 1
      have g2 := R2.out.free 2
      have g3 := R2.out.free 3
      have g4 := R2.out.free 4
      have g5 := R2.out.free 5
      have g6 := R2.out.free 6
      go_wp2
      obtain ⟨e0, e1, e2, e3, e4, e5, e6⟩ := cells7 ((R2.out.sets7 (Value.slice none 0 0) (Value.string ⟨#[]⟩) (Value.string ⟨#[]⟩) (Value.bool false) (Value.slice none 0 0) (Value.slice none 0 0) (Value.slice none 0 0)).ext ((Ext.refl _).alloc (.cells #[Value.slice Ap np cp, Value.string nm, Value.string sup, Value.bool inf, Value.slice Ai ni ci, Value.slice Af nf cf, Value.slice Am nM cm] 27)))
      refine bodyPost_ret (v := .tuple #[.agg #[.slice none 0 0, .string ⟨#[]⟩, .string ⟨#[]⟩, .bool false, .slice none 0 0, .slice none 0 0, .slice none 0 0], .int .i64 80]) (by change (results _ _).run _ ((sets7 w1 w.heap.size (Value.slice none 0 0) (Value.string ⟨#[]⟩) (Value.string ⟨#[]⟩) (Value.bool false) (Value.slice none 0 0) (Value.slice none 0 0) (Value.slice none 0 0)).alloc (.cells #[Value.slice Ap np cp, Value.string nm, Value.string sup, Value.bool inf, Value.slice Ai ni ci, Value.slice Af nf cf, Value.slice Am nM cm] 27)) = _; simp [results, Tryz.results21, go_sem, e0, e1, e2, e3, e4, e5, e6]; rfl) rfl ?_
      rw [HE.out]
      exact Ret.mk ⟨_, _, _, _, rfl, clOwn_zero _ _⟩ ((sets7_ext X1.out _ _ _ _ _ _ _).alloc _)
    case false =>
      by_cases hrest : 0 < lb.length
      · have HE := Lib.hid (show G = (cl0, 80) by rw [HGP.out]; rw [if_pos (.inr hrest)])
        obtain ⟨z0, z1, z2, z3, z4, z5, z6⟩ := cells7 R2.out
        have g0 := R2.out.free 0
        have g1 := R2.out.free 1
        have g2 := R2.out.free 2
        have g3 := R2.out.free 3
        have g4 := R2.out.free 4
        have g5 := R2.out.free 5
        have g6 := R2.out.free 6
        go_wp2
        obtain ⟨e0, e1, e2, e3, e4, e5, e6⟩ := cells7 ((R2.out.sets7 (Value.slice none 0 0) (Value.string ⟨#[]⟩) (Value.string ⟨#[]⟩) (Value.bool false) (Value.slice none 0 0) (Value.slice none 0 0) (Value.slice none 0 0)).ext ((Ext.refl _).alloc (.cells #[Value.slice Ap np cp, Value.string nm, Value.string sup, Value.bool inf, Value.slice Ai ni ci, Value.slice Af nf cf, Value.slice Am nM cm] 27)))
        refine bodyPost_ret (v := .tuple #[.agg #[.slice none 0 0, .string ⟨#[]⟩, .string ⟨#[]⟩, .bool false, .slice none 0 0, .slice none 0 0, .slice none 0 0], .int .i64 80]) (by change (results _ _).run _ ((sets7 w1 w.heap.size (Value.slice none 0 0) (Value.string ⟨#[]⟩) (Value.string ⟨#[]⟩) (Value.bool false) (Value.slice none 0 0) (Value.slice none 0 0) (Value.slice none 0 0)).alloc (.cells #[Value.slice Ap np cp, Value.string nm, Value.string sup, Value.bool inf, Value.slice Ai ni ci, Value.slice Af nf cf, Value.slice Am nM cm] 27)) = _; simp [results, Tryz.results21, go_sem, e0, e1, e2, e3, e4, e5, e6]; rfl) rfl ?_
        rw [HE.out]
        exact Ret.mk ⟨_, _, _, _, rfl, clOwn_zero _ _⟩ ((sets7_ext X1.out _ _ _ _ _ _ _).alloc _)
      · have HE2 := Lib.hid (show G = if okCl ⟨pool, inf, nm, sup, ifs, fds, mts⟩ = true then (⟨pool, inf, nm, sup, ifs, fds, mts⟩, 0) else (cl0, 80) by rw [HGP.out]; rw [if_neg (fun h => h.elim (fun h => by cases h) hrest)])
        unfold chkK at KK
        obtain ⟨Z, hZ⟩ : ∃ Z, okCl ⟨pool, inf, nm, sup, ifs, fds, mts⟩ = Z := ⟨_, rfl⟩
        rw [hZ] at KK HE2
        have hrest0 : lb.length = 0 := by omega
        rw [hrest0] at d0
        clear hZ hrest hrest0
        go_wp2_with fail
        refine KK.out.mono ?_
        rintro x w2 ⟨rfl, x2⟩
        have X2 := Lib.hid ((X1.out.alloc (.cells #[Value.slice Ap np cp, Value.string nm, Value.string sup, Value.bool inf, Value.slice Ai ni ci, Value.slice Af nf cf, Value.slice Am nM cm] 27)).trans x2)
        have R3 := Lib.hid ((R2.out.ext ((Ext.refl w1).alloc (.cells #[Value.slice Ap np cp, Value.string nm, Value.string sup, Value.bool inf, Value.slice Ai ni ci, Value.slice Af nf cf, Value.slice Am nM cm] 27))).ext x2)
        have B3 := Lib.hid ((BK.new w1 #[Value.slice Ap np cp, Value.string nm, Value.string sup, Value.bool inf, Value.slice Ai ni ci, Value.slice Af nf cf, Value.slice Am nM cm] 27).ext x2)
        have O3 := Lib.hid ((O1.out.ext ((Ext.refl w1).alloc (.cells #[Value.slice Ap np cp, Value.string nm, Value.string sup, Value.bool inf, Value.slice Ai ni ci, Value.slice Af nf cf, Value.slice Am nM cm] 27))).ext x2)
        have l2 := B3.out.lt
        clear x2 d0 d1
        cases Z
        case false =>
          have HE := Lib.hid (show G = (cl0, 80) from HE2.out.trans (if_neg (by decide)))
          obtain ⟨z0, z1, z2, z3, z4, z5, z6⟩ := cells7 R3.out
          have g0 := R3.out.free 0
          have g1 := R3.out.free 1
          have g2 := R3.out.free 2
          have g3 := R3.out.free 3
          have g4 := R3.out.free 4
          have g5 := R3.out.free 5
          have g6 := R3.out.free 6
          go_wp2
          obtain ⟨e0, e1, e2, e3, e4, e5, e6⟩ := cells7 (R3.out.sets7 (Value.slice none 0 0) (Value.string ⟨#[]⟩) (Value.string ⟨#[]⟩) (Value.bool false) (Value.slice none 0 0) (Value.slice none 0 0) (Value.slice none 0 0))
          refine bodyPost_ret (v := .tuple #[.agg #[.slice none 0 0, .string ⟨#[]⟩, .string ⟨#[]⟩, .bool false, .slice none 0 0, .slice none 0 0, .slice none 0 0], .int .i64 80]) (by change (results _ _).run _ (sets7 w2 w.heap.size (Value.slice none 0 0) (Value.string ⟨#[]⟩) (Value.string ⟨#[]⟩) (Value.bool false) (Value.slice none 0 0) (Value.slice none 0 0) (Value.slice none 0 0)) = _; simp [results, Tryz.results21, go_sem, e0, e1, e2, e3, e4, e5, e6]; rfl) rfl ?_
          rw [HE.out]
          exact Ret.mk ⟨_, _, _, _, rfl, clOwn_zero _ _⟩ (sets7_ext X2.out _ _ _ _ _ _ _)
        case true =>
          have HE := Lib.hid (HE2.out.trans (if_pos rfl))
          obtain ⟨z0, z1, z2, z3, z4, z5, z6⟩ := cells7 R3.out
          have g0 := R3.out.free 0
          have g1 := R3.out.free 1
          have g2 := R3.out.free 2
          have g3 := R3.out.free 3
          have g4 := R3.out.free 4
          have g5 := R3.out.free 5
          have g6 := R3.out.free 6
          obtain ⟨y0, y1, y2, y3, y4, y5, y6⟩ := cells7 B3.out
          go_wp2
          obtain ⟨e0, e1, e2, e3, e4, e5, e6⟩ := cells7 (R3.out.sets7 (Value.slice Ap np cp) (Value.string nm) (Value.string sup) (Value.bool inf) (Value.slice Ai ni ci) (Value.slice Af nf cf) (Value.slice Am nM cm))
          refine bodyPost_ret (v := .tuple #[.agg #[Value.slice Ap np cp, Value.string nm, Value.string sup, Value.bool inf, Value.slice Ai ni ci, Value.slice Af nf cf, Value.slice Am nM cm], .int .i64 0]) (by change (results _ _).run _ (sets7 w2 w.heap.size (Value.slice Ap np cp) (Value.string nm) (Value.string sup) (Value.bool inf) (Value.slice Ai ni ci) (Value.slice Af nf cf) (Value.slice Am nM cm)) = _; simp [results, Tryz.results21, go_sem, e0, e1, e2, e3, e4, e5, e6]; rfl) rfl ?_
          rw [HE.out]
          exact Ret.mk ⟨_, _, _, _, rfl, (O3.out.keptU (sets7_grown w2 w.heap.size _ _ _ _ _ _ _) (by omega)).base (by omega)⟩ (sets7_ext X2.out _ _ _ _ _ _ _)
end Go.Proofs.YtokmeomjdpfknaaGreatDoor
namespace Go.Proofs.YtokmeomjdpfknaaGreatDoor
open Go.RowKit
set_option linter.unusedVariables false

theorem bytesZ_le_clZ (c : Cl) : (bytesZ c.pool).length ≤ (clZ c).length := by unfold clZ; simp only [List.length_append]; omega
theorem bytesK_ok {c : Cl} (h : okCl c = true) (hl : (clZ c).length ≤ 65535) : bytesK c = (clZ c, 0) := by
  unfold bytesK
  rw [if_pos h, if_neg (by omega)]
theorem chkK_ok {c : Cl} (h : okCl c = true) : chkK c = 0 := by
  unfold chkK
  rw [if_pos h]
theorem chkK_no {c : Cl} (h : ¬ okCl c = true) : chkK c = 80 := by
  unfold chkK
  rw [if_neg h]
def cst0 : Cst := ⟨0, .empty, 0, 0, 0, 0⟩
def M1 : Me := ⟨false, true, ⟨#[109]⟩, t0, [], 0, 0, [], []⟩
def F1 : Fd := ⟨true, ⟨#[120]⟩, ⟨1, .empty⟩⟩
def C1 : Cl := ⟨[cst0], false, ⟨#[97]⟩, .empty, [], [], []⟩
def C2 : Cl := ⟨[cst0], true, ⟨#[97]⟩, ⟨#[98]⟩, [], [F1], [M1]⟩
def B1 : List Int := [87, 66, 1, 1, 0, 1, 97, 0, 0, 0, 0]
def B2 : List Int := [87, 66, 1, 1, 1, 1, 97, 1, 98, 0, 1, 1, 1, 120, 1, 73, 1, 2, 1, 109, 3, 40, 41, 86]
theorem okC1 : okCl C1 = true := by
  unfold okCl
  rw [checkC_eq]
  decide +kernel
theorem okC2 : okCl C2 = true := by
  unfold okCl
  rw [checkC_eq]
  decide +kernel
theorem clB1 : clZ C1 = B1 := by decide +kernel
theorem clB2 : clZ C2 = B2 := by decide +kernel
theorem ok_zero : ∀ x ∈ [cst0], x.ok ∧ x.t.size ≤ 140737488351232 := fun x hx => by
  rw [List.mem_singleton.1 hx]
  exact ⟨⟨⟨by decide, by decide⟩, ⟨by decide, by decide⟩, ⟨by decide, by decide⟩, ⟨by decide, by decide⟩, ⟨by decide, by decide⟩⟩, by decide⟩
theorem roomC1 : ClRoom C1 := ⟨ok_zero, by decide, by decide, (fun _ h => by cases h), (fun _ h => by cases h), (fun _ h => by cases h)⟩
theorem roomC2 : ClRoom C2 := ⟨ok_zero, by decide, by decide, (fun _ h => by cases h), (fun f hf => by
  rw [List.mem_singleton.1 hf]
  exact ⟨by decide, ⟨by decide, by decide⟩, by decide⟩), fun m hm => by
  rw [List.mem_singleton.1 hm]
  exact ⟨by decide, ⟨⟨by decide, by decide⟩, by decide⟩, (fun _ h => by cases h), by decide⟩⟩
theorem told_zero : Told [cst0] := (show Texts [cst0] from fun x hx => (ok_zero x hx).2).told fun x hx => (ok_zero x hx).1
theorem goodC1 : Good C1 := ⟨told_zero, fun _ h => by cases h⟩
theorem goodC2 : Good C2 := ⟨told_zero, fun m hm => by
  rw [List.mem_singleton.1 hm]
  exact Fit.nil _⟩
theorem eqBytes_ext (v1 v2 : Value) (l1 l2 : List Int) (w : World) (h1 : Row w .u8 v1 l1) (h2 : Row w .u8 v2 l2) :
    Calls Tryz.prog 16 #[v1, v2] w fun e w' => e = .returned (.bool (decide (l1 = l2))) ∧ Ext w w' :=
  (eqBytes_any v1 v2 l1 l2 w h1 h2).mono fun e w' ⟨h, m, hm⟩ => by
    subst hm
    exact ⟨h, (Ext.refl w).drewN m⟩
-- walks
set_option maxRecDepth 100000 in
set_option maxHeartbeats 16000000 in
theorem isCl_yes (c : Cl) (vp vi vf vm bv : Value) (b : List Int) (w : World) (hT : Tabs w) (hM : Most w) (h : ClAt w c vp vi vf vm) (hr : ClRoom c) (hg : Good c) (hb : Row w .u8 bv b) (ho : okCl c = true) (hz : clZ c = b) (hs : b.length ≤ 65535) :
    Calls Tryz.prog 44 #[.agg (c.vals vp vi vf vm), bv] w fun e w' => e = .returned (.bool true) ∧ Ext w w' := by
  have hzl := bytesZ_le_clZ c
  rw [hz] at hzl
  have hbk : bytesK c = (b, 0) := by rw [bytesK_ok ho (by rw [hz]; exact hs), hz]
  have hpk : parseK b = (c, 0) := by rw [← hz]; exact parseK_fwd ho hg (by rw [hz]; exact hs)
  have hB := fun W (e : Ext w W) => classBytes_any c vp vi vf vm W (h.ext e) hr hg (hT.ext e) (hM.ext e) (fun _ => by omega)
  have hP := fun W (e : Ext w W) => classParse_any bv b W (hb.ext e) (hT.ext e) (hM.ext e)
  simp only [hbk] at hB
  simp only [hpk] at hP
  have HS := Lib.hid (fun W vp' vi' vf' vm' (e : Ext w W) (h' : ClAt W c vp' vi' vf' vm') => refClassSame_any c c vp vi vf vm vp' vi' vf' vm' W (h.ext e) h' hr hr)
  have HB := Lib.hid hB
  have HP := Lib.hid hP
  have HR := Lib.hid hb
  simp only [decide_true] at HS
  clear hB hP hbk hpk hzl hz ho hg hr hs hT hM
  obtain ⟨Ap, Akp, rfl, -⟩ := h.1.cut
  obtain ⟨Ai, Aki, rfl, -⟩ := h.2.1.cut
  obtain ⟨Af, Akf, rfl, -⟩ := h.2.2.1.cut
  obtain ⟨Am, Akm, rfl, -⟩ := h.2.2.2.cut
  obtain ⟨Ab, kb, rfl, -⟩ := id hb
  have BX := Lib.hid (fun W (e : Ext (w.alloc (.cells (c.vals (.slice Ap c.pool.length Akp) (.slice Ai c.ifs.length Aki) (.slice Af c.fds.length Akf) (.slice Am c.mts.length Akm)) 27)) W) => (BK.new w (c.vals (.slice Ap c.pool.length Akp) (.slice Ai c.ifs.length Aki) (.slice Af c.fds.length Akf) (.slice Am c.mts.length Akm)) 27).ext e)
  have X0 := Lib.hid ((Ext.refl w).alloc (.cells (c.vals (.slice Ap c.pool.length Akp) (.slice Ai c.ifs.length Aki) (.slice Af c.fds.length Akf) (.slice Am c.mts.length Akm)) 27))
  clear h hb
  unfold Cl.vals at BX HS HB X0 ⊢
  go_enter Tryz.func44, Tryz.ntmps44
  go_wp2_with fail
  refine (HB.out _ X0.out).mono ?_
  rintro e w1 ⟨u, rfl, ⟨v1, rfl, ho1⟩, x1⟩
  have X1 := Lib.hid (X0.out.trans x1)
  have E1 := Lib.hid x1
  have HO1 := Lib.hid ho1
  obtain ⟨A1, k1, rfl, -⟩ := id ho1.row
  clear x1 ho1
  go_wp2_with fail
  refine (HP.out _ X1.out).mono ?_
  rintro e w2 ⟨u, rfl, ⟨vp', vi', vf', vm', rfl, ho2⟩, x2⟩
  have X2 := Lib.hid (X1.out.trans x2)
  have E2 := Lib.hid (E1.out.trans x2)
  have R1 := Lib.hid (HO1.out.row.ext x2)
  have h2 := ho2.at
  have H2 := Lib.hid h2
  obtain ⟨Dp', Dkp', rfl, -⟩ := h2.1.cut
  obtain ⟨Di', Dki', rfl, -⟩ := h2.2.1.cut
  obtain ⟨Df', Dkf', rfl, -⟩ := h2.2.2.1.cut
  obtain ⟨Dm', Dkm', rfl, -⟩ := h2.2.2.2.cut
  have BY := Lib.hid (fun W (e : Ext (w2.alloc (.cells (c.vals (.slice Dp' c.pool.length Dkp') (.slice Di' c.ifs.length Dki') (.slice Df' c.fds.length Dkf') (.slice Dm' c.mts.length Dkm')) 27)) W) => (BK.new w2 (c.vals (.slice Dp' c.pool.length Dkp') (.slice Di' c.ifs.length Dki') (.slice Df' c.fds.length Dkf') (.slice Dm' c.mts.length Dkm')) 27).ext e)
  have Y2 := Lib.hid ((Ext.refl w2).alloc (.cells (c.vals (.slice Dp' c.pool.length Dkp') (.slice Di' c.ifs.length Dki') (.slice Df' c.fds.length Dkf') (.slice Dm' c.mts.length Dkm')) 27))
  clear h2 ho2 x2
  unfold Cl.vals at BY Y2 ⊢
  go_wp2_with fail
  refine (eqBytes_ext _ _ b b _ (R1.out.ext Y2.out) (HR.out.ext (X2.out.trans Y2.out))).mono ?_
  rintro e w3 ⟨rfl, x3⟩
  have X3 := Lib.hid ((X2.out.trans Y2.out).trans x3)
  obtain ⟨q0, q1, q2, q3, q4, q5, q6⟩ := cells7 (BX.out w3 ((E2.out.trans Y2.out).trans x3))
  obtain ⟨r0, r1, r2, r3, r4, r5, r6⟩ := cells7 (BY.out w3 x3)
  have H3 := Lib.hid (H2.out.ext (Y2.out.trans x3))
  clear x3
  rw [decide_eq_true (rfl : b = b)]
  go_wp2_with fail
  refine (HS.out _ _ _ _ _ X3.out H3.out).mono ?_
  rintro e w4 ⟨rfl, x4⟩
  go_wp2
  go_ret
  exact ⟨rfl, X3.out.trans x4⟩
theorem Shp.Own.single {α : Type} {S : Shp α} {B g : Nat} {w : World} {x : α} (h : BK w g (S.vals x) S.T) (hB : B ≤ g) (hx : S.nestO B w x) : S.Own B w (.slice (some ⟨g, 0, none⟩) 1 1) [x] := by
  have hs := S.size x
  refine ⟨⟨by simp [hs], .inr ⟨g, 1, S.vals x, rfl, hB, h, Nat.le_refl _, by decide, by rw [Nat.one_mul]; exact hs, ?_⟩⟩, fun y hy => by rw [List.mem_singleton.1 hy]; exact hx⟩
  simp only [List.flatMap_cons, List.flatMap_nil, List.append_nil, List.length_singleton, Nat.one_mul]
  exact List.take_of_length_le (by rw [Array.length_toList]; omega)
theorem firstCl_any (w : World) : Calls Tryz.prog 27 #[] w fun e w' => ∃ g, e = .returned (.agg #[.slice (some ⟨g, 0, none⟩) 1 1, .string ⟨#[97]⟩, .string ⟨#[]⟩, .bool false, .slice none 0 0, .slice none 0 0, .slice none 0 0]) ∧ ShC.Own (w.heap.size + 1) w' (.slice (some ⟨g, 0, none⟩) 1 1) [cst0] ∧ Ext w w' := by
  go_enter Tryz.func27, Tryz.ntmps27
  go_wp2
  refine bodyPost_ret (v := .agg #[.slice (some ⟨w.heap.size + 1, 0, none⟩) 1 1, .string ⟨#[97]⟩, .string ⟨#[]⟩, .bool false, .slice none 0 0, .slice none 0 0, .slice none 0 0]) (by simp [results, Tryz.results27, go_sem]; try first | rfl | exact ⟨rfl, rfl⟩) rfl ?_
  refine ⟨_, rfl, ?_, ((Ext.refl w).alloc _).alloc _⟩
  have h := BK.new (w.alloc (.cells #[.slice (some ⟨w.heap.size + 1, 0, none⟩) 1 1, .string ⟨#[97]⟩, .string ⟨#[]⟩, .bool false, .slice none 0 0, .slice none 0 0, .slice none 0 0] 27)) cst0.vals 49
  rw [show (w.alloc (.cells #[.slice (some ⟨w.heap.size + 1, 0, none⟩) 1 1, .string ⟨#[97]⟩, .string ⟨#[]⟩, .bool false, .slice none 0 0, .slice none 0 0, .slice none 0 0] 27)).heap.size = w.heap.size + 1 by simp] at h
  exact Shp.Own.single (S := ShC) (x := cst0) h (Nat.le_refl _) trivial
set_option maxHeartbeats 4000000 in
theorem secondCl_any (w : World) : Calls Tryz.prog 24 #[] w fun e w' => ∃ g h k, e = .returned (.agg #[.slice (some ⟨g, 0, none⟩) 1 1, .string ⟨#[97]⟩, .string ⟨#[98]⟩, .bool true, .slice none 0 0, .slice (some ⟨h, 0, none⟩) 1 1, .slice (some ⟨k, 0, none⟩) 1 1]) ∧ ShC.Own (w.heap.size + 1) w' (.slice (some ⟨g, 0, none⟩) 1 1) [cst0] ∧ ShF.Own (w.heap.size + 1) w' (.slice (some ⟨h, 0, none⟩) 1 1) [F1] ∧ OwnM (w.heap.size + 1) w' (.slice (some ⟨k, 0, none⟩) 1 1) [M1] ∧ Ext w w' := by
  go_enter Tryz.func24, Tryz.ntmps24
  go_wp2_with fail
  refine (firstCl_any _).mono ?_
  rintro e w1 ⟨g, rfl, h1, x1⟩
  have H1 := Lib.hid h1
  have X1 := Lib.hid (((Ext.refl w).alloc (.cells #[.slice none 0 0, .string ⟨#[]⟩, .string ⟨#[]⟩, .bool false, .slice none 0 0, .slice none 0 0, .slice none 0 0] 27)).trans x1)
  have KZ := Lib.hid ((BK.new w #[.slice none 0 0, .string ⟨#[]⟩, .string ⟨#[]⟩, .bool false, .slice none 0 0, .slice none 0 0, .slice none 0 0] 27).ext x1)
  have nb := KZ.out.lt
  have XA := (((Ext.refl w1).alloc (.cells #[.slice (some ⟨g, 0, none⟩) 1 1, .string ⟨#[97]⟩, .string ⟨#[98]⟩, .bool true, .slice none 0 0, .slice (some ⟨w1.heap.size + 1, 0, none⟩) 1 1, .slice (some ⟨w1.heap.size + 1 + 1, 0, none⟩) 1 1] 27)).alloc (.cells #[.bool true, .string ⟨#[120]⟩, .int .i64 1, .string ⟨#[]⟩] 63)).alloc (.cells #[.bool false, .bool true, .string ⟨#[109]⟩, .int .i64 0, .string ⟨#[]⟩, .slice none 0 0, .int .i64 0, .int .i64 0, .slice none 0 0, .slice none 0 0] 47)
  have K3 := Lib.hid (KZ.out.ext XA)
  have O3 := Lib.hid (h1.ext XA)
  have B3 : Hid (BK (((w1.alloc (.cells #[.slice (some ⟨g, 0, none⟩) 1 1, .string ⟨#[97]⟩, .string ⟨#[98]⟩, .bool true, .slice none 0 0, .slice (some ⟨w1.heap.size + 1, 0, none⟩) 1 1, .slice (some ⟨w1.heap.size + 1 + 1, 0, none⟩) 1 1] 27)).alloc (.cells #[.bool true, .string ⟨#[120]⟩, .int .i64 1, .string ⟨#[]⟩] 63)).alloc (.cells #[.bool false, .bool true, .string ⟨#[109]⟩, .int .i64 0, .string ⟨#[]⟩, .slice none 0 0, .int .i64 0, .int .i64 0, .slice none 0 0, .slice none 0 0] 47)) (w1.heap.size + 1) #[.bool true, .string ⟨#[120]⟩, .int .i64 1, .string ⟨#[]⟩] 63) := Lib.hid ((show BK _ (w1.heap.size + 1) _ _ by have := BK.new (w1.alloc (.cells #[.slice (some ⟨g, 0, none⟩) 1 1, .string ⟨#[97]⟩, .string ⟨#[98]⟩, .bool true, .slice none 0 0, .slice (some ⟨w1.heap.size + 1, 0, none⟩) 1 1, .slice (some ⟨w1.heap.size + 1 + 1, 0, none⟩) 1 1] 27)) #[.bool true, .string ⟨#[120]⟩, .int .i64 1, .string ⟨#[]⟩] 63; simpa [BK] using this).ext ((Ext.refl _).alloc _))
  have C3 : Hid (BK (((w1.alloc (.cells #[.slice (some ⟨g, 0, none⟩) 1 1, .string ⟨#[97]⟩, .string ⟨#[98]⟩, .bool true, .slice none 0 0, .slice (some ⟨w1.heap.size + 1, 0, none⟩) 1 1, .slice (some ⟨w1.heap.size + 1 + 1, 0, none⟩) 1 1] 27)).alloc (.cells #[.bool true, .string ⟨#[120]⟩, .int .i64 1, .string ⟨#[]⟩] 63)).alloc (.cells #[.bool false, .bool true, .string ⟨#[109]⟩, .int .i64 0, .string ⟨#[]⟩, .slice none 0 0, .int .i64 0, .int .i64 0, .slice none 0 0, .slice none 0 0] 47)) (w1.heap.size + 1 + 1) #[.bool false, .bool true, .string ⟨#[109]⟩, .int .i64 0, .string ⟨#[]⟩, .slice none 0 0, .int .i64 0, .int .i64 0, .slice none 0 0, .slice none 0 0] 47) := Lib.hid (by have := BK.new ((w1.alloc (.cells #[.slice (some ⟨g, 0, none⟩) 1 1, .string ⟨#[97]⟩, .string ⟨#[98]⟩, .bool true, .slice none 0 0, .slice (some ⟨w1.heap.size + 1, 0, none⟩) 1 1, .slice (some ⟨w1.heap.size + 1 + 1, 0, none⟩) 1 1] 27)).alloc (.cells #[.bool true, .string ⟨#[120]⟩, .int .i64 1, .string ⟨#[]⟩] 63)) #[.bool false, .bool true, .string ⟨#[109]⟩, .int .i64 0, .string ⟨#[]⟩, .slice none 0 0, .int .i64 0, .int .i64 0, .slice none 0 0, .slice none 0 0] 47; simpa [BK] using this)
  have X3 := Lib.hid (((X1.out.alloc (.cells #[.slice (some ⟨g, 0, none⟩) 1 1, .string ⟨#[97]⟩, .string ⟨#[98]⟩, .bool true, .slice none 0 0, .slice (some ⟨w1.heap.size + 1, 0, none⟩) 1 1, .slice (some ⟨w1.heap.size + 1 + 1, 0, none⟩) 1 1] 27)).alloc (.cells #[.bool true, .string ⟨#[120]⟩, .int .i64 1, .string ⟨#[]⟩] 63)).alloc (.cells #[.bool false, .bool true, .string ⟨#[109]⟩, .int .i64 0, .string ⟨#[]⟩, .slice none 0 0, .int .i64 0, .int .i64 0, .slice none 0 0, .slice none 0 0] 47))
  obtain ⟨z0, z1, z2, z3, z4, z5, z6⟩ := cells7 K3.out
  have g0' := K3.out.free 0
  have g1' := K3.out.free 1
  have g2' := K3.out.free 2
  have g3' := K3.out.free 3
  have g4' := K3.out.free 4
  have g5' := K3.out.free 5
  have g6' := K3.out.free 6
  clear h1 x1 XA
  go_wp2
  obtain ⟨W3, hW3⟩ : ∃ W, (((w1.alloc (.cells #[.slice (some ⟨g, 0, none⟩) 1 1, .string ⟨#[97]⟩, .string ⟨#[98]⟩, .bool true, .slice none 0 0, .slice (some ⟨w1.heap.size + 1, 0, none⟩) 1 1, .slice (some ⟨w1.heap.size + 1 + 1, 0, none⟩) 1 1] 27)).alloc (.cells #[.bool true, .string ⟨#[120]⟩, .int .i64 1, .string ⟨#[]⟩] 63)).alloc (.cells #[.bool false, .bool true, .string ⟨#[109]⟩, .int .i64 0, .string ⟨#[]⟩, .slice none 0 0, .int .i64 0, .int .i64 0, .slice none 0 0, .slice none 0 0] 47)) = W := ⟨_, rfl⟩
  rw [hW3] at K3 O3 B3 C3 X3
  have KS := Lib.hid (show BK (sets7 W3 w.heap.size (.slice (some ⟨g, 0, none⟩) 1 1) (.string ⟨#[97]⟩) (.string ⟨#[98]⟩) (.bool true) (.slice none 0 0) (.slice (some ⟨w1.heap.size + 1, 0, none⟩) 1 1) (.slice (some ⟨w1.heap.size + 1 + 1, 0, none⟩) 1 1)) w.heap.size #[.slice (some ⟨g, 0, none⟩) 1 1, .string ⟨#[97]⟩, .string ⟨#[98]⟩, .bool true, .slice none 0 0, .slice (some ⟨w1.heap.size + 1, 0, none⟩) 1 1, .slice (some ⟨w1.heap.size + 1 + 1, 0, none⟩) 1 1] 27 from K3.out.sets7 (.slice (some ⟨g, 0, none⟩) 1 1) (.string ⟨#[97]⟩) (.string ⟨#[98]⟩) (.bool true) (.slice none 0 0) (.slice (some ⟨w1.heap.size + 1, 0, none⟩) 1 1) (.slice (some ⟨w1.heap.size + 1 + 1, 0, none⟩) 1 1))
  clear z0 z1 z2 z3 z4 z5 z6 g0' g1' g2' g3' g4' g5' g6'
  rw [hW3]
  obtain ⟨e0, e1, e2, e3, e4, e5, e6⟩ := cells7 KS.out
  refine bodyPost_ret (v := .agg #[.slice (some ⟨g, 0, none⟩) 1 1, .string ⟨#[97]⟩, .string ⟨#[98]⟩, .bool true, .slice none 0 0, .slice (some ⟨w1.heap.size + 1, 0, none⟩) 1 1, .slice (some ⟨w1.heap.size + 1 + 1, 0, none⟩) 1 1]) (by change (results _ _).run _ (sets7 W3 w.heap.size (.slice (some ⟨g, 0, none⟩) 1 1) (.string ⟨#[97]⟩) (.string ⟨#[98]⟩) (.bool true) (.slice none 0 0) (.slice (some ⟨w1.heap.size + 1, 0, none⟩) 1 1) (.slice (some ⟨w1.heap.size + 1 + 1, 0, none⟩) 1 1)) = _; simp [results, Tryz.results24, go_sem, e0, e1, e2, e3, e4, e5, e6]; try rfl) rfl ?_
  refine ⟨_, _, _, rfl, (O3.out.baseF (B' := w.heap.size + 1) (by simp) (fun _ h => h)).keptU (sets7_grown W3 w.heap.size _ _ _ _ _ _ _) (Nat.lt_succ_self _) (fun _ h => h), (Shp.Own.single (S := ShF) (x := F1) B3.out (by omega) trivial).keptU (sets7_grown W3 w.heap.size _ _ _ _ _ _ _) (Nat.lt_succ_self _) (fun _ h => h), OwnM.keptU ⟨_, rfl, Shp.Own.single (S := ShM) (x := (M1, .slice none 0 0, .slice none 0 0, .slice none 0 0)) C3.out (by omega) ⟨Shp.Own.nil _ _ _, Own.nil _ _ _ _, Shp.Own.nil _ _ _⟩⟩ (sets7_grown W3 w.heap.size _ _ _ _ _ _ _) (Nat.lt_succ_self _), ?_⟩
  exact X3.out.grown (sets7_grown W3 w.heap.size _ _ _ _ _ _ _) (fun g hg => by injection hg with hg; omega)
theorem row_bytes {w : World} (g : Nat) (l : List Int) (hg : g = w.heap.size) (hf : Fit .u8 l) (hl : l.length ≤ 65536) :
    Row (w.alloc (.cells (l.map (Value.int .u8)).toArray 5)) .u8 (.slice (some ⟨g, 0, none⟩) l.length l.length) l := by
  subst hg
  exact Row.built w .u8 5 l hf hl
def fitQ (l : List Int) : Bool := l.all fun x => (Lit.int .u8 x).wf
theorem fit_of {l : List Int} (h : fitQ l = true) : Fit .u8 l := fun x hx => List.all_eq_true.1 h x hx
set_option maxRecDepth 100000 in
set_option maxHeartbeats 4000000 in
theorem worksCl_any (w : World) (hT : Tabs w) (hM : Most w) : Calls Tryz.prog 19 #[] w fun e w' => e = .returned (.bool true) ∧ Ext w w' := by
  go_enter Tryz.func19, Tryz.ntmps19
  go_wp2_with fail
  refine (firstCl_any _).mono ?_
  rintro e w1 ⟨g, rfl, h1, x1⟩
  have H1 := Lib.hid h1
  have X1 := Lib.hid x1
  clear h1 x1
  go_wp2_with fail
  refine (isCl_yes C1 (.slice (some ⟨g, 0, none⟩) 1 1) (.slice none 0 0) (.slice none 0 0) (.slice none 0 0) _ B1 _ ((hT.ext X1.out).ext ((Ext.refl _).alloc _)) ((hM.ext X1.out).ext ((Ext.refl _).alloc _)) ⟨H1.out.row.ext ((Ext.refl _).alloc _), Shp.Row.nil _ _, Shp.Row.nil _ _, RowM.nil _⟩ roomC1 goodC1 (row_bytes _ B1 rfl (fit_of (by decide +kernel)) (by decide)) okC1 clB1 (by decide)).mono ?_
  rintro e w2 ⟨rfl, x2⟩
  have X2 := Lib.hid ((X1.out.alloc _).trans x2)
  clear x2
  go_wp2_with fail
  refine (secondCl_any _).mono ?_
  rintro e w3 ⟨g', h', k', rfl, h3, h4, h5, x3⟩
  have X3 := Lib.hid (X2.out.trans x3)
  have H3 := Lib.hid h3.row
  have H4 := Lib.hid h4.row
  have H5 := Lib.hid h5.row
  clear h3 h4 h5 x3
  go_wp2_with fail
  refine (isCl_yes C2 (.slice (some ⟨g', 0, none⟩) 1 1) (.slice none 0 0) (.slice (some ⟨h', 0, none⟩) 1 1) (.slice (some ⟨k', 0, none⟩) 1 1) _ B2 _ ((hT.ext X3.out).ext ((Ext.refl _).alloc _)) ((hM.ext X3.out).ext ((Ext.refl _).alloc _)) ⟨H3.out.ext ((Ext.refl _).alloc _), Shp.Row.nil _ _, H4.out.ext ((Ext.refl _).alloc _), H5.out.ext ((Ext.refl _).alloc _)⟩ roomC2 goodC2 (row_bytes _ B2 rfl (fit_of (by decide +kernel)) (by decide)) okC2 clB2 (by decide)).mono ?_
  rintro e w4 ⟨rfl, x4⟩
  go_wp2
  go_ret
  exact ⟨rfl, (X3.out.alloc _).trans x4⟩
end Go.Proofs.YtokmeomjdpfknaaGreatDoor
