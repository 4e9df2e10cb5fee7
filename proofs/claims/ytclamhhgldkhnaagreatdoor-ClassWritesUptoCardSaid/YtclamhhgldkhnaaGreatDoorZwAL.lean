/- Several texts of this proof, one behind the other. -/
import Derived.Test.YtclamhhgldkhnaaGreatDoorZwAK
import Derived.Test.YtclamhhgldkhnaaGreatDoorZwAH
import Derived.Test.YtclamhhgldkhnaaGreatDoorZwAC
import Derived.Test.YtclamhhgldkhnaaGreatDoorZwAF
import Derived.Test.YtclamhhgldkhnaaGreatDoorZwW
import Derived.Test.YtclamhhgldkhnaaGreatDoorZwAB
import Derived.Deep.CutRange
namespace Go.Proofs.YtclamhhgldkhnaaGreatDoor
open Go.RowKit
set_option linter.unusedVariables false
set_option maxHeartbeats 16000000
theorem Zh7 {t:TyD} (h:okT t=true):TyOk (tyO t):=by
 have h1:=Zle h
 refine⟨?_,by show (bs t.s).size≤_;rw [show (bs t.s).size=t.s.length from rfl];omega⟩
 show I64 t.k
 unfold okT at h
 unfold I64
 split at h <;> rename_i h2
 ·omega
 ·split at h <;> rename_i h3
  ·omega
  ·cases h
theorem ZjK:TyOk (tyO t0D):=⟨⟨by decide,by decide⟩,by decide⟩
theorem Zl1 (l:List UInt8):TyOk (tyO (Zcb l).1):=by
 rcases Zoq l with h | h
 ·exact Zh7 (Zif h).1
 ·rw [h];exact ZjK
theorem Zkj (l:List UInt8):TyOk (tyO (ZaP l).1.ret)∧∀ t∈(ZaP l).1.args.map tyO,TyOk t:=by
 rcases ZlC l with h | h
 ·obtain⟨h1,h2,h3⟩:=Ze8 (ZlY h).1
  refine⟨?_,fun t ht=>?_⟩
  ·rcases h2 with h2 | h2
   ·rw [h2];exact ZjK
   ·exact Zh7 h2
  ·obtain⟨y,hy,rfl⟩:=List.mem_map.1 ht
   exact Zh7 (h3 y hy)
 ·rw [h]
  exact⟨ZjK,fun t ht=>by simp at ht⟩
theorem Zsu {α:Type} {one:RSt→α × RSt} {I:RSt→Prop} {Q:α→Prop} (hft:∀ s,I s→I (one s).2∧Q (one s).1):∀ (n:Nat) (acc:List α) (s:RSt),I s→(∀ x∈acc,Q x)→I (gIt one n acc s).2∧∀ x∈(gIt one n acc s).1,Q x:=by
 intro n
 induction n with
 | zero=>intro acc s hf h;exact⟨hf,h⟩
 | succ n ih =>
  intro acc s hf h
  unfold gIt
  split
  ·exact⟨hf,h⟩
  ·obtain⟨h1,h2⟩:=hft s hf
   refine ih _ _ h1 fun x hx=>?_
   rcases List.mem_append.1 hx with hx | hx
   ·exact h x hx
   ·rw [List.mem_singleton.1 hx];exact h2
def In16 (s:RSt):Prop:=Fit .u8 s.1∧s.1.length≤65535
theorem in_U {s:RSt} (h:In16 s):In16 (gU s).2:=⟨ZgP h.1,Nat.le_trans (ZeB s) h.2⟩
theorem in_B {n:Int} {s:RSt} (h:In16 s):In16 (gB n s).2:=⟨(Zkz h.1).2,Nat.le_trans (Zjq n s).1 h.2⟩
theorem Zhk {s:RSt} (h:In16 s):In16 (gTx s).2:=in_B (in_U h)
theorem ZnW {k:Int} {s:RSt} (h:In16 s):In16 (gUp k s).2:=⟨Zn0 h.1,Nat.le_trans (ZbA k s) h.2⟩
theorem ZtK {s:RSt} (h:In16 s):In16 (gTy s).2:=⟨(Zhk h).1,(Zhk h).2⟩
theorem ZtY {s:RSt} (h:In16 s):In16 (gPr s).2:=⟨(Zhk h).1,(Zhk h).2⟩
theorem ZtD {s:RSt} (h:In16 s):In16 (gHd s).2:=in_U (in_U (in_U (in_U h)))
theorem Zuk {s:RSt} (h:In16 s):In16 (gFd s).2:=ZtK (Zhk (ZnW h))
theorem Zpk {α:Type} {k:Int} {one:RSt→α × RSt} {Q:α→Prop} (hft:∀ s,In16 s→In16 (one s).2∧Q (one s).1) {s:RSt} (h:In16 s):In16 (gLs k one s).2∧∀ x∈(gLs k one s).1,Q x :=
 Zsu hft _ _ _ (ZnW h) (fun _ h=>by cases h)
theorem Zgj {s:RSt} (h:In16 s):(gTx s).1.size≤65535:=Nat.le_trans (ZbH s).2 h.2
theorem ZtA {s:RSt} (h:In16 s):In16 (gMe s).2∧MeRoom (gMe s).1:=by
 have h1:=ZnW (k:=2) h
 have h2:=Zhk h1
 have h3:=ZtY h2
 have r1:=Zgj h1
 obtain⟨r2,r3⟩:=Zkj (gTx (gTx (gUp 2 s).2).2).1.data.toList
 unfold gMe
 simp only
 split
 ·exact⟨h3,⟨by simp only;omega,r2,r3,by simp⟩⟩
 ·have h4:=in_U h3
  have h5:=in_U h4
  have h6:=in_U h5
  have h7:=in_B (n:=(gU (gU (gU (gPr (gTx (gUp 2 s).2).2).2).2).2).1) h6
  have h8:=(Zjq (gU (gU (gU (gPr (gTx (gUp 2 s).2).2).2).2).2).1 (gU (gU (gU (gPr (gTx (gUp 2 s).2).2).2).2).2).2).2
  have h9:=h6.2
  refine⟨(Zpk (Q:=fun _=>True) (fun s h=>⟨ZtD h,trivial⟩) h7).1,⟨by show (gTx (gUp 2 s).2).1.size≤_;omega,r2,r3,?_⟩⟩
  show (gB (gU (gU (gU (gPr (gTx (gUp 2 s).2).2).2).2).2).1 (gU (gU (gU (gPr (gTx (gUp 2 s).2).2).2).2).2).2).1.length≤_
  omega
theorem Zqc {b:List Int} (hf:Fit .u8 b) (hl:b.length≤65535):ClRoom (gCl b).1:=by
 have i0:In16 (ZcD b):=⟨Znm hf,Nat.le_trans (Zjq 3 (b,false)).1 hl⟩
 have i1:In16 (Zb4 (ZcD b)).2:=⟨Zox i0.1,by
  have h:=i0.2
  unfold Zb4
  split
  ·simp only
   split
   ·exact h
   ·simp only [List.length_drop]
    omega
  ·exact h⟩
 have i2:=ZnW (k:=1) i1
 have i3:=Zhk i2
 have i4:=Zhk i3
 have i5:=Zpk (k:=64) (one:=gTx) (Q:=fun s=>s.size≤65535) (fun s h=>⟨Zhk h,Zgj h⟩) i4
 have i6:=Zpk (k:=256) (one:=gFd) (Q:=fun f=>f.nm.size≤65535∧TyOk f.ty) (fun s h=>⟨Zuk h,Zgj (ZnW h),Zl1 _⟩) i5.1
 have i7:=Zpk (k:=256) (one:=gMe) (Q:=MeRoom) (fun s h=>ZtA h) i6.1
 have t1:=Zgj i2
 have t2:=Zgj i3
 refine⟨?_,?_,?_,?_,?_,?_⟩
 ·intro x hx
  have hx:x∈(Zb4 (ZcD b)).1:=hx
  unfold Zb4 at hx
  split at hx
  ·obtain⟨p1,p2⟩:=(ZhH i0.1).1 x hx
   have:=p2.1
   have:=i0.2
   exact⟨p1,by omega⟩
  ·cases hx
 ·show (gTx (gUp 1 (Zb4 (ZcD b)).2).2).1.size≤_
  omega
 ·show (gTx (gTx (gUp 1 (Zb4 (ZcD b)).2).2).2).1.size≤_
  omega
 ·intro s hs
  have:=i5.2 s hs
  omega
 ·intro f hf
  have:=i6.2 f hf
  exact⟨by omega,this.2⟩
 ·exact i7.2
def PAns (B:Nat) (r:Cl × Int) (u:Value) (w':World):Prop:=∃ vp vi vf vm,u=.tuple #[.agg (r.1.vals vp vi vf vm),.int .i64 r.2]∧ClOwn B w' r.1 vp vi vf vm
theorem Zdz (B:Nat) (w:World):ClOwn B w cl0 (.slice none 0 0) (.slice none 0 0) (.slice none 0 0) (.slice none 0 0):=⟨Shp.Own.nil _ _ _,Shp.Own.nil _ _ _,Shp.Own.nil _ _ _,OwnM.nil _ _⟩
theorem BK.sets7 {W:World} {r:Nat} {T:TypeId} {z0 z1 z2 z3 z4 z5 z6:Value} (h:BK W r #[z0,z1,z2,z3,z4,z5,z6] T) (a0 a1 a2 a3 a4 a5 a6:Value):BK (sets7 W r a0 a1 a2 a3 a4 a5 a6) r #[a0,a1,a2,a3,a4,a5,a6] T:=by
 have h0:BK _ r #[a0,z1,z2,z3,z4,z5,z6] T:=h.put 0 a0
 have h1:BK _ r #[a0,a1,z2,z3,z4,z5,z6] T:=h0.put 1 a1
 have h2:BK _ r #[a0,a1,a2,z3,z4,z5,z6] T:=h1.put 2 a2
 have h3:BK _ r #[a0,a1,a2,a3,z4,z5,z6] T:=h2.put 3 a3
 have h4:BK _ r #[a0,a1,a2,a3,a4,z5,z6] T:=h3.put 4 a4
 have h5:BK _ r #[a0,a1,a2,a3,a4,a5,z6] T:=h4.put 5 a5
 exact h5.put 6 a6
theorem ZeC {w W:World} (h:Ext w W) (a0 a1 a2 a3 a4 a5 a6:Value):Ext w (sets7 W w.heap.size a0 a1 a2 a3 a4 a5 a6) :=
 h.grown (ZaU W w.heap.size a0 a1 a2 a3 a4 a5 a6) (fun k hk=>by injection hk with hk;omega)
set_option maxRecDepth 100000 in
theorem ZgK (v:Value) (b:List Int) (w:World) (h:Row w .u8 v b) (hT:Tabs w) (hM:Most w) :
 Calls Tryz.prog 16 #[v] w (Ret w (PAns w.heap.size (ZfX b))):=by
 have H:=Lh h
 have hfit:=h.fit
 obtain⟨A,c,rfl,hcl,hcm,-⟩:=id h
 unfold maxLen at hcm
 obtain⟨G,hG⟩:∃ G,ZfX b=G:=⟨_,rfl⟩
 have HG:=Lh hG
 rw [hG]
 by_cases hbig:65535<b.length
 ·have HE:=Lh (show G=(cl0,5) by rw [← hG];unfold ZfX;rw [if_pos hbig])
  clear hG h hfit hT hM
  go_enter Tryz.func16,Tryz.ntmps16
  go_wp2
  refine bodyPost_ret (v:=.tuple #[.agg #[.slice none 0 0,.string ⟨#[]⟩,.string ⟨#[]⟩,.bool false,.slice none 0 0,.slice none 0 0,.slice none 0 0],.int .i64 5]) (by simp [results,Tryz.results16,go_sem];try first | exact⟨rfl,rfl⟩ | rfl) rfl ?_
  rw [HE.out]
  exact Ret.mk ⟨_,_,_,_,rfl,Zdz _ _⟩ ((Ext.refl w).alloc _)
 ·have hlb:b.length≤65535:=by omega
  have HGP:=Lh (show G=if (gCl b).2.2=true∨0<(gCl b).2.1.length then (cl0,80) else if okCl (gCl b).1=true then ((gCl b).1,0) else (cl0,80) by rw [← hG];unfold ZfX;rw [if_neg hbig])
  have hroom:=Zqc hfit hlb
  have hrk:RK w ((w.alloc (.cells #[.slice none 0 0,.string ⟨#[]⟩,.string ⟨#[]⟩,.bool false,.slice none 0 0,.slice none 0 0,.slice none 0 0] 27)).alloc (.cells #[.slice A b.length c,.bool false] 78)) (w.heap.size+1) (b,false) :=
   ⟨_,(by have:=BK.new (w.alloc (.cells #[.slice none 0 0,.string ⟨#[]⟩,.string ⟨#[]⟩,.bool false,.slice none 0 0,.slice none 0 0,.slice none 0 0] 27)) #[.slice A b.length c,.bool false] 78;simpa [BK] using this),h,((Ext.refl w).alloc _).alloc _,by omega⟩
  have HR:=Lh (Zmo w _ (w.heap.size+1) b hrk hT hM (by omega))
  have HK:=Lh (fun W vp vi vf vm (e:Ext w W) (ha:ClAt W (gCl b).1 vp vi vf vm)=>Zcm (gCl b).1 vp vi vf vm W ha hroom (hT.ext e) (hM.ext e))
  obtain⟨X,hX⟩:∃ X,gCl b=X:=⟨_,rfl⟩
  rw [hX] at HGP HR HK
  obtain⟨cc,lb,wb⟩:=X
  simp only at HGP HR HK
  clear hG h hfit hT hM hX hroom hrk HG
  go_enter Tryz.func16,Tryz.ntmps16
  go_wp2_with fail
  refine HR.out.mono ?_
  rintro x w1 ⟨vp,vi,vf,vm,⟨rfl,h1,g1⟩,ho⟩
  have R1:=((BK.new w #[.slice none 0 0,.string ⟨#[]⟩,.string ⟨#[]⟩,.bool false,.slice none 0 0,.slice none 0 0,.slice none 0 0] 27).ext ((Ext.refl _).alloc (.cells #[.slice A b.length c,.bool false] 78))).kept g1 (by omega)
  have hs1:w.heap.size+2≤w1.heap.size:=by have:=g1.size;simpa using this
  obtain⟨pool,inf,nm,sup,ifs,fds,mts⟩:=cc
  unfold Cl.vals at HK
  simp only at HK
  obtain⟨Ap,cp,rfl,-⟩:=(show ShC.Own _ w1 vp pool from ho.1).slice
  obtain⟨Ai,ci,rfl,-⟩:=(show ShS.Own _ w1 vi ifs from ho.2.1).slice
  obtain⟨Af,cf,rfl,-⟩:=(show ShF.Own _ w1 vf fds from ho.2.2.1).slice
  obtain⟨Am,cm,rfl,-⟩:=(show OwnM _ w1 vm mts from ho.2.2.2).slice
  obtain⟨A2,c2,-,-,-,d0,d1,e0,e1⟩:=h1.cells
  simp only at d0 d1
  have X1:=Lh h1.ext0
  have O1:=Lh (ho.base (B':=w.heap.size+2) (by simp))
  have R2:=Lh R1
  have lg:=h1.lt
  have ng:¬ w.heap.size+1=w1.heap.size:=by omega
  have nr:¬ w.heap.size=w1.heap.size:=by omega
  unfold Cl.vals
  simp only
  obtain⟨np,hnp⟩:∃ n,pool.length=n:=⟨_,rfl⟩
  obtain⟨ni,hni⟩:∃ n,ifs.length=n:=⟨_,rfl⟩
  obtain⟨nf,hnf⟩:∃ n,fds.length=n:=⟨_,rfl⟩
  obtain⟨nM,hnm⟩:∃ n,mts.length=n:=⟨_,rfl⟩
  rw [hnp,hni,hnf,hnm] at O1 ⊢
  have lR:=R1.lt
  clear h1 g1 ho R1 e0 e1 hnp hni hnf hnm
  have KK:=Lh (HK.out _ _ _ _ _ (X1.out.alloc (.cells #[Value.slice Ap np cp,Value.string nm,Value.string sup,Value.bool inf,Value.slice Ai ni ci,Value.slice Af nf cf,Value.slice Am nM cm] 27)) (O1.out.ext ((Ext.refl w1).alloc (.cells #[Value.slice Ap np cp,Value.string nm,Value.string sup,Value.bool inf,Value.slice Ai ni ci,Value.slice Af nf cf,Value.slice Am nM cm] 27))).at)
  cases wb
  case true =>
   have HE:=Lh (show G=(cl0,80) by rw [HGP.out];rw [if_pos (.inl rfl)])
   obtain⟨z0,z1,z2,z3,z4,z5,z6⟩:=ZaC R2.out
   have g0:=R2.out.free 0
   have g1:=R2.out.free 1
   have g2:=R2.out.free 2
   have g3:=R2.out.free 3
   have g4:=R2.out.free 4
   have g5:=R2.out.free 5
   have g6:=R2.out.free 6
   go_wp2
   obtain⟨e0,e1,e2,e3,e4,e5,e6⟩:=ZaC ((R2.out.sets7 (Value.slice none 0 0) (Value.string ⟨#[]⟩) (Value.string ⟨#[]⟩) (Value.bool false) (Value.slice none 0 0) (Value.slice none 0 0) (Value.slice none 0 0)).ext ((Ext.refl _).alloc (.cells #[Value.slice Ap np cp,Value.string nm,Value.string sup,Value.bool inf,Value.slice Ai ni ci,Value.slice Af nf cf,Value.slice Am nM cm] 27)))
   refine bodyPost_ret (v:=.tuple #[.agg #[.slice none 0 0,.string ⟨#[]⟩,.string ⟨#[]⟩,.bool false,.slice none 0 0,.slice none 0 0,.slice none 0 0],.int .i64 80]) (by change (results _ _).run _ ((sets7 w1 w.heap.size (Value.slice none 0 0) (Value.string ⟨#[]⟩) (Value.string ⟨#[]⟩) (Value.bool false) (Value.slice none 0 0) (Value.slice none 0 0) (Value.slice none 0 0)).alloc (.cells #[Value.slice Ap np cp,Value.string nm,Value.string sup,Value.bool inf,Value.slice Ai ni ci,Value.slice Af nf cf,Value.slice Am nM cm] 27))=_;simp [results,Tryz.results16,go_sem,e0,e1,e2,e3,e4,e5,e6];rfl) rfl ?_
   rw [HE.out]
   exact Ret.mk ⟨_,_,_,_,rfl,Zdz _ _⟩ ((ZeC X1.out _ _ _ _ _ _ _).alloc _)
  case false =>
   by_cases hrest:0<lb.length
   ·have HE:=Lh (show G=(cl0,80) by rw [HGP.out];rw [if_pos (.inr hrest)])
    obtain⟨z0,z1,z2,z3,z4,z5,z6⟩:=ZaC R2.out
    have g0:=R2.out.free 0
    have g1:=R2.out.free 1
    have g2:=R2.out.free 2
    have g3:=R2.out.free 3
    have g4:=R2.out.free 4
    have g5:=R2.out.free 5
    have g6:=R2.out.free 6
    go_wp2
    obtain⟨e0,e1,e2,e3,e4,e5,e6⟩:=ZaC ((R2.out.sets7 (Value.slice none 0 0) (Value.string ⟨#[]⟩) (Value.string ⟨#[]⟩) (Value.bool false) (Value.slice none 0 0) (Value.slice none 0 0) (Value.slice none 0 0)).ext ((Ext.refl _).alloc (.cells #[Value.slice Ap np cp,Value.string nm,Value.string sup,Value.bool inf,Value.slice Ai ni ci,Value.slice Af nf cf,Value.slice Am nM cm] 27)))
    refine bodyPost_ret (v:=.tuple #[.agg #[.slice none 0 0,.string ⟨#[]⟩,.string ⟨#[]⟩,.bool false,.slice none 0 0,.slice none 0 0,.slice none 0 0],.int .i64 80]) (by change (results _ _).run _ ((sets7 w1 w.heap.size (Value.slice none 0 0) (Value.string ⟨#[]⟩) (Value.string ⟨#[]⟩) (Value.bool false) (Value.slice none 0 0) (Value.slice none 0 0) (Value.slice none 0 0)).alloc (.cells #[Value.slice Ap np cp,Value.string nm,Value.string sup,Value.bool inf,Value.slice Ai ni ci,Value.slice Af nf cf,Value.slice Am nM cm] 27))=_;simp [results,Tryz.results16,go_sem,e0,e1,e2,e3,e4,e5,e6];rfl) rfl ?_
    rw [HE.out]
    exact Ret.mk ⟨_,_,_,_,rfl,Zdz _ _⟩ ((ZeC X1.out _ _ _ _ _ _ _).alloc _)
   ·have HE2:=Lh (show G=if okCl ⟨pool,inf,nm,sup,ifs,fds,mts⟩=true then (⟨pool,inf,nm,sup,ifs,fds,mts⟩,0) else (cl0,80) by rw [HGP.out];rw [if_neg (fun h=>h.elim (fun h=>by cases h) hrest)])
    unfold chkK at KK
    obtain⟨Z,hZ⟩:∃ Z,okCl ⟨pool,inf,nm,sup,ifs,fds,mts⟩=Z:=⟨_,rfl⟩
    rw [hZ] at KK HE2
    have hrest0:lb.length=0:=by omega
    rw [hrest0] at d0
    clear hZ hrest hrest0
    go_wp2_with fail
    refine KK.out.mono ?_
    rintro x w2 ⟨rfl,x2⟩
    have X2:=Lh ((X1.out.alloc (.cells #[Value.slice Ap np cp,Value.string nm,Value.string sup,Value.bool inf,Value.slice Ai ni ci,Value.slice Af nf cf,Value.slice Am nM cm] 27)).trans x2)
    have R3:=Lh ((R2.out.ext ((Ext.refl w1).alloc (.cells #[Value.slice Ap np cp,Value.string nm,Value.string sup,Value.bool inf,Value.slice Ai ni ci,Value.slice Af nf cf,Value.slice Am nM cm] 27))).ext x2)
    have B3:=Lh ((BK.new w1 #[Value.slice Ap np cp,Value.string nm,Value.string sup,Value.bool inf,Value.slice Ai ni ci,Value.slice Af nf cf,Value.slice Am nM cm] 27).ext x2)
    have O3:=Lh ((O1.out.ext ((Ext.refl w1).alloc (.cells #[Value.slice Ap np cp,Value.string nm,Value.string sup,Value.bool inf,Value.slice Ai ni ci,Value.slice Af nf cf,Value.slice Am nM cm] 27))).ext x2)
    have l2:=B3.out.lt
    clear x2 d0 d1
    cases Z
    case false =>
     have HE:=Lh (show G=(cl0,80) from HE2.out.trans (if_neg (by decide)))
     obtain⟨z0,z1,z2,z3,z4,z5,z6⟩:=ZaC R3.out
     have g0:=R3.out.free 0
     have g1:=R3.out.free 1
     have g2:=R3.out.free 2
     have g3:=R3.out.free 3
     have g4:=R3.out.free 4
     have g5:=R3.out.free 5
     have g6:=R3.out.free 6
     go_wp2
     obtain⟨e0,e1,e2,e3,e4,e5,e6⟩:=ZaC (R3.out.sets7 (Value.slice none 0 0) (Value.string ⟨#[]⟩) (Value.string ⟨#[]⟩) (Value.bool false) (Value.slice none 0 0) (Value.slice none 0 0) (Value.slice none 0 0))
     refine bodyPost_ret (v:=.tuple #[.agg #[.slice none 0 0,.string ⟨#[]⟩,.string ⟨#[]⟩,.bool false,.slice none 0 0,.slice none 0 0,.slice none 0 0],.int .i64 80]) (by change (results _ _).run _ (sets7 w2 w.heap.size (Value.slice none 0 0) (Value.string ⟨#[]⟩) (Value.string ⟨#[]⟩) (Value.bool false) (Value.slice none 0 0) (Value.slice none 0 0) (Value.slice none 0 0))=_;simp [results,Tryz.results16,go_sem,e0,e1,e2,e3,e4,e5,e6];rfl) rfl ?_
     rw [HE.out]
     exact Ret.mk ⟨_,_,_,_,rfl,Zdz _ _⟩ (ZeC X2.out _ _ _ _ _ _ _)
    case true =>
     have HE:=Lh (HE2.out.trans (if_pos rfl))
     obtain⟨z0,z1,z2,z3,z4,z5,z6⟩:=ZaC R3.out
     have g0:=R3.out.free 0
     have g1:=R3.out.free 1
     have g2:=R3.out.free 2
     have g3:=R3.out.free 3
     have g4:=R3.out.free 4
     have g5:=R3.out.free 5
     have g6:=R3.out.free 6
     obtain⟨y0,y1,y2,y3,y4,y5,y6⟩:=ZaC B3.out
     go_wp2
     obtain⟨e0,e1,e2,e3,e4,e5,e6⟩:=ZaC (R3.out.sets7 (Value.slice Ap np cp) (Value.string nm) (Value.string sup) (Value.bool inf) (Value.slice Ai ni ci) (Value.slice Af nf cf) (Value.slice Am nM cm))
     refine bodyPost_ret (v:=.tuple #[.agg #[Value.slice Ap np cp,Value.string nm,Value.string sup,Value.bool inf,Value.slice Ai ni ci,Value.slice Af nf cf,Value.slice Am nM cm],.int .i64 0]) (by change (results _ _).run _ (sets7 w2 w.heap.size (Value.slice Ap np cp) (Value.string nm) (Value.string sup) (Value.bool inf) (Value.slice Ai ni ci) (Value.slice Af nf cf) (Value.slice Am nM cm))=_;simp [results,Tryz.results16,go_sem,e0,e1,e2,e3,e4,e5,e6];rfl) rfl ?_
     rw [HE.out]
     exact Ret.mk ⟨_,_,_,_,rfl,(O3.out.keptU (ZaU w2 w.heap.size _ _ _ _ _ _ _) (by omega)).base (by omega)⟩ (ZeC X2.out _ _ _ _ _ _ _)
theorem ZhI (c:Cl):(Zbd c.pool).length≤(clZ c).length:=by unfold clZ;simp only [List.length_append];omega
theorem ZnJ {c:Cl} (h:okCl c=true) (hl:(clZ c).length≤65535):Zc3 c=(clZ c,0):=by
 unfold Zc3
 rw [if_pos h,if_neg (by omega)]
theorem Znn {c:Cl} (h:okCl c=true):chkK c=0:=by
 unfold chkK
 rw [if_pos h]
theorem Za5 {c:Cl} (h:¬ okCl c=true):chkK c=80:=by
 unfold chkK
 rw [if_neg h]
def cst0:Cst:=⟨0,.empty,0,0,0,0⟩
def M1:Me:=⟨false,true,⟨#[109]⟩,t0,[],0,0,[],[]⟩
def F1:Fd:=⟨true,⟨#[120]⟩,⟨1,.empty⟩⟩
def C1:Cl:=⟨[cst0],false,⟨#[97]⟩,.empty,[],[],[]⟩
def C2:Cl:=⟨[cst0],true,⟨#[97]⟩,⟨#[98]⟩,[],[F1],[M1]⟩
def B1:List Int:=[87,66,1,1,0,1,97,0,0,0,0]
def B2:List Int:=[87,66,1,1,1,1,97,1,98,0,1,1,1,120,1,73,1,2,1,109,3,40,41,86]
theorem okC1:okCl C1=true:=by
 unfold okCl
 rw [ZiX]
 decide +kernel
theorem okC2:okCl C2=true:=by
 unfold okCl
 rw [ZiX]
 decide +kernel
theorem clB1:clZ C1=B1:=by decide +kernel
theorem clB2:clZ C2=B2:=by decide +kernel
theorem ZhC:∀ x∈[cst0],x.ok∧x.t.size≤140737488351232:=fun x hx=>by
 rw [List.mem_singleton.1 hx]
 exact⟨⟨⟨by decide,by decide⟩,⟨by decide,by decide⟩,⟨by decide,by decide⟩,⟨by decide,by decide⟩,⟨by decide,by decide⟩⟩,by decide⟩
theorem ZsJ:ClRoom C1:=⟨ZhC,by decide,by decide,(fun _ h=>by cases h),(fun _ h=>by cases h),(fun _ h=>by cases h)⟩
theorem Zs8:ClRoom C2:=⟨ZhC,by decide,by decide,(fun _ h=>by cases h),(fun f hf=>by
 rw [List.mem_singleton.1 hf]
 exact⟨by decide,⟨by decide,by decide⟩,by decide⟩),fun m hm=>by
 rw [List.mem_singleton.1 hm]
 exact⟨by decide,⟨⟨by decide,by decide⟩,by decide⟩,(fun _ h=>by cases h),by decide⟩⟩
theorem ZiM:Told [cst0]:=(show Texts [cst0] from fun x hx=>(ZhC x hx).2).told fun x hx=>(ZhC x hx).1
theorem Zs4:Good C1:=⟨ZiM,fun _ h=>by cases h⟩
theorem ZsE:Good C2:=⟨ZiM,fun m hm=>by
 rw [List.mem_singleton.1 hm]
 exact Fit.nil _⟩
theorem Zgs (v1 v2:Value) (l1 l2:List Int) (w:World) (h1:Row w .u8 v1 l1) (h2:Row w .u8 v2 l2) :
 Calls Tryz.prog 11 #[v1,v2] w fun e w'=>e=.returned (.bool (decide (l1=l2)))∧Ext w w' :=
 (ZfQ v1 v2 l1 l2 w h1 h2).mono fun e w' ⟨h,m,hm⟩=>by
  subst hm
  exact⟨h,(Ext.refl w).drewN m⟩
-- walks
set_option maxRecDepth 100000 in
theorem Zlc (c:Cl) (vp vi vf vm bv:Value) (b:List Int) (w:World) (hT:Tabs w) (hM:Most w) (h:ClAt w c vp vi vf vm) (hr:ClRoom c) (hg:Good c) (hb:Row w .u8 bv b) (ho:okCl c=true) (hz:clZ c=b) (hs:b.length≤65535) :
 Calls Tryz.prog 39 #[.agg (c.vals vp vi vf vm),bv] w fun e w'=>e=.returned (.bool true)∧Ext w w':=by
 have hzl:=ZhI c
 rw [hz] at hzl
 have hbk:Zc3 c=(b,0):=by rw [ZnJ ho (by rw [hz];exact hs),hz]
 have hpk:ZfX b=(c,0):=by rw [← hz];exact ZlZ ho hg (by rw [hz];exact hs)
 have hB:=fun W (e:Ext w W)=>ZdS c vp vi vf vm W (h.ext e) hr hg (hT.ext e) (hM.ext e) (fun _=>by omega)
 have hP:=fun W (e:Ext w W)=>ZgK bv b W (hb.ext e) (hT.ext e) (hM.ext e)
 simp only [hbk] at hB
 simp only [hpk] at hP
 have HS:=Lh (fun W vp' vi' vf' vm' (e:Ext w W) (h':ClAt W c vp' vi' vf' vm')=>ZbK c c vp vi vf vm vp' vi' vf' vm' W (h.ext e) h' hr hr)
 have HB:=Lh hB
 have HP:=Lh hP
 have HR:=Lh hb
 simp only [decide_true] at HS
 clear hB hP hbk hpk hzl hz ho hg hr hs hT hM
 obtain⟨Ap,Akp,rfl,-⟩:=h.1.cut
 obtain⟨Ai,Aki,rfl,-⟩:=h.2.1.cut
 obtain⟨Af,Akf,rfl,-⟩:=h.2.2.1.cut
 obtain⟨Am,Akm,rfl,-⟩:=h.2.2.2.cut
 obtain⟨Ab,kb,rfl,-⟩:=id hb
 have BX:=Lh (fun W (e:Ext (w.alloc (.cells (c.vals (.slice Ap c.pool.length Akp) (.slice Ai c.ifs.length Aki) (.slice Af c.fds.length Akf) (.slice Am c.mts.length Akm)) 27)) W)=>(BK.new w (c.vals (.slice Ap c.pool.length Akp) (.slice Ai c.ifs.length Aki) (.slice Af c.fds.length Akf) (.slice Am c.mts.length Akm)) 27).ext e)
 have X0:=Lh ((Ext.refl w).alloc (.cells (c.vals (.slice Ap c.pool.length Akp) (.slice Ai c.ifs.length Aki) (.slice Af c.fds.length Akf) (.slice Am c.mts.length Akm)) 27))
 clear h hb
 unfold Cl.vals at BX HS HB X0 ⊢
 go_enter Tryz.func39,Tryz.ntmps39
 go_wp2_with fail
 refine(HB.out _ X0.out).mono ?_
 rintro e w1 ⟨u,rfl,⟨v1,rfl,ho1⟩,x1⟩
 have X1:=Lh (X0.out.trans x1)
 have E1:=Lh x1
 have HO1:=Lh ho1
 obtain⟨A1,k1,rfl,-⟩:=id ho1.row
 clear x1 ho1
 go_wp2_with fail
 refine(HP.out _ X1.out).mono ?_
 rintro e w2 ⟨u,rfl,⟨vp',vi',vf',vm',rfl,ho2⟩,x2⟩
 have X2:=Lh (X1.out.trans x2)
 have E2:=Lh (E1.out.trans x2)
 have R1:=Lh (HO1.out.row.ext x2)
 have h2:=ho2.at
 have H2:=Lh h2
 obtain⟨Dp',Dkp',rfl,-⟩:=h2.1.cut
 obtain⟨Di',Dki',rfl,-⟩:=h2.2.1.cut
 obtain⟨Df',Dkf',rfl,-⟩:=h2.2.2.1.cut
 obtain⟨Dm',Dkm',rfl,-⟩:=h2.2.2.2.cut
 have BY:=Lh (fun W (e:Ext (w2.alloc (.cells (c.vals (.slice Dp' c.pool.length Dkp') (.slice Di' c.ifs.length Dki') (.slice Df' c.fds.length Dkf') (.slice Dm' c.mts.length Dkm')) 27)) W)=>(BK.new w2 (c.vals (.slice Dp' c.pool.length Dkp') (.slice Di' c.ifs.length Dki') (.slice Df' c.fds.length Dkf') (.slice Dm' c.mts.length Dkm')) 27).ext e)
 have Y2:=Lh ((Ext.refl w2).alloc (.cells (c.vals (.slice Dp' c.pool.length Dkp') (.slice Di' c.ifs.length Dki') (.slice Df' c.fds.length Dkf') (.slice Dm' c.mts.length Dkm')) 27))
 clear h2 ho2 x2
 unfold Cl.vals at BY Y2 ⊢
 go_wp2_with fail
 refine(Zgs _ _ b b _ (R1.out.ext Y2.out) (HR.out.ext (X2.out.trans Y2.out))).mono ?_
 rintro e w3 ⟨rfl,x3⟩
 have X3:=Lh ((X2.out.trans Y2.out).trans x3)
 obtain⟨q0,q1,q2,q3,q4,q5,q6⟩:=ZaC (BX.out w3 ((E2.out.trans Y2.out).trans x3))
 obtain⟨r0,r1,r2,r3,r4,r5,r6⟩:=ZaC (BY.out w3 x3)
 have H3:=Lh (H2.out.ext (Y2.out.trans x3))
 clear x3
 rw [decide_eq_true (rfl:b=b)]
 go_wp2_with fail
 refine(HS.out _ _ _ _ _ X3.out H3.out).mono ?_
 rintro e w4 ⟨rfl,x4⟩
 go_wp2
 go_ret
 exact⟨rfl,X3.out.trans x4⟩
theorem Shp.Own.single {α:Type} {S:Shp α} {B g:Nat} {w:World} {x:α} (h:BK w g (S.vals x) S.T) (hB:B≤g) (hx:S.nestO B w x):S.Own B w (.slice (some ⟨g,0,none⟩) 1 1) [x]:=by
 have hs:=S.size x
 refine⟨⟨by simp [hs],.inr ⟨g,1,S.vals x,rfl,hB,h,Nat.le_refl _,by decide,by rw [Nat.one_mul];exact hs,?_⟩⟩,fun y hy=>by rw [List.mem_singleton.1 hy];exact hx⟩
 simp only [List.flatMap_cons,List.flatMap_nil,List.append_nil,List.length_singleton,Nat.one_mul]
 exact List.take_of_length_le (by rw [Array.length_toList];omega)
theorem ZfW (w:World):Calls Tryz.prog 22 #[] w fun e w'=>∃ g,e=.returned (.agg #[.slice (some ⟨g,0,none⟩) 1 1,.string ⟨#[97]⟩,.string ⟨#[]⟩,.bool false,.slice none 0 0,.slice none 0 0,.slice none 0 0])∧ShC.Own (w.heap.size+1) w' (.slice (some ⟨g,0,none⟩) 1 1) [cst0]∧Ext w w':=by
 go_enter Tryz.func22,Tryz.ntmps22
 go_wp2
 refine bodyPost_ret (v:=.agg #[.slice (some ⟨w.heap.size+1,0,none⟩) 1 1,.string ⟨#[97]⟩,.string ⟨#[]⟩,.bool false,.slice none 0 0,.slice none 0 0,.slice none 0 0]) (by simp [results,Tryz.results22,go_sem];try first | rfl | exact⟨rfl,rfl⟩) rfl ?_
 refine⟨_,rfl,?_,((Ext.refl w).alloc _).alloc _⟩
 have h:=BK.new (w.alloc (.cells #[.slice (some ⟨w.heap.size+1,0,none⟩) 1 1,.string ⟨#[97]⟩,.string ⟨#[]⟩,.bool false,.slice none 0 0,.slice none 0 0,.slice none 0 0] 27)) cst0.vals 49
 rw [show (w.alloc (.cells #[.slice (some ⟨w.heap.size+1,0,none⟩) 1 1,.string ⟨#[97]⟩,.string ⟨#[]⟩,.bool false,.slice none 0 0,.slice none 0 0,.slice none 0 0] 27)).heap.size=w.heap.size+1 by simp] at h
 exact Shp.Own.single (S:=ShC) (x:=cst0) h (Nat.le_refl _) trivial
theorem Zis (w:World):Calls Tryz.prog 18 #[] w fun e w'=>∃ g h k,e=.returned (.agg #[.slice (some ⟨g,0,none⟩) 1 1,.string ⟨#[97]⟩,.string ⟨#[98]⟩,.bool true,.slice none 0 0,.slice (some ⟨h,0,none⟩) 1 1,.slice (some ⟨k,0,none⟩) 1 1])∧ShC.Own (w.heap.size+1) w' (.slice (some ⟨g,0,none⟩) 1 1) [cst0]∧ShF.Own (w.heap.size+1) w' (.slice (some ⟨h,0,none⟩) 1 1) [F1]∧OwnM (w.heap.size+1) w' (.slice (some ⟨k,0,none⟩) 1 1) [M1]∧Ext w w':=by
 go_enter Tryz.func18,Tryz.ntmps18
 go_wp2_with fail
 refine(ZfW _).mono ?_
 rintro e w1 ⟨g,rfl,h1,x1⟩
 have H1:=Lh h1
 have X1:=Lh (((Ext.refl w).alloc (.cells #[.slice none 0 0,.string ⟨#[]⟩,.string ⟨#[]⟩,.bool false,.slice none 0 0,.slice none 0 0,.slice none 0 0] 27)).trans x1)
 have KZ:=Lh ((BK.new w #[.slice none 0 0,.string ⟨#[]⟩,.string ⟨#[]⟩,.bool false,.slice none 0 0,.slice none 0 0,.slice none 0 0] 27).ext x1)
 have nb:=KZ.out.lt
 have XA:=(((Ext.refl w1).alloc (.cells #[.slice (some ⟨g,0,none⟩) 1 1,.string ⟨#[97]⟩,.string ⟨#[98]⟩,.bool true,.slice none 0 0,.slice (some ⟨w1.heap.size+1,0,none⟩) 1 1,.slice (some ⟨w1.heap.size+1+1,0,none⟩) 1 1] 27)).alloc (.cells #[.bool true,.string ⟨#[120]⟩,.int .i64 1,.string ⟨#[]⟩] 59)).alloc (.cells #[.bool false,.bool true,.string ⟨#[109]⟩,.int .i64 0,.string ⟨#[]⟩,.slice none 0 0,.int .i64 0,.int .i64 0,.slice none 0 0,.slice none 0 0] 47)
 have K3:=Lh (KZ.out.ext XA)
 have O3:=Lh (h1.ext XA)
 have B3:Hid (BK (((w1.alloc (.cells #[.slice (some ⟨g,0,none⟩) 1 1,.string ⟨#[97]⟩,.string ⟨#[98]⟩,.bool true,.slice none 0 0,.slice (some ⟨w1.heap.size+1,0,none⟩) 1 1,.slice (some ⟨w1.heap.size+1+1,0,none⟩) 1 1] 27)).alloc (.cells #[.bool true,.string ⟨#[120]⟩,.int .i64 1,.string ⟨#[]⟩] 59)).alloc (.cells #[.bool false,.bool true,.string ⟨#[109]⟩,.int .i64 0,.string ⟨#[]⟩,.slice none 0 0,.int .i64 0,.int .i64 0,.slice none 0 0,.slice none 0 0] 47)) (w1.heap.size+1) #[.bool true,.string ⟨#[120]⟩,.int .i64 1,.string ⟨#[]⟩] 59):=Lh ((show BK _ (w1.heap.size+1) _ _ by have:=BK.new (w1.alloc (.cells #[.slice (some ⟨g,0,none⟩) 1 1,.string ⟨#[97]⟩,.string ⟨#[98]⟩,.bool true,.slice none 0 0,.slice (some ⟨w1.heap.size+1,0,none⟩) 1 1,.slice (some ⟨w1.heap.size+1+1,0,none⟩) 1 1] 27)) #[.bool true,.string ⟨#[120]⟩,.int .i64 1,.string ⟨#[]⟩] 59;simpa [BK] using this).ext ((Ext.refl _).alloc _))
 have C3:Hid (BK (((w1.alloc (.cells #[.slice (some ⟨g,0,none⟩) 1 1,.string ⟨#[97]⟩,.string ⟨#[98]⟩,.bool true,.slice none 0 0,.slice (some ⟨w1.heap.size+1,0,none⟩) 1 1,.slice (some ⟨w1.heap.size+1+1,0,none⟩) 1 1] 27)).alloc (.cells #[.bool true,.string ⟨#[120]⟩,.int .i64 1,.string ⟨#[]⟩] 59)).alloc (.cells #[.bool false,.bool true,.string ⟨#[109]⟩,.int .i64 0,.string ⟨#[]⟩,.slice none 0 0,.int .i64 0,.int .i64 0,.slice none 0 0,.slice none 0 0] 47)) (w1.heap.size+1+1) #[.bool false,.bool true,.string ⟨#[109]⟩,.int .i64 0,.string ⟨#[]⟩,.slice none 0 0,.int .i64 0,.int .i64 0,.slice none 0 0,.slice none 0 0] 47):=Lh (by have:=BK.new ((w1.alloc (.cells #[.slice (some ⟨g,0,none⟩) 1 1,.string ⟨#[97]⟩,.string ⟨#[98]⟩,.bool true,.slice none 0 0,.slice (some ⟨w1.heap.size+1,0,none⟩) 1 1,.slice (some ⟨w1.heap.size+1+1,0,none⟩) 1 1] 27)).alloc (.cells #[.bool true,.string ⟨#[120]⟩,.int .i64 1,.string ⟨#[]⟩] 59)) #[.bool false,.bool true,.string ⟨#[109]⟩,.int .i64 0,.string ⟨#[]⟩,.slice none 0 0,.int .i64 0,.int .i64 0,.slice none 0 0,.slice none 0 0] 47;simpa [BK] using this)
 have X3:=Lh (((X1.out.alloc (.cells #[.slice (some ⟨g,0,none⟩) 1 1,.string ⟨#[97]⟩,.string ⟨#[98]⟩,.bool true,.slice none 0 0,.slice (some ⟨w1.heap.size+1,0,none⟩) 1 1,.slice (some ⟨w1.heap.size+1+1,0,none⟩) 1 1] 27)).alloc (.cells #[.bool true,.string ⟨#[120]⟩,.int .i64 1,.string ⟨#[]⟩] 59)).alloc (.cells #[.bool false,.bool true,.string ⟨#[109]⟩,.int .i64 0,.string ⟨#[]⟩,.slice none 0 0,.int .i64 0,.int .i64 0,.slice none 0 0,.slice none 0 0] 47))
 obtain⟨z0,z1,z2,z3,z4,z5,z6⟩:=ZaC K3.out
 have g0':=K3.out.free 0
 have g1':=K3.out.free 1
 have g2':=K3.out.free 2
 have g3':=K3.out.free 3
 have g4':=K3.out.free 4
 have g5':=K3.out.free 5
 have g6':=K3.out.free 6
 clear h1 x1 XA
 go_wp2
 obtain⟨W3,hW3⟩:∃ W,(((w1.alloc (.cells #[.slice (some ⟨g,0,none⟩) 1 1,.string ⟨#[97]⟩,.string ⟨#[98]⟩,.bool true,.slice none 0 0,.slice (some ⟨w1.heap.size+1,0,none⟩) 1 1,.slice (some ⟨w1.heap.size+1+1,0,none⟩) 1 1] 27)).alloc (.cells #[.bool true,.string ⟨#[120]⟩,.int .i64 1,.string ⟨#[]⟩] 59)).alloc (.cells #[.bool false,.bool true,.string ⟨#[109]⟩,.int .i64 0,.string ⟨#[]⟩,.slice none 0 0,.int .i64 0,.int .i64 0,.slice none 0 0,.slice none 0 0] 47))=W:=⟨_,rfl⟩
 rw [hW3] at K3 O3 B3 C3 X3
 have KS:=Lh (show BK (sets7 W3 w.heap.size (.slice (some ⟨g,0,none⟩) 1 1) (.string ⟨#[97]⟩) (.string ⟨#[98]⟩) (.bool true) (.slice none 0 0) (.slice (some ⟨w1.heap.size+1,0,none⟩) 1 1) (.slice (some ⟨w1.heap.size+1+1,0,none⟩) 1 1)) w.heap.size #[.slice (some ⟨g,0,none⟩) 1 1,.string ⟨#[97]⟩,.string ⟨#[98]⟩,.bool true,.slice none 0 0,.slice (some ⟨w1.heap.size+1,0,none⟩) 1 1,.slice (some ⟨w1.heap.size+1+1,0,none⟩) 1 1] 27 from K3.out.sets7 (.slice (some ⟨g,0,none⟩) 1 1) (.string ⟨#[97]⟩) (.string ⟨#[98]⟩) (.bool true) (.slice none 0 0) (.slice (some ⟨w1.heap.size+1,0,none⟩) 1 1) (.slice (some ⟨w1.heap.size+1+1,0,none⟩) 1 1))
 clear z0 z1 z2 z3 z4 z5 z6 g0' g1' g2' g3' g4' g5' g6'
 rw [hW3]
 obtain⟨e0,e1,e2,e3,e4,e5,e6⟩:=ZaC KS.out
 refine bodyPost_ret (v:=.agg #[.slice (some ⟨g,0,none⟩) 1 1,.string ⟨#[97]⟩,.string ⟨#[98]⟩,.bool true,.slice none 0 0,.slice (some ⟨w1.heap.size+1,0,none⟩) 1 1,.slice (some ⟨w1.heap.size+1+1,0,none⟩) 1 1]) (by change (results _ _).run _ (sets7 W3 w.heap.size (.slice (some ⟨g,0,none⟩) 1 1) (.string ⟨#[97]⟩) (.string ⟨#[98]⟩) (.bool true) (.slice none 0 0) (.slice (some ⟨w1.heap.size+1,0,none⟩) 1 1) (.slice (some ⟨w1.heap.size+1+1,0,none⟩) 1 1))=_;simp [results,Tryz.results18,go_sem,e0,e1,e2,e3,e4,e5,e6];try rfl) rfl ?_
 refine⟨_,_,_,rfl,(O3.out.baseF (B':=w.heap.size+1) (by simp) (fun _ h=>h)).keptU (ZaU W3 w.heap.size _ _ _ _ _ _ _) (Nat.lt_succ_self _) (fun _ h=>h),(Shp.Own.single (S:=ShF) (x:=F1) B3.out (by omega) trivial).keptU (ZaU W3 w.heap.size _ _ _ _ _ _ _) (Nat.lt_succ_self _) (fun _ h=>h),OwnM.keptU ⟨_,rfl,Shp.Own.single (S:=ShM) (x:=(M1,.slice none 0 0,.slice none 0 0,.slice none 0 0)) C3.out (by omega) ⟨Shp.Own.nil _ _ _,Own.nil _ _ _ _,Shp.Own.nil _ _ _⟩⟩ (ZaU W3 w.heap.size _ _ _ _ _ _ _) (Nat.lt_succ_self _),?_⟩
 exact X3.out.grown (ZaU W3 w.heap.size _ _ _ _ _ _ _) (fun g hg=>by injection hg with hg;omega)
theorem Zic {w:World} (g:Nat) (l:List Int) (hg:g=w.heap.size) (hf:Fit .u8 l) (hl:l.length≤65536) :
 Row (w.alloc (.cells (l.map (Value.int .u8)).toArray 5)) .u8 (.slice (some ⟨g,0,none⟩) l.length l.length) l:=by
 subst hg
 exact Row.built w .u8 5 l hf hl
def fitQ (l:List Int):Bool:=l.all fun x=>(Lit.int .u8 x).wf
theorem ZqY {l:List Int} (h:fitQ l=true):Fit .u8 l:=fun x hx=>List.all_eq_true.1 h x hx
set_option maxRecDepth 100000 in
theorem Zkg (w:World) (hT:Tabs w) (hM:Most w):Calls Tryz.prog 14 #[] w fun e w'=>e=.returned (.bool true)∧Ext w w':=by
 go_enter Tryz.func14,Tryz.ntmps14
 go_wp2_with fail
 refine(ZfW _).mono ?_
 rintro e w1 ⟨g,rfl,h1,x1⟩
 have H1:=Lh h1
 have X1:=Lh x1
 clear h1 x1
 go_wp2_with fail
 refine(Zlc C1 (.slice (some ⟨g,0,none⟩) 1 1) (.slice none 0 0) (.slice none 0 0) (.slice none 0 0) _ B1 _ ((hT.ext X1.out).ext ((Ext.refl _).alloc _)) ((hM.ext X1.out).ext ((Ext.refl _).alloc _)) ⟨H1.out.row.ext ((Ext.refl _).alloc _),Shp.Row.nil _ _,Shp.Row.nil _ _,RowM.nil _⟩ ZsJ Zs4 (Zic _ B1 rfl (ZqY (by decide +kernel)) (by decide)) okC1 clB1 (by decide)).mono ?_
 rintro e w2 ⟨rfl,x2⟩
 have X2:=Lh ((X1.out.alloc _).trans x2)
 clear x2
 go_wp2_with fail
 refine(Zis _).mono ?_
 rintro e w3 ⟨g',h',k',rfl,h3,h4,h5,x3⟩
 have X3:=Lh (X2.out.trans x3)
 have H3:=Lh h3.row
 have H4:=Lh h4.row
 have H5:=Lh h5.row
 clear h3 h4 h5 x3
 go_wp2_with fail
 refine(Zlc C2 (.slice (some ⟨g',0,none⟩) 1 1) (.slice none 0 0) (.slice (some ⟨h',0,none⟩) 1 1) (.slice (some ⟨k',0,none⟩) 1 1) _ B2 _ ((hT.ext X3.out).ext ((Ext.refl _).alloc _)) ((hM.ext X3.out).ext ((Ext.refl _).alloc _)) ⟨H3.out.ext ((Ext.refl _).alloc _),Shp.Row.nil _ _,H4.out.ext ((Ext.refl _).alloc _),H5.out.ext ((Ext.refl _).alloc _)⟩ Zs8 ZsE (Zic _ B2 rfl (ZqY (by decide +kernel)) (by decide)) okC2 clB2 (by decide)).mono ?_
 rintro e w4 ⟨rfl,x4⟩
 go_wp2
 go_ret
 exact⟨rfl,(X3.out.alloc _).trans x4⟩
set_option maxRecDepth 100000 in
theorem ZiU (m:Me) (va vc vh vp:Value) (pool:List Cst) (w:World) (hm:MeAt w m va vc vh) (hp:ShC.Row w vp pool) (hlb:m.code.length≤140737488355328) :
 Calls Tryz.prog 80 #[.agg (m.vals va vc vh),vp] w (Ret w (CutAns w.heap.size (Zcc m pool))):=by
 have HM:=Lh hm
 have HB:=Lh (Zdh hm.2.1)
 have HC:=Lh (fun W (e:Ext w W)=>Zmy vc m.code W (hm.2.1.ext e) hlb)
 have HU:=Lh (fun x v1 v2 W (e:Ext w W) h1 h2 hx=>Zjo x v1 v2 m va vc vh vp pool W h1 h2 (hm.ext e) (hp.ext e) hx)
 have HF:=Lh (fun v l W (e:Ext w W) (h:RowI W v l)=>Zeg v l m va vc vh vp pool W h (hm.ext e) (hp.ext e))
 obtain⟨Aa,ca,rfl,-⟩:=hm.1.cut
 obtain⟨Ac,cc,rfl,-⟩:=id hm.2.1
 obtain⟨Ah,ch,rfl,-⟩:=hm.2.2.cut
 obtain⟨Ap,cp,rfl,-⟩:=hp.cut
 have HMB:=Lh (fun W (e:Ext (w.alloc (.cells (m.vals (.slice Aa m.args.length ca) (.slice Ac m.code.length cc) (.slice Ah m.hs.length ch)) 47)) W)=>((MeB.new w m (.slice Aa m.args.length ca) (.slice Ac m.code.length cc) (.slice Ah m.hs.length ch)).ext e).cells)
 obtain⟨R,hR⟩:∃ R,cutZ m.code=R:=⟨_,rfl⟩
 obtain⟨l,a,er⟩:=R
 have HW:=Lh (ZgZ HB.out hR)
 have HN:Hid (er≠0→l=[]):=Lh (fun e=>by have:=Zem (b:=m.code) (by rw [hR];exact e);rwa [hR] at this)
 have HZ:Hid (Zcc m pool=chkL m pool (l,a,er)):=Lh (by unfold Zcc;rw [hR])
 rw [hR] at HC
 unfold Me.vals at HMB HU HF ⊢
 clear hm hp hR hlb
 obtain⟨y0,y1,y2,y3,y4,y5,y6,y7,y8,y9⟩:=HMB.out _ (Ext.refl _)
 go_enter Tryz.func80,Tryz.ntmps80
 go_wp2_with fail
 refine(HC.out _ ((Ext.refl w).alloc _)).mono ?_
 rintro e w1 ⟨v',rfl,⟨u,rfl,ho⟩,x1⟩
 have HO:=Lh (ho.base (show w.heap.size≤(w.alloc (.cells #[.bool m.st,.bool m.ab,.string m.nm,.int .i64 m.ret.k,.string m.ret.s,.slice Aa m.args.length ca,.int .i64 m.sk,.int .i64 m.lo,.slice Ac m.code.length cc,.slice Ah m.hs.length ch] 47)).heap.size by simp))
 have X1:=Lh x1
 clear ho x1 y0 y1 y2 y3 y4 y5 y6 y7 y8 y9
 by_cases he:er=0
 ·subst he
  obtain⟨A0,c0,rfl,hc0,hm0⟩:=HO.out.slice
  unfold maxLen at hm0
  obtain⟨n,hn⟩:∃ n,l.length=n:=⟨_,rfl⟩
  have Hn:=Lh hn
  rw [hn] at HO hc0 ⊢
  obtain⟨F,hF⟩:∃ F,Zaj (fitZ m.lo pool) l=F:=⟨_,rfl⟩
  have HFF:=Lh hF
  clear hn hF
  go_wp2_with fail
  go_loopw [10] (fun i wr=>∃ (k:Nat),i=.int .i64 k∧k≤n∧Hid (F=Zaj (fitZ m.lo pool) (l.drop k))∧Hid (Ext w1 wr)) (fun i _=>n-(intOf i).toNat)
  case atStart=>exact⟨0,rfl,by omega,Lh HFF.out.symm,Lh (Ext.refl _)⟩
  case round =>
   obtain⟨k,rfl,hk,HQ,HX⟩:=hrel
   by_cases hlt:k<n
   ·have hkl:k<l.length:=by have:=Hn.out;omega
    obtain⟨b1,o1,rfl,hat⟩:=HO.out.row.at (by omega)
    obtain⟨v1,v2,hat⟩:=hat k hkl
    obtain⟨A1,c1,rfl,-⟩:=(hat _ HX.out).2.1
    obtain⟨A2,c2,rfl,-⟩:=(hat _ HX.out).2.2
    have hmx:=HW.out.2.1 _ (Zob hkl)
    have hN:=fun(e:fitZ m.lo pool (gn l k)=true)=>HQ.out.trans (ZcR hkl e)
    have hH:=fun(e:fitZ m.lo pool (gn l k)=false)=>HQ.out.trans (Zc2 hkl e)
    obtain⟨x,hx⟩:∃ x,gn l k=x:=⟨_,rfl⟩
    have hH':fitZ m.lo pool x=false→F=(x.a,true):=fun e=>by have:=hH (by rw [hx];exact e);rwa [show l.getD k i0=x from hx] at this
    rw [hx] at hat hN hmx
    have e1:Ext w1 wr.drew:=HX.out.drew
    have HS:=Lh (HU.out x _ _ wr.drew ((((Ext.refl w).alloc _).trans X1.out).trans e1) (hat _ e1).2.1 (hat _ e1).2.2 hmx)
    have HFX:∀ W,Ext w1 W→W.cell? ⟨b1,o1+k*6,none⟩=some (.int .i64 x.a)∧W.cell? ⟨b1,o1+k*6+1,none⟩=some (.int .i64 x.o)∧W.cell? ⟨b1,o1+k*6+2,none⟩=some (.int .i64 x.n)∧W.cell? ⟨b1,o1+k*6+3,none⟩=some (.int .i64 x.m)∧W.cell? ⟨b1,o1+k*6+4,none⟩=some (.slice A1 x.to.length c1)∧W.cell? ⟨b1,o1+k*6+5,none⟩=some (.slice A2 x.ks.length c2)∧W.cell? ⟨w.heap.size,0,none⟩=some (.bool m.st)∧W.cell? ⟨w.heap.size,1,none⟩=some (.bool m.ab)∧W.cell? ⟨w.heap.size,2,none⟩=some (.string m.nm)∧W.cell? ⟨w.heap.size,3,none⟩=some (.int .i64 m.ret.k)∧W.cell? ⟨w.heap.size,4,none⟩=some (.string m.ret.s)∧W.cell? ⟨w.heap.size,5,none⟩=some (.slice Aa m.args.length ca)∧W.cell? ⟨w.heap.size,6,none⟩=some (.int .i64 m.sk)∧W.cell? ⟨w.heap.size,7,none⟩=some (.int .i64 m.lo)∧W.cell? ⟨w.heap.size,8,none⟩=some (.slice Ac m.code.length cc)∧W.cell? ⟨w.heap.size,9,none⟩=some (.slice Ah m.hs.length ch):=fun W e=>Zs5 (hat W e).1 (HMB.out W (X1.out.trans e))
    have f0:=HFX wr.drew e1
    have HFY:=Lh HFX
    have HN1:=Lh hN
    have HH1:=Lh hH'
    obtain⟨r,hr⟩:∃ r,fitZ m.lo pool x=r:=⟨_,rfl⟩
    rw [hr] at HS HN1 HH1
    unfold In.vals at HS
    clear hat hx hkl hN hH hH' HFX hr hmx
    go_wp2_with fail
    go_region_held3 (fun w'=>w'.cell? ⟨b1,o1+k*6,none⟩=some (.int .i64 x.a)∧w'.cell? ⟨b1,o1+k*6+1,none⟩=some (.int .i64 x.o)∧w'.cell? ⟨b1,o1+k*6+2,none⟩=some (.int .i64 x.n)∧w'.cell? ⟨b1,o1+k*6+3,none⟩=some (.int .i64 x.m)∧w'.cell? ⟨b1,o1+k*6+4,none⟩=some (.slice A1 x.to.length c1)∧w'.cell? ⟨b1,o1+k*6+5,none⟩=some (.slice A2 x.ks.length c2)∧w'.cell? ⟨w.heap.size,0,none⟩=some (.bool m.st)∧w'.cell? ⟨w.heap.size,1,none⟩=some (.bool m.ab)∧w'.cell? ⟨w.heap.size,2,none⟩=some (.string m.nm)∧w'.cell? ⟨w.heap.size,3,none⟩=some (.int .i64 m.ret.k)∧w'.cell? ⟨w.heap.size,4,none⟩=some (.string m.ret.s)∧w'.cell? ⟨w.heap.size,5,none⟩=some (.slice Aa m.args.length ca)∧w'.cell? ⟨w.heap.size,6,none⟩=some (.int .i64 m.sk)∧w'.cell? ⟨w.heap.size,7,none⟩=some (.int .i64 m.lo)∧w'.cell? ⟨w.heap.size,8,none⟩=some (.slice Ac m.code.length cc)∧w'.cell? ⟨w.heap.size,9,none⟩=some (.slice Ah m.hs.length ch)) (first | with_reducible assumption) (first
     | (go_at_call 136;(with_reducible refine HS.out.mono ?_);rintro e w2 ⟨rfl,x2⟩;have f1:=HFY.out w2 (e1.trans x2)))
    cases r
    ·have HE:=Lh (HZ.out.trans (ZgT rfl (HFF.out.trans (HH1.out rfl))))
     obtain⟨z0,-⟩:=f1
     clear f0
     go_wp2_with fail
     go_quiet (fail)
     go_wp2
     go_ret3
     exact Ret.mk (CutAns.bad HE.out) ((((((Ext.refl w).alloc _).trans X1.out).trans e1).trans x2).drewN _)
    ·have HE:=Lh (HN1.out rfl)
     clear f0 f1
     go_wp2_with fail
     go_roundw
     case rel=>exact⟨k+1,by go_num,by omega,HE,Lh (e1.trans x2)⟩
     case measure=>simp [intOf];omega
   ·have HE0:=Lh (show F=(0,false) by rw [HQ.out,List.drop_of_length_le (by have:=Hn.out;omega)];rfl)
    have HE:=Lh (HZ.out.trans (ZkL rfl (HFF.out.trans HE0.out)))
    obtain⟨y0,y1,y2,y3,y4,y5,y6,y7,y8,y9⟩:=HMB.out _ (X1.out.trans HX.out)
    have hroom:ZiF m=decide (0≤m.sk∧m.sk≤255∧0≤m.lo∧m.lo≤255):=rfl
    rw [hroom] at HE
    have EX:=Lh ((((Ext.refl w).alloc (.cells #[.bool m.st,.bool m.ab,.string m.nm,.int .i64 m.ret.k,.string m.ret.s,.slice Aa m.args.length ca,.int .i64 m.sk,.int .i64 m.lo,.slice Ac m.code.length cc,.slice Ah m.hs.length ch] 47)).trans X1.out).trans HX.out)
    clear hroom
    by_cases h1:m.sk<0
    ·rw [decide_eq_false (show ¬ (0≤m.sk∧m.sk≤255∧0≤m.lo∧m.lo≤255) by omega)] at HE
     go_wp2
     go_ret3
     exact Ret.mk (CutAns.bad (HE.out.trans (if_neg (by simp)))) EX.out
    by_cases h2:255<m.sk
    ·rw [decide_eq_false (show ¬ (0≤m.sk∧m.sk≤255∧0≤m.lo∧m.lo≤255) by omega)] at HE
     go_wp2
     go_ret3
     exact Ret.mk (CutAns.bad (HE.out.trans (if_neg (by simp)))) EX.out
    by_cases h3:m.lo<0
    ·rw [decide_eq_false (show ¬ (0≤m.sk∧m.sk≤255∧0≤m.lo∧m.lo≤255) by omega)] at HE
     go_wp2
     go_ret3
     exact Ret.mk (CutAns.bad (HE.out.trans (if_neg (by simp)))) EX.out
    by_cases h4:255<m.lo
    ·rw [decide_eq_false (show ¬ (0≤m.sk∧m.sk≤255∧0≤m.lo∧m.lo≤255) by omega)] at HE
     go_wp2
     go_ret3
     exact Ret.mk (CutAns.bad (HE.out.trans (if_neg (by simp)))) EX.out
    rw [decide_eq_true (show (0≤m.sk∧m.sk≤255∧0≤m.lo∧m.lo≤255) by omega)] at HE
    obtain⟨r2,hr2⟩:∃ r,Zcv l m pool=r:=⟨_,rfl⟩
    have O3:=Lh (HO.out.ext HX.out)
    have hf:=HF.out _ l wr EX.out O3.out.row
    rw [hr2] at HE hf
    have HF1:=Lh hf
    clear hr2 hf
    go_wp2_with fail
    refine HF1.out.mono ?_
    rintro e w4 ⟨rfl,x4⟩
    cases r2
    ·go_wp2
     go_ret3
     exact Ret.mk (CutAns.bad (HE.out.trans (if_neg (by simp)))) (EX.out.trans x4)
    ·go_wp2
     go_ret3
     exact Ret.mk (CutAns.good (HE.out.trans (if_pos (by simp))) (O3.out.ext x4)) (EX.out.trans x4)
 ·obtain rfl:l=[]:=HN.out he
  have hb:(er != 0)=true:=by simpa using he
  have HE:=Lh (HZ.out.trans (ZkB rfl he))
  clear he
  go_wp2
  go_ret3
  exact Ret.mk (CutAns.bad HE.out) (((Ext.refl w).alloc _).trans X1.out)
end Go.Proofs.YtclamhhgldkhnaaGreatDoor
