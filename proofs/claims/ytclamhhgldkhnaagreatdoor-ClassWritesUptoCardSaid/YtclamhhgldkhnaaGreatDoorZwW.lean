/- Several texts of this proof, one behind the other. -/
import Derived.Test.YtclamhhgldkhnaaGreatDoorZwV
import Derived.Test.YtclamhhgldkhnaaGreatDoorZwU
import Derived.Test.YtclamhhgldkhnaaGreatDoorZwQ
import Derived.Test.YtclamhhgldkhnaaGreatDoorZwJ
import Derived.Test.YtclamhhgldkhnaaGreatDoorZwK
namespace Go.Proofs.YtclamhhgldkhnaaGreatDoor
open Go.RowKit
set_option linter.unusedVariables false
set_option maxHeartbeats 16000000
def Way (w0 w:World) (g:Nat) (k:Int) (l:List Int) (e:Int) (x:Ending) (w':World):Prop :=
 ∃ y m e2,x=.returned (.agg (Cst.vals y))∧PRP w0 w' g m e2∧w.grownBy w' (some g)∧Hid ((y,m,e2)=wayP k l e)
theorem ZtB (w0 w:World) (g:Nat) (l:List Int) (e:Int) (h:PRP w0 w g l e) (hl:l.length+4≤140737488355328):Calls Tryz.prog 210 #[.pointer (some ⟨g,0,none⟩)] w (Way w0 w g 0 l e) :=
 (ZpP w0 w g l e h).mono fun x w' ⟨h1,h2,h3⟩=>⟨_,_,_,h1,h2,h3,by simp [Hid,wayP]⟩
theorem ZtJ (w0 w:World) (g:Nat) (l:List Int) (e:Int) (h:PRP w0 w g l e) (hl:l.length+4≤140737488355328):Calls Tryz.prog 211 #[.pointer (some ⟨g,0,none⟩)] w (Way w0 w g 1 l e) :=
 (ZnT w0 w g l e h hl).mono fun x w' ⟨h1,h2,h3⟩=>⟨_,_,_,h1,h2,h3,by simp [Hid,wayP]⟩
theorem Zt9 (w0 w:World) (g:Nat) (l:List Int) (e:Int) (h:PRP w0 w g l e) (hl:l.length+4≤140737488355328):Calls Tryz.prog 212 #[.pointer (some ⟨g,0,none⟩)] w (Way w0 w g 2 l e) :=
 (Zn4 w0 w g l e h).mono fun x w' ⟨h1,h2,h3⟩=>⟨_,_,_,h1,h2,h3,by simp [Hid,wayP]⟩
theorem ZtV (w0 w:World) (g:Nat) (l:List Int) (e:Int) (h:PRP w0 w g l e) (hl:l.length+4≤140737488355328):Calls Tryz.prog 212 #[.pointer (some ⟨g,0,none⟩)] w (Way w0 w g 3 l e) :=
 (Zn4 w0 w g l e h).mono fun x w' ⟨h1,h2,h3⟩=>⟨_,_,_,h1,h2,h3,by simp [Hid,wayP]⟩
theorem Zt6 (w0 w:World) (g:Nat) (l:List Int) (e:Int) (h:PRP w0 w g l e) (hl:l.length+4≤140737488355328):Calls Tryz.prog 213 #[.pointer (some ⟨g,0,none⟩)] w (Way w0 w g 4 l e) :=
 (ZnG w0 w g l e h).mono fun x w' ⟨h1,h2,h3⟩=>⟨_,_,_,h1,h2,h3,by simp [Hid,wayP]⟩
theorem Zt2 (w0 w:World) (g:Nat) (l:List Int) (e:Int) (h:PRP w0 w g l e) (hl:l.length+4≤140737488355328):Calls Tryz.prog 214 #[.pointer (some ⟨g,0,none⟩)] w (Way w0 w g 5 l e) :=
 (Zg3 w0 w g l e h).mono fun x w' ⟨h1,h2,h3⟩=>⟨_,_,_,h1,h2,h3,by simp [Hid,wayP]⟩
theorem ZtI (w0 w:World) (g:Nat) (l:List Int) (e:Int) (h:PRP w0 w g l e) (hl:l.length+4≤140737488355328):Calls Tryz.prog 214 #[.pointer (some ⟨g,0,none⟩)] w (Way w0 w g 6 l e) :=
 (Zg3 w0 w g l e h).mono fun x w' ⟨h1,h2,h3⟩=>⟨_,_,_,h1,h2,h3,by simp [Hid,wayP]⟩
theorem Zqm {l:List Int} (hf:Fit .u8 l):(kndP l).1=0∨(kndP l).1=1∨(kndP l).1=2∨(kndP l).1=3∨(kndP l).1=4∨(kndP l).1=5∨(kndP l).1=6:=by
 have hg:=hf.gi 0
 unfold kndP
 split
 ·exact .inl rfl
 ·split
  ·exact .inl rfl
  ·simp only
   omega
theorem Zrl (l:List Int):(kndP l).2.1.length≤l.length:=by
 unfold kndP
 split
 ·exact Nat.zero_le _
 ·split
  ·simp
  ·simp
def Read (p:List Int) (N k:Nat) (m:List Cst) (pl:List Int) (e:Int):Prop :=
 m.length=N∧e=(Zay p 0 k).2.2∧(e=0→pl=(Zay p 0 k).2.1∧m.take k=(Zay p 0 k).1.take N)
theorem Zmv (p:List Int) (N:Nat):Read p N 1 (List.replicate N c0) p 0:=by
 unfold Read
 rw [Zdk]
 refine⟨by simp,rfl,fun _=>⟨rfl,?_⟩⟩
 match N with
 | 0=>simp
 | N+1=>simp [List.replicate_succ]
theorem ZbY {p:List Int} (hf:Fit .u8 p) {N k:Nat} (hk1:1≤k) (hk:k<N) {m:List Cst} {pl:List Int} (h:Read p N k m pl 0) {y:Cst} {l2:List Int} {e2:Int}
 (hw:(y,l2,e2)=wayP (kndP pl).1 (kndP pl).2.1 (kndP pl).2.2):Read p N (k+1) (m.set k { y with k:=(kndP pl).1 }) l2 e2:=by
 obtain⟨h1,h2,h3⟩:=h
 obtain⟨h4,h5⟩:=h3 rfl
 have hl:=Zhe h2.symm
 have hn:=Zgt hk1 h2.symm
 obtain⟨s1,s2⟩:=Zr8 (hf.suf (Zct p 0 k))
 have ho:oneP pl=({ y with k:=(kndP pl).1 },l2,e2):=by unfold oneP;rw [← hw]
 rw [← h4,ho] at s1 s2
 rw [← h4] at hn
 unfold Read
 rw [hn]
 refine⟨by rw [List.length_set];exact h1,s1,fun he=>?_⟩
 have s3:=s2 (s1.symm.trans he)
 have s4:(Zb5 pl).1={ y with k:=(kndP pl).1 }:=by rw [← s3]
 have s5:(Zb5 pl).2.1=l2:=by rw [← s3]
 refine⟨s5.symm,?_⟩
 rw [Zpb _ (by omega),h5,List.take_of_length_le (by omega)]
 simp only
 rw [List.take_of_length_le (by rw [List.length_append,List.length_singleton];omega),s4]
theorem Zqw {p:List Int} {N k:Nat} (hk:¬ k<N) (hk2:k≤max N 1) (hk1:1≤k) {m:List Cst} {pl:List Int} (h:Read p N k m pl 0):(Zay p 0 N).2.2=0∧m=(Zay p 0 N).1∧(0<N→pl=(Zay p 0 N).2.1):=by
 obtain⟨h1,h2,h3⟩:=h
 obtain⟨h4,h5⟩:=h3 rfl
 rw [List.take_of_length_le (by omega)] at h5
 match N with
 | 0=>exact⟨rfl,by rw [h5];simp [Zay],fun h=>absurd h (by omega)⟩
 | N+1 =>
  have:k=N+1:=by omega
  subst this
  refine⟨h2.symm,?_,fun _=>h4⟩
  rw [h5,List.take_of_length_le (by rw [Zhe h2.symm];omega)]
theorem Zks {p:List Int} {N k:Nat} (hk1:1≤k) (hk2:k≤max N 1) {m:List Cst} {pl:List Int} {e:Int} (h:Read p N k m pl e) (he:¬ e=0):(Zay p 0 N).2.2=e∧0<N:=by
 obtain⟨h1,h2,h3⟩:=h
 have h0:0<N:=by
  by_cases h0:0<N
  ·exact h0
  ·have:k=1:=by omega
   subst this
   rw [Zdk] at h2
   exact absurd h2 he
 refine⟨?_,h0⟩
 rw [ZfP (k:=k) (by rw [← h2];exact he) N (by omega)]
 exact h2.symm
def WaysAt (w:World) (r:Nat):Prop:=w.heap[r]?=some (.cells ways 214 (0,0))
theorem WaysAt.cells {w:World} {r:Nat} (h:WaysAt w r):∀ j,w.cell? ⟨r,j,none⟩=ways[j]?:=fun j=>cell_of_row w r j ways _ (0,0) h
theorem WaysAt.kept {w w':World} {r:Nat} {q:Option Nat} (h:WaysAt w r) (hw:w.grownBy w' q) (hr:q≠some r):WaysAt w' r:=(hw.block r (Zab h) (fun e=>hr e.symm)).trans h
set_option maxRecDepth 100000 in
theorem ZnO (v:Value) (b:List Int) (w:World) (h:Row w .u8 v b) (hT:Tabs w) (hl:b.length≤140737488351232) :
 Calls Tryz.prog 139 #[v] w (Ret w (Zlo w.heap.size b)):=by
 have hfit:=h.fit
 obtain⟨A0,cc0,hv0,-⟩:=id h
 have hrow:=h
 rw [hv0] at hrow ⊢
 have hpr:PRP w (w.alloc (.cells #[.slice A0 b.length cc0,.int .i64 0] 212)) w.heap.size b 0:=⟨_,heap_alloc_new w _,hrow,(Ext.refl w).alloc _,Nat.le_refl _⟩
 obtain⟨q1,q2,q3⟩:=ZsH b
 have hcnt:=fun W hW=>ZoI w W w.heap.size b hW
 have hpos:0≤(cntP b).1:=by
  by_cases hz:cntZ b=0
  ·rw [(q2 hz).1]
   have:=(ZnE b 0).1
   unfold rdU at this
   rw [if_pos rfl] at this
   exact this
  ·rw [q3 hz]
   decide
 obtain⟨N,hN⟩:∃ N:Nat,(cntP b).1=N:=⟨(cntP b).1.toNat,by omega⟩
 obtain⟨M,hM,hmk⟩:=ZrT N (by
  by_cases hz:cntZ b=0
  ·have:=q2 hz
   rw [this.1] at hN
   simp only at hN
   omega
  ·have:=q3 hz
   omega)
 have hLC:∀ W:World,LC (W.alloc (.cells M 49)) W.heap.size (List.replicate N c0):=fun W=>⟨M,heap_alloc_new W _,hM⟩
 rw [hN] at hcnt
 have HPR:=Lh hpr
 have HCNT:=Lh hcnt
 have HLC:=Lh hLC
 have HFIT:=Lh hfit
 have HROW:=Lh hrow
 by_cases hz:cntZ b=0
 ·obtain⟨qq,q4⟩:=q2 hz
  have hNz:(tU b).1.toNat=N:=by
   rw [qq] at hN
   simp only at hN
   omega
  have hmZ:Zcn b=Zay (tU b).2.1 0 N:=by unfold Zcn;rw [hz,hNz]
  have hcz:(cntP b).2=((tU b).2.1,0):=by rw [qq]
  have hps:=ZkA b
  obtain⟨p,hp⟩:∃ p,p=(tU b).2.1:=⟨_,rfl⟩
  rw [← hp] at hmZ hcz hps
  have hpl:=hps.length_le
  have hpf:=hfit.suf hps
  have hall:=ZhH hfit
  have HMZ:=Lh hmZ
  have HCZ:=Lh hcz
  have HPF:=Lh hpf
  have HALL:=Lh hall
  have hN4:N≤4096:=by omega
  clear q1 q2 q3 hpr hcnt hM hLC hfit hrow hN hNz qq q4 hmZ hcz hp hps hpf hall hv0 h hpos hz
  go_enter Tryz.func139,Tryz.ntmps139
  go_wp2_with fail
  refine(ZgS _).mono ?_
  rintro x w1 ⟨rfl,x1⟩
  have h1:=HPR.out.ext x1
  have WA:WaysAt (w1.alloc (.cells ways 214)) w1.heap.size:=heap_alloc_new _ _
  have H1:=Lh (h1.ext ((Ext.refl _).alloc (.cells ways 214)))
  have WA1:=Lh WA
  have hg1:=h1.lt
  unfold ways at H1 WA1 ⊢
  clear h1 WA
  go_wp2_with fail
  refine(HCNT.out _ H1.out).mono ?_
  rintro x w2 ⟨rfl,h2,g2⟩
  rw [HCZ.out] at h2
  simp only at h2
  have hgl:w.heap.size≤w2.heap.size:=h2.ext0.size
  have hlt2:=h2.lt
  have hgw:w1.heap.size+1≤w2.heap.size:=by have:=g2.size;simpa using this
  have hne1:(some w.heap.size:Option Nat)≠some w2.heap.size:=fun e=>by injection e;omega
  have hne2:(some w.heap.size:Option Nat)≠some w1.heap.size:=fun e=>by injection e;omega
  have hne3:w2.heap.size≠w.heap.size:=by omega
  have hne4:(some w2.heap.size:Option Nat)≠some w1.heap.size:=fun e=>by injection e;omega
  have H2:=Lh (h2.ext ((Ext.refl _).alloc (.cells M 49)))
  have L2:=Lh (HLC.out w2)
  have WA2:Hid (WaysAt (w2.alloc (.cells M 49)) w1.heap.size):=(WaysAt.kept WA1.out g2 hne2).kept (ZaB ((Ext.refl _).alloc _) none) (fun e=>by cases e)
  clear h2 g2 H1 WA1 HPR
  go_wp2
  go_loopw [7] (fun i wr=>∃ (k:Nat) (m:List Cst) (pl:List Int) (e:Int),i=.int .i64 k∧1≤k∧k≤max N 1∧Hid (Read p N k m pl e)∧Hid (PRP w wr w.heap.size pl e)∧Hid (LC wr w2.heap.size m)∧Hid (WaysAt wr w1.heap.size)) (fun i _=>N+1-(intOf i).toNat)
  case atStart=>exact⟨1,_,p,0,rfl,by omega,by omega,Zmv p N,H2.out,L2.out,WA2.out⟩
  case round =>
   clear H2 L2 WA2 hmk
   obtain⟨k,m,pl,e,rfl,hk1,hk2,HRD,HP,HL,HWA⟩:=hrel
   obtain⟨A4,c4,-,-,-,b0,b1,f0,f1⟩:=HP.out.cells
   have hmN:m.length=N:=HRD.out.1
   by_cases hkN:k<N
   ·by_cases he:e=0
    ·subst he
     have hsuf:pl <:+ p:=by rw [(HRD.out.2.2 rfl).1];exact Zct p 0 k
     have hpl2:=hsuf.length_le
     have hkr:=Zqm (HPF.out.suf hsuf)
     have hkl:=Zrl pl
     have ck:=Zp8 w wr w.heap.size pl HP.out
     obtain⟨⟨kk,l1,e1⟩,hkn⟩:∃ t,kndP pl=t:=⟨_,rfl⟩
     rw [hkn] at ck hkr hkl
     simp only at ck hkr hkl
     have HKN:=Lh hkn
     have CK:=Lh ck
     have hl1:l1.length+4≤140737488355328:=by omega
     clear hkn ck hsuf hpl2 hkl b0 f0 f1
     go_wp2_with fail
     refine CK.out.mono ?_
     rintro x w4 ⟨rfl,h4,g4⟩
     have HL4:=Lh (HL.out.kept g4 hne1)
     have WA4:=Lh (HWA.out.kept g4 hne2)
     have H4:=Lh h4
     clear h4 g4
     rcases hkr with rfl | rfl | rfl | rfl | rfl | rfl | rfl
     ·have y_0:w4.cell? ⟨w1.heap.size,0,none⟩=some (.func (.func 210) #[] #[]):=WA4.out.cells 0
      have c5:=ZtB w w4 w.heap.size l1 e1 H4.out hl1
      have C5:=Lh c5
      clear c5
      go_wp2_with fail
      refine C5.out.mono ?_
      rintro x w5 ⟨⟨yk,yt,yn,ya,yb,yc⟩,l2,e2,rfl,h5,g5,HE⟩
      have HL5:=Lh (HL4.out.kept g5 hne1)
      have WA5:=Lh (WA4.out.kept g5 hne2)
      have H5:=Lh h5
      obtain⟨a0,a1,a2,a3,a4,a5⟩:=HL5.out.cells (j:=k) (by omega)
      have fz:=HL5.out.frozen
      clear h5 g5
      unfold Cst.vals
      go_wp2
      go_roundw
      case rel =>
       exact⟨k+1,_,l2,e2,by go_num,by omega,by omega,ZbY HPF.out hk1 hkN HRD.out (by rw [HKN.out];exact HE.out),
        (H5.out.six hne3 hgl (k*6) _ _ _ _ _ _).set_o (q:=⟨w2.heap.size,k*6,none⟩) hne3 hgl _,
        by rw [HKN.out];exact HL5.out.put (by omega) ⟨yk,yt,yn,ya,yb,yc⟩ 0,
        WA5.out.kept (Zaa (Zaa (Zaa (Zaa (Zaa (Zaa (Zaa (World.grownBy.refl w5 (some w2.heap.size)) _ _) _ _) _ _) _ _) _ _) _ _) _ _) hne4⟩
      case measure=>simp [intOf];omega
     ·have y_1:w4.cell? ⟨w1.heap.size,1,none⟩=some (.func (.func 211) #[] #[]):=WA4.out.cells 1
      have c5:=ZtJ w w4 w.heap.size l1 e1 H4.out hl1
      have C5:=Lh c5
      clear c5
      go_wp2_with fail
      refine C5.out.mono ?_
      rintro x w5 ⟨⟨yk,yt,yn,ya,yb,yc⟩,l2,e2,rfl,h5,g5,HE⟩
      have HL5:=Lh (HL4.out.kept g5 hne1)
      have WA5:=Lh (WA4.out.kept g5 hne2)
      have H5:=Lh h5
      obtain⟨a0,a1,a2,a3,a4,a5⟩:=HL5.out.cells (j:=k) (by omega)
      have fz:=HL5.out.frozen
      clear h5 g5
      unfold Cst.vals
      go_wp2
      go_roundw
      case rel =>
       exact⟨k+1,_,l2,e2,by go_num,by omega,by omega,ZbY HPF.out hk1 hkN HRD.out (by rw [HKN.out];exact HE.out),
        (H5.out.six hne3 hgl (k*6) _ _ _ _ _ _).set_o (q:=⟨w2.heap.size,k*6,none⟩) hne3 hgl _,
        by rw [HKN.out];exact HL5.out.put (by omega) ⟨yk,yt,yn,ya,yb,yc⟩ 1,
        WA5.out.kept (Zaa (Zaa (Zaa (Zaa (Zaa (Zaa (Zaa (World.grownBy.refl w5 (some w2.heap.size)) _ _) _ _) _ _) _ _) _ _) _ _) _ _) hne4⟩
      case measure=>simp [intOf];omega
     ·have y_2:w4.cell? ⟨w1.heap.size,2,none⟩=some (.func (.func 212) #[] #[]):=WA4.out.cells 2
      have c5:=Zt9 w w4 w.heap.size l1 e1 H4.out hl1
      have C5:=Lh c5
      clear c5
      go_wp2_with fail
      refine C5.out.mono ?_
      rintro x w5 ⟨⟨yk,yt,yn,ya,yb,yc⟩,l2,e2,rfl,h5,g5,HE⟩
      have HL5:=Lh (HL4.out.kept g5 hne1)
      have WA5:=Lh (WA4.out.kept g5 hne2)
      have H5:=Lh h5
      obtain⟨a0,a1,a2,a3,a4,a5⟩:=HL5.out.cells (j:=k) (by omega)
      have fz:=HL5.out.frozen
      clear h5 g5
      unfold Cst.vals
      go_wp2
      go_roundw
      case rel =>
       exact⟨k+1,_,l2,e2,by go_num,by omega,by omega,ZbY HPF.out hk1 hkN HRD.out (by rw [HKN.out];exact HE.out),
        (H5.out.six hne3 hgl (k*6) _ _ _ _ _ _).set_o (q:=⟨w2.heap.size,k*6,none⟩) hne3 hgl _,
        by rw [HKN.out];exact HL5.out.put (by omega) ⟨yk,yt,yn,ya,yb,yc⟩ 2,
        WA5.out.kept (Zaa (Zaa (Zaa (Zaa (Zaa (Zaa (Zaa (World.grownBy.refl w5 (some w2.heap.size)) _ _) _ _) _ _) _ _) _ _) _ _) _ _) hne4⟩
      case measure=>simp [intOf];omega
     ·have y_3:w4.cell? ⟨w1.heap.size,3,none⟩=some (.func (.func 212) #[] #[]):=WA4.out.cells 3
      have c5:=ZtV w w4 w.heap.size l1 e1 H4.out hl1
      have C5:=Lh c5
      clear c5
      go_wp2_with fail
      refine C5.out.mono ?_
      rintro x w5 ⟨⟨yk,yt,yn,ya,yb,yc⟩,l2,e2,rfl,h5,g5,HE⟩
      have HL5:=Lh (HL4.out.kept g5 hne1)
      have WA5:=Lh (WA4.out.kept g5 hne2)
      have H5:=Lh h5
      obtain⟨a0,a1,a2,a3,a4,a5⟩:=HL5.out.cells (j:=k) (by omega)
      have fz:=HL5.out.frozen
      clear h5 g5
      unfold Cst.vals
      go_wp2
      go_roundw
      case rel =>
       exact⟨k+1,_,l2,e2,by go_num,by omega,by omega,ZbY HPF.out hk1 hkN HRD.out (by rw [HKN.out];exact HE.out),
        (H5.out.six hne3 hgl (k*6) _ _ _ _ _ _).set_o (q:=⟨w2.heap.size,k*6,none⟩) hne3 hgl _,
        by rw [HKN.out];exact HL5.out.put (by omega) ⟨yk,yt,yn,ya,yb,yc⟩ 3,
        WA5.out.kept (Zaa (Zaa (Zaa (Zaa (Zaa (Zaa (Zaa (World.grownBy.refl w5 (some w2.heap.size)) _ _) _ _) _ _) _ _) _ _) _ _) _ _) hne4⟩
      case measure=>simp [intOf];omega
     ·have y_4:w4.cell? ⟨w1.heap.size,4,none⟩=some (.func (.func 213) #[] #[]):=WA4.out.cells 4
      have c5:=Zt6 w w4 w.heap.size l1 e1 H4.out hl1
      have C5:=Lh c5
      clear c5
      go_wp2_with fail
      refine C5.out.mono ?_
      rintro x w5 ⟨⟨yk,yt,yn,ya,yb,yc⟩,l2,e2,rfl,h5,g5,HE⟩
      have HL5:=Lh (HL4.out.kept g5 hne1)
      have WA5:=Lh (WA4.out.kept g5 hne2)
      have H5:=Lh h5
      obtain⟨a0,a1,a2,a3,a4,a5⟩:=HL5.out.cells (j:=k) (by omega)
      have fz:=HL5.out.frozen
      clear h5 g5
      unfold Cst.vals
      go_wp2
      go_roundw
      case rel =>
       exact⟨k+1,_,l2,e2,by go_num,by omega,by omega,ZbY HPF.out hk1 hkN HRD.out (by rw [HKN.out];exact HE.out),
        (H5.out.six hne3 hgl (k*6) _ _ _ _ _ _).set_o (q:=⟨w2.heap.size,k*6,none⟩) hne3 hgl _,
        by rw [HKN.out];exact HL5.out.put (by omega) ⟨yk,yt,yn,ya,yb,yc⟩ 4,
        WA5.out.kept (Zaa (Zaa (Zaa (Zaa (Zaa (Zaa (Zaa (World.grownBy.refl w5 (some w2.heap.size)) _ _) _ _) _ _) _ _) _ _) _ _) _ _) hne4⟩
      case measure=>simp [intOf];omega
     ·have y_5:w4.cell? ⟨w1.heap.size,5,none⟩=some (.func (.func 214) #[] #[]):=WA4.out.cells 5
      have c5:=Zt2 w w4 w.heap.size l1 e1 H4.out hl1
      have C5:=Lh c5
      clear c5
      go_wp2_with fail
      refine C5.out.mono ?_
      rintro x w5 ⟨⟨yk,yt,yn,ya,yb,yc⟩,l2,e2,rfl,h5,g5,HE⟩
      have HL5:=Lh (HL4.out.kept g5 hne1)
      have WA5:=Lh (WA4.out.kept g5 hne2)
      have H5:=Lh h5
      obtain⟨a0,a1,a2,a3,a4,a5⟩:=HL5.out.cells (j:=k) (by omega)
      have fz:=HL5.out.frozen
      clear h5 g5
      unfold Cst.vals
      go_wp2
      go_roundw
      case rel =>
       exact⟨k+1,_,l2,e2,by go_num,by omega,by omega,ZbY HPF.out hk1 hkN HRD.out (by rw [HKN.out];exact HE.out),
        (H5.out.six hne3 hgl (k*6) _ _ _ _ _ _).set_o (q:=⟨w2.heap.size,k*6,none⟩) hne3 hgl _,
        by rw [HKN.out];exact HL5.out.put (by omega) ⟨yk,yt,yn,ya,yb,yc⟩ 5,
        WA5.out.kept (Zaa (Zaa (Zaa (Zaa (Zaa (Zaa (Zaa (World.grownBy.refl w5 (some w2.heap.size)) _ _) _ _) _ _) _ _) _ _) _ _) _ _) hne4⟩
      case measure=>simp [intOf];omega
     ·have y_6:w4.cell? ⟨w1.heap.size,6,none⟩=some (.func (.func 214) #[] #[]):=WA4.out.cells 6
      have c5:=ZtI w w4 w.heap.size l1 e1 H4.out hl1
      have C5:=Lh c5
      clear c5
      go_wp2_with fail
      refine C5.out.mono ?_
      rintro x w5 ⟨⟨yk,yt,yn,ya,yb,yc⟩,l2,e2,rfl,h5,g5,HE⟩
      have HL5:=Lh (HL4.out.kept g5 hne1)
      have WA5:=Lh (WA4.out.kept g5 hne2)
      have H5:=Lh h5
      obtain⟨a0,a1,a2,a3,a4,a5⟩:=HL5.out.cells (j:=k) (by omega)
      have fz:=HL5.out.frozen
      clear h5 g5
      unfold Cst.vals
      go_wp2
      go_roundw
      case rel =>
       exact⟨k+1,_,l2,e2,by go_num,by omega,by omega,ZbY HPF.out hk1 hkN HRD.out (by rw [HKN.out];exact HE.out),
        (H5.out.six hne3 hgl (k*6) _ _ _ _ _ _).set_o (q:=⟨w2.heap.size,k*6,none⟩) hne3 hgl _,
        by rw [HKN.out];exact HL5.out.put (by omega) ⟨yk,yt,yn,ya,yb,yc⟩ 6,
        WA5.out.kept (Zaa (Zaa (Zaa (Zaa (Zaa (Zaa (Zaa (World.grownBy.refl w5 (some w2.heap.size)) _ _) _ _) _ _) _ _) _ _) _ _) _ _) hne4⟩
      case measure=>simp [intOf];omega
    ·obtain⟨r1,r0⟩:=Zks hk1 hk2 HRD.out he
     have hEZ:errZ b=e:=by
      unfold errZ
      rw [HMZ.out,r1]
      exact if_neg he
     have HEZ:=Lh hEZ
     have heb:(e==0)=false:=by simpa using he
     have heb2:(e != 0)=true:=by simpa using he
     clear hEZ r1
     go_wp2
     go_region
     go_wp2
     go_ret3
     exact Ret.mk (Zel HEZ.out he _ _) HP.out.ext0.drew
   ·by_cases he:e=0
    ·subst he
     obtain⟨r1,r2,r3⟩:=Zqw hkN hk2 hk1 HRD.out
     have hM1:m=(Zcn b).1:=by rw [HMZ.out];exact r2
     have hall:=HALL.out
     have hEZ:errZ b=ZaD m:=by
      unfold errZ
      rw [hM1,HMZ.out,r1]
      exact if_pos rfl
     have hok:∀ x∈m,x.ok:=fun x hx=>(hall.1 x (by rw [← hM1];exact hx)).1
     have htx:Texts m:=fun x hx=>by
      have:=(hall.1 x (by rw [← hM1];exact hx)).2.1
      omega
     have ho:=HL.out.own (B:=w.heap.size) hgl (by rw [hmN];simp only [maxLen];omega) hok
     rw [hmN] at ho
     have HO:=Lh ho
     have x0:=HP.out.ext0
     have cc:=ZdA (.slice (some ⟨w2.heap.size,0,none⟩) N N) m wr ho.row (hT.ext x0) htx
     have hpl3:0<N→pl.length≤140737488355328:=fun h0=>by
      have h1:=(Zct p 0 N).length_le
      rw [← r3 h0] at h1
      omega
     have hnil:N=0→ZaD m=40:=fun h0=>by
      have:m=[]:=List.eq_nil_of_length_eq_zero (by omega)
      rw [this]
      exact checkC_nil
     obtain⟨c,hc⟩:∃ c,ZaD m=c:=⟨_,rfl⟩
     rw [hc] at cc hEZ hnil
     have CC:=Lh cc
     have HEZ:=Lh hEZ
     have HM1:=Lh hM1
     have R3:=Lh r3
     have HALL2:=Lh hok
     clear hall cc hEZ hM1 r1 r2 r3 hok htx ho hc
     go_wp2_with fail
     refine CC.out.mono ?_
     rintro x w4 ⟨rfl,x4⟩
     have H4:=Lh ((HP.out.ext x4).setErr c)
     obtain⟨A5,c5,-,-,-,d0,d1,z0,z1⟩:=(HP.out.ext x4).cells
     obtain⟨A6,c6,-,-,-,d2,d3,z2,z3⟩:=H4.out.cells
     have xx4:=x0.trans x4
     by_cases hc0:c=0
     ·subst hc0
      have h0N:0<N:=by
       by_cases h0:N=0
       ·have:=hnil h0
        omega
       ·omega
      go_wp2_with fail
      refine(Zlu w _ w.heap.size pl 0 (by exact H4.out) (hpl3 h0N)).mono ?_
      rintro x w6 ⟨v6,rfl,ho6,x6⟩
      go_wp2
      go_ret3
      have hs4:w.heap.size≤w4.heap.size:=xx4.size
      refine Ret.mk (.inl ⟨HEZ.out,_,_,rfl,?_,?_⟩) (H4.out.ext0.trans x6)
      ·rw [← HM1.out]
       exact((HO.out.ext x4).kept (Zaa (World.grownBy.refl w4 (some w.heap.size)) 1 (.int .i64 0)) (fun g hg e=>hne1 (e.trans hg.symm))).ext x6
      ·rw [HMZ.out,← R3.out h0N]
       exact ho6.base (by simpa [World.setCell] using hs4)
     ·have hcb:(c != 0)=true:=by simpa using hc0
      go_wp2
      go_region
      go_wp2
      go_ret3
      exact Ret.mk (Zel HEZ.out hc0 _ _) H4.out.ext0.drew
    ·obtain⟨r1,r0⟩:=Zks hk1 hk2 HRD.out he
     have hEZ:errZ b=e:=by
      unfold errZ
      rw [HMZ.out,r1]
      exact if_neg he
     have HEZ:=Lh hEZ
     have heb:(e==0)=false:=by simpa using he
     have heb2:(e != 0)=true:=by simpa using he
     clear hEZ r1
     go_wp2
     go_region
     go_wp2
     go_ret3
     exact Ret.mk (Zel HEZ.out he _ _) HP.out.ext0.drew
 ·have hN0:N=0:=by
   have:=q3 hz
   omega
  subst hN0
  have hEZ:errZ b=cntZ b:=by
   have hm:Zcn b=([],(tU b).2.1,cntZ b):=by
    unfold Zcn
    rw [ZfP (k:=0) (by simpa [Zay] using hz) _ (Nat.zero_le _),ZjC]
   unfold errZ
   rw [hm]
   exact if_neg hz
  obtain⟨ez,hez⟩:∃ ez,cntZ b=ez:=⟨_,rfl⟩
  rw [hez] at hEZ hz q1
  obtain⟨pl,hpl⟩:∃ pl,(cntP b).2.1=pl:=⟨_,rfl⟩
  have hcz:(cntP b).2=(pl,ez):=by rw [← hpl,← q1]
  have HCZ:=Lh hcz
  have HEZ:=Lh hEZ
  have heb:(ez==0)=false:=by simpa using hz
  have heb2:(ez != 0)=true:=by simpa using hz
  clear q1 q2 q3 hpr hcnt hM hLC hfit hrow hN hv0 h hpos hez hEZ hpl hcz
  go_enter Tryz.func139,Tryz.ntmps139
  go_wp2_with fail
  refine(ZgS _).mono ?_
  rintro x w1 ⟨rfl,x1⟩
  have H1:=Lh ((HPR.out.ext x1).ext ((Ext.refl _).alloc (.cells ways 214)))
  unfold ways at H1 ⊢
  go_wp2_with fail
  refine(HCNT.out _ H1.out).mono ?_
  rintro x w2 ⟨rfl,h2,g2⟩
  rw [HCZ.out] at h2
  simp only at h2
  have H2:=Lh (h2.ext ((Ext.refl _).alloc (.cells M 49)))
  obtain⟨A4,c4,-,-,-,b0,b1,f0,f1⟩:=H2.out.cells
  clear h2 g2 H1 HPR
  simp only [show ((0:Nat):Int)=0 from rfl] at hmk
  go_wp2
  refine wp_loop_rounds 1 ?_
  rw [rounds_succ]
  go_wp2
  go_region
  go_wp2
  go_ret3
  exact Ret.mk (Zel HEZ.out hz _ _) H2.out.ext0.drew
def Zqn:List Cst→Bool
 | []=>false
 | x :: _=>decide (x.k=0∧x.t.data.toList=[]∧x.n=0∧x.a=0∧x.b=0∧x.c=0)
def ZqT (l:List Cst):Int:=if 4096<l.length then 5 else if (Zqn l&&(l.drop 1).all (mayC l))=true then 0 else 40
theorem Zky (l:List Cst):Zqn l=true↔0<l.length∧gc l 0=c0:=by
 match l with
 | []=>simp [Zqn]
 | x :: m =>
  have e:gc (x :: m) 0=x:=rfl
  rw [e]
  constructor
  ·intro h
   have h:x.k=0∧x.t.data.toList=[]∧x.n=0∧x.a=0∧x.b=0∧x.c=0:=of_decide_eq_true h
   obtain⟨h0,h1,h2,h3,h4,h5⟩:=h
   exact⟨by simp,ZjI h0 (by rw [ByteArray.toList_eq];exact h1) h2 h3 h4 h5⟩
  ·rintro ⟨-,rfl⟩
   rfl
theorem Zoh (l:List Cst):(l.drop 1).all (mayC l)=true↔∀ j,1≤j→j<l.length→mayC l (gc l j)=true:=by
 rw [List.all_eq_true]
 constructor
 ·intro h j h1 h2
  refine h _ ?_
  rw [List.mem_drop_iff_getElem]
  refine⟨j-1,by omega,?_⟩
  have:1+(j-1)=j:=by omega
  simp [gc,h2,this]
 ·intro h x hx
  rw [List.mem_drop_iff_getElem] at hx
  obtain⟨j,hj,rfl⟩:=hx
  have:=h (j+1) (by omega) (by omega)
  simpa [gc,show j+1<l.length by omega,Nat.add_comm] using this
theorem ZiX (l:List Cst):ZaD l=ZqT l:=by
 unfold ZqT
 by_cases h1:4096<l.length
 ·rw [if_pos h1,ZdL h1]
 ·rw [if_neg h1]
  by_cases h2:(Zqn l&&(l.drop 1).all (mayC l))=true
  ·rw [if_pos h2]
   rw [Bool.and_eq_true] at h2
   obtain⟨h3,h4⟩:=h2
   obtain⟨h5,h6⟩:=(Zky l).1 h3
   exact ZeY (by omega) h5 ⟨h6,(Zoh l).1 h4⟩
  ·rw [if_neg h2]
   by_cases he:l=[]
   ·rw [he,checkC_nil]
   refine Zb9 (by omega) fun ha=>h2 ?_
   rw [Bool.and_eq_true]
   exact⟨(Zky l).2 ⟨List.length_pos_iff.2 he,ha.1⟩,(Zoh l).2 ha.2⟩
theorem Texts.told {l:List Cst} (h:Texts l) (hok:∀ x∈l,x.ok):Told l:=fun x hx=>⟨hok x hx,by
 have h1:=ZfH x.t.data.toList
 have h2:=h x hx
 rw [Lib.size_eq] at h2
 omega⟩
theorem Zqo {l:List Cst} (h:tot l≤1048576):Room l:=fun y hy=>by
 have h1:=ZrS hy
 have h2:=ZfH y.t.data.toList
 have h3:y.t.size=y.t.data.toList.length:=Lib.size_eq _
 omega
theorem ZoT (x:Cst):(encC x).length≤41*(x.t.size+1):=by
 have h2:=ZfH x.t.data.toList
 have h3:x.t.size=x.t.data.toList.length:=Lib.size_eq _
 have d:=Zk0 1 10
 have d2:=Zk0 2 10
 unfold encC
 rw [List.length_cons]
 split
 ·rw [List.length_append]
  have:=d (encZ x.t.data.toList).length
  omega
 ·split
  ·have:=d2 x.n
   omega
  ·split
   ·have:=d x.a
    omega
   ·rw [List.length_append,List.length_append]
    have:=d x.a
    have:=d x.b
    have:=d x.c
    omega
theorem Zp7 (l:List Cst):(encs l).length≤41*tot l:=by
 induction l with
 | nil=>simp [encs]
 | cons x l ih =>
  have e:tot (x :: l)=x.t.size+1+tot l:=by simp [tot]
  have:=ZoT x
  unfold encs at ih ⊢
  rw [List.flatMap_cons,List.length_append,e]
  omega
theorem Zpr (l:List Cst):tot (l.drop 1)≤tot l:=by
 match l with
 | []=>exact Nat.le_refl _
 | x :: l=>simp [tot]
theorem Zmd (l:List Cst):(Zbd l).length≤10+41*tot l:=by
 rw [ZiG,List.length_append]
 have h1:=Zk0 1 10 (l.length:Int)
 have h2:=Zp7 (l.drop 1)
 have h3:=Zpr l
 omega
theorem ZaX {s:ByteArray} {n:Nat} (h:s.size≤n):s.data.toList.length≤n:=by rw [← Lib.size_eq];exact h
theorem ClRoom.texts {c:Cl} (h:ClRoom c):Texts c.pool:=fun x hx=>(h.pool x hx).2
theorem Zej (s:ByteArray) (w:World) (h:s.size≤140737488351232):Calls Tryz.prog 71 #[.string s] w fun e w'=>e=.returned (.bool (nmB s))∧Ext w w':=ZbU s.data.toList w (ZaX h)
theorem Zkm (t:Ty) (w:World) (h:TyOk t):Calls Tryz.prog 129 #[.agg #[.int .i64 t.k,.string t.s]] w fun e w'=>e=.returned (.int .i64 (Zdp (tyD t)))∧Ext w w':=ZbN (tyD t) w (ZaX h.2)
theorem Zj7 (t:Ty) (w:World) (h:TyOk t):Calls Tryz.prog 113 #[.agg #[.int .i64 t.k,.string t.s]] w fun e w'=>e=.returned (.tuple #[.string (bs (Zbx (tyD t)).1),.int .i64 (Zbx (tyD t)).2])∧Ext w w':=ZhE (tyD t) w (ZaX h.2)
theorem ZiY (m:Me) (va:Value) (w:World) (h:ShT.Row w va m.args) (hr:MeRoom m):Calls Tryz.prog 132 #[.agg #[.int .i64 m.ret.k,.string m.ret.s,va]] w fun e w'=>e=.returned (.int .i64 (Zap m.pr))∧Ext w w':=ZdP va m.pr w (Zdi h hr.args) (ZaX hr.ret.2)
theorem Zfc (m:Me) (va:Value) (w:World) (h:ShT.Row w va m.args) (hr:MeRoom m):Calls Tryz.prog 114 #[.agg #[.int .i64 m.ret.k,.string m.ret.s,va]] w fun e w'=>e=.returned (.tuple #[.string (bs (Zcj m.pr).1),.int .i64 (Zcj m.pr).2])∧Ext w w':=ZgO va m.pr w (Zdi h hr.args) (ZaX hr.ret.2)
theorem Zj1 (m n:Me) (va vb:Value) (w:World) (h:ShT.Row w va m.args) (h':ShT.Row w vb n.args) (hr:MeRoom m) (hr':MeRoom n):Calls Tryz.prog 81 #[.agg #[.int .i64 m.ret.k,.string m.ret.s,va],.agg #[.int .i64 n.ret.k,.string n.ret.s,vb]] w fun e w'=>e=.returned (.bool (decide (m.pr=n.pr)))∧Ext w w':=Zh9 va vb m.pr n.pr w (Zdi h hr.args) (Zdi h' hr'.args)
theorem Ztw (s:ByteArray) (w:World) (h:s.size≤140737488351232):Calls Tryz.prog 179 #[.string s] w fun e w'=>e=.returned (.tuple #[.agg #[.int .i64 (tyO (Zcb s.data.toList).1).k,.string (tyO (Zcb s.data.toList).1).s],.int .i64 (Zcb s.data.toList).2])∧Ext w w':=ZoV s.data.toList (ZaX h) w
theorem Zrb (s:ByteArray) (w:World) (h:s.size≤140737488351232):Calls Tryz.prog 180 #[.string s] w fun e w'=>∃ v,e=.returned (.tuple #[.agg #[.int .i64 (tyO (ZaP s.data.toList).1.ret).k,.string (tyO (ZaP s.data.toList).1.ret).s,v],.int .i64 (ZaP s.data.toList).2])∧ShT.Own w.heap.size w' v ((ZaP s.data.toList).1.args.map tyO)∧Ext w w':=by
 refine(Zoy s.data.toList (ZaX h) w).mono ?_
 rintro e w' ⟨v,rfl,ho,x⟩
 exact⟨v,rfl,ho.shp,x⟩
theorem Zb3 (s:ByteArray) (w:World) (h:s.size≤140737488351232):Calls Tryz.prog 29 #[.string s] w fun e w'=>e=.returned (.bool (nmB s))∧Ext w w':=(Zbr s.data.toList w (ZaX h)).mono fun e w' ⟨h,m,hw⟩=>⟨h,hw ▸ (Ext.refl w).drewN m⟩
theorem ZgE (t:Ty) (w:World) (h:TyOk t):Calls Tryz.prog 30 #[.agg #[.int .i64 t.k,.string t.s]] w fun e w'=>e=.returned (.int .i64 (Zdp (tyD t)))∧Ext w w':=ZaW (tyD t) w (ZaX h.2)
theorem ZgM (t:Ty) (w:World) (h:TyOk t):Calls Tryz.prog 69 #[.agg #[.int .i64 t.k,.string t.s]] w fun e w'=>e=.returned (.tuple #[.string (bs (Zbx (tyD t)).1),.int .i64 (Zbx (tyD t)).2])∧Ext w w':=Zfm (tyD t) w (ZaX h.2)
theorem Zf0 (m:Me) (va:Value) (w:World) (h:ShT.Row w va m.args) (hr:MeRoom m):Calls Tryz.prog 79 #[.agg #[.int .i64 m.ret.k,.string m.ret.s,va]] w fun e w'=>e=.returned (.int .i64 (Zap m.pr))∧Ext w w':=Zcp va m.pr w (Zdi h hr.args) (ZaX hr.ret.2)
theorem Zdc (m:Me) (va:Value) (w:World) (h:ShT.Row w va m.args) (hr:MeRoom m):Calls Tryz.prog 122 #[.agg #[.int .i64 m.ret.k,.string m.ret.s,va]] w fun e w'=>e=.returned (.tuple #[.string (bs (Zcj m.pr).1),.int .i64 (Zcj m.pr).2])∧Ext w w':=ZeX va m.pr w (Zdi h hr.args) (ZaX hr.ret.2)
theorem ZgB (m n:Me) (va vb:Value) (w:World) (h:ShT.Row w va m.args) (h':ShT.Row w vb n.args) (hr:MeRoom m) (hr':MeRoom n):Calls Tryz.prog 84 #[.agg #[.int .i64 m.ret.k,.string m.ret.s,va],.agg #[.int .i64 n.ret.k,.string n.ret.s,vb]] w fun e w'=>e=.returned (.bool (decide (m.pr=n.pr)))∧Ext w w':=Zfg va vb m.pr n.pr w (Zdi h hr.args) (Zdi h' hr'.args)
end Go.Proofs.YtclamhhgldkhnaaGreatDoor
