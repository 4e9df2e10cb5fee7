/- Several texts of this proof, one behind the other. -/
import Derived.Test.YtclamhhgldkhnaaGreatDoorZwY
import Derived.Test.YtclamhhgldkhnaaGreatDoorZwM
import Derived.Test.YtclamhhgldkhnaaGreatDoorZwX
import Derived.Deep.RegionLaw
import Derived.Deep.RegionHeld3
import Derived.Deep.CutRange
import Derived.Deep.CutBlock
import Derived.LoopN
namespace Go.Proofs.YtclamhhgldkhnaaGreatDoor
open Go.RowKit
set_option linter.unusedVariables false
set_option maxHeartbeats 16000000
set_option maxRecDepth 100000 in
theorem ZhR (v:Value) (l:List Int) (k:Int) (w:World) (h:Row w .u8 v l) (hk:k<0∨(l.length:Int)≤k∨8192≤k) :
 Calls Tryz.prog 169 #[v,.int .i64 k] w (Ret w (Zff w.heap.size (i0,0,9))):=by
 obtain⟨A,c,rfl,-⟩:=h
 have hc:k<0∨(¬ k<0∧(l.length:Int)≤k)∨(¬ k<0∧¬ (l.length:Int)≤k∧8192≤k):=by omega
 clear hk
 rcases hc with hc | ⟨hc,hd⟩ | ⟨hc,hd,he⟩
 all_goals
  go_enter Tryz.func169,Tryz.ntmps169
  go_wp2
  refine bodyPost_ret (v:=.tuple #[.agg #[.int .i64 0,.int .i64 0,.int .i64 0,.int .i64 0,.slice none 0 0,.slice none 0 0],.int .i64 0,.int .i64 9]) (by simp [results,Tryz.results169,go_sem]) rfl ?_
  exact Ret.mk ⟨_,_,rfl,Own.nil _ _ _ _,Own.nil _ _ _ _⟩ ((Ext.refl w).alloc _)
set_option maxRecDepth 100000 in
theorem Zil (v:Value) (l:List Int) (k:Nat) (w:World) (h:Row w .u8 v l) (hk:k<l.length) (hk2:k<8192) (ho:89<gi l k) :
 Calls Tryz.prog 169 #[v,.int .i64 k] w (Ret w (Zff w.heap.size (i0,0,60))):=by
 have H0:=Lh h
 obtain⟨A,c,rfl,hc,hm,-⟩:=h
 unfold maxLen at hm
 have hb:=H0.out.fit.u8 (Zbb hk)
 obtain⟨b,o,rfl,hat⟩:=H0.out.all (by omega)
 have X0:=(Ext.refl w).alloc (.cells #[.int .i64 0,.int .i64 0,.int .i64 0,.int .i64 0,.slice none 0 0,.slice none 0 0] 178)
 have y0:=hat _ X0 k hk
 have hk0:¬ ((k:Int)<0):=by omega
 have hk3:¬ (8192≤(k:Int)):=by omega
 obtain⟨op,hop'⟩:∃ op,gi l k=op:=⟨_,rfl⟩
 rw [hop'] at y0 hb ho
 have hwo:IntKind.i64.wrap op=op:=by rw [IntKind.wrap_i64];omega
 clear hat hop'
 go_enter Tryz.func169,Tryz.ntmps169
 go_wp2
 refine bodyPost_ret (v:=.tuple #[.agg #[.int .i64 0,.int .i64 0,.int .i64 0,.int .i64 0,.slice none 0 0,.slice none 0 0],.int .i64 0,.int .i64 60]) (by simp [results,Tryz.results169,go_sem]) rfl ?_
 refine Ret.mk ⟨_,_,rfl,Own.nil _ _ _ _,Own.nil _ _ _ _⟩ ?_
 first
  | exact X0.alloc _
  | exact(X0.alloc _).grown (Za0 _ _ _ _ _ _ _) (fun g hg=>by injection hg with hg;omega)
theorem ZmK {l r:List Int} {a:Nat} (h:a≤l.length) (e:l.drop a=r):(l.length:Int)-r.length=a:=by
 rw [← e,List.length_drop]
 omega
theorem Zm6 {a o:Int} {l r:List Int} {x:In} (h:insM false a o (l,false)=(x,r,false)):body a o l=some (x,r):=by
 have hb:=Zer (st:=false) (a:=a) (o:=o) (l:=l)
 cases hy:body a o l with
 | none=>rw [hy,h] at hb;cases hb
 | some y =>
  rw [hy] at hb
  simp only at hb
  rw [h] at hb
  injection hb with e1 e2
  injection e2 with e2 e3
  rw [e1,e2]
theorem ZmI {a o:Int} {l r:List Int} {x:In} (h:insM false a o (l,false)=(x,r,true)):body a o l=none:=by
 have hb:=Zer (st:=false) (a:=a) (o:=o) (l:=l)
 cases hy:body a o l with
 | none=>rfl
 | some y =>
  rw [hy] at hb
  simp only at hb
  rw [h] at hb
  injection hb with e1 e2
  injection e2 with e2 e3
  cases e3
theorem ZnP {l:List Int} {en:Bool} (hb:∀ c∈l,B8 c):0≤(rdN false 2 false (l,en)).1∧(rdN false 2 false (l,en)).1≤65535:=by
 unfold rdN
 split
 ·simp
 ·match l with
  | []=>simp [pk]
  | [_]=>simp [pk]
  | p :: q :: l=>have:=Zn7 (hb p (by simp)) (hb q (by simp));simp [pk];omega
theorem DR.bytes {w:World} {g:Nat} {v:Value} {b:List Int} {q:List Int × Bool} (h:DR w g v b q) (hb:∀ c∈b,B8 c):∀ c∈q.1,B8 c:=by
 obtain⟨a,-,-,e⟩:=h
 rw [← e]
 exact fun c hc=>hb c (List.mem_of_mem_drop hc)
def CT (a:Int) (Y:List Int × List Int × Bool) (m:Nat) (L:List Int) (p:List Int × Bool):Prop:=(L++(rdT false a m p).1,(rdT false a m p).2)=Y
theorem CT.next {a:Int} {Y:List Int × List Int × Bool} {m:Nat} {L:List Int} {p:List Int × Bool} (h:CT a Y (m+1) L p) (hp:p.2=false):CT a Y m (L++[a+(rdN false 2 true p).1]) (rdN false 2 true p).2:=by
 unfold CT at *
 rw [rdT,if_neg (by simp [hp])] at h
 simpa using h
theorem CT.end_ {a:Int} {Y:List Int × List Int × Bool} {m:Nat} {L:List Int} {p:List Int × Bool} (h:CT a Y m L p) (he:m=0∨p.2=true):Y=(L,p):=by
 unfold CT at h
 rcases he with rfl | he
 ·simpa [rdT] using h.symm
 ·rw [Za4 he] at h;simpa using h.symm
def CK (a:Int) (Y:List Int × List Int × List Int × Bool) (m:Nat) (L M:List Int) (p:List Int × Bool):Prop:=(L++(rdK false a m p).1,M++(rdK false a m p).2.1,(rdK false a m p).2.2)=Y
theorem CK.next {a:Int} {Y:List Int × List Int × List Int × Bool} {m:Nat} {L M:List Int} {p:List Int × Bool} (h:CK a Y (m+1) L M p) (hp:p.2=false):CK a Y m (L++[(rdN false 4 true p).1]) (M++[a+(rdN false 2 true (rdN false 4 true p).2).1]) (rdN false 2 true (rdN false 4 true p).2).2:=by
 unfold CK at *
 rw [rdK,if_neg (by simp [hp])] at h
 simpa using h
theorem CK.end_ {a:Int} {Y:List Int × List Int × List Int × Bool} {m:Nat} {L M:List Int} {p:List Int × Bool} (h:CK a Y m L M p) (he:m=0∨p.2=true):Y=(L,M,p):=by
 unfold CK at h
 rcases he with rfl | he
 ·simpa [rdK] using h.symm
 ·rw [ZbI he] at h;simpa using h.symm
def Fin (w:World) (l:List Int) (v:Value) (X:In × List Int × Bool) (wx:World):Prop:=∃ u1 u2,DS w wx (w.heap.size+1) (w.heap.size+1+1) w.heap.size X.1 u1 u2 v l X.2
set_option maxRecDepth 100000 in
theorem Zjf (v:Value) (l:List Int) (k:Nat) (w:World) (h:Row w .u8 v l) (hl:l.length≤140737488355328) (hk:k<l.length) (hk2:k<8192) (ho:gi l k≤89) :
 Calls Tryz.prog 169 #[v,.int .i64 k] w (Ret w (Zff w.heap.size (Zas l k))):=by
 rw [Zld hk hk2,if_neg (by omega)]
 have H0:=Lh h
 obtain⟨A,c,rfl,hc,hm,-⟩:=h
 unfold maxLen at hm
 have hb:=H0.out.fit.u8 (Zbb hk)
 obtain⟨b,o,rfl,hat⟩:=H0.out.all (by omega)
 have Y0:=(Ext.refl w).alloc (.cells #[.int .i64 0,.int .i64 0,.int .i64 0,.int .i64 0,.slice none 0 0,.slice none 0 0] 178)
 have y0:=hat _ Y0 k hk
 have hk0:¬ ((k:Int)<0):=by omega
 have hk3:¬ (8192≤(k:Int)):=by omega
 have hw1:IntKind.i64.wrap ((k:Int)+1)=k+1:=by rw [IntKind.wrap_i64];omega
 obtain⟨op,hop'⟩:∃ op,gi l k=op:=⟨_,rfl⟩
 rw [hop'] at y0 hb ho ⊢
 have hwo:IntKind.i64.wrap op=op:=by rw [IntKind.wrap_i64];omega
 have ho9:¬ 89<op:=by omega
 obtain⟨q,hq⟩:∃ q,l.drop (k+1)=q:=⟨_,rfl⟩
 rw [hq]
 have HQ:=Lh hq
 obtain⟨W0,hW0⟩:∃ W0,W0=((w.alloc (.cells #[.int .i64 0,.int .i64 0,.int .i64 0,.int .i64 0,.slice none 0 0,.slice none 0 0] 178)).alloc (.cells #[.int .i64 k,.int .i64 op,.int .i64 0,.int .i64 0,.slice none 0 0,.slice none 0 0] 178)).alloc (.cells #[.slice (some ⟨b,o,none⟩) l.length c,.int .i64 (k+1),.bool false] 235):=⟨_,rfl⟩
 have hds:DS w W0 (w.heap.size+1) (w.heap.size+1+1) w.heap.size ⟨k,op,0,0,[],[]⟩ (.slice none 0 0) (.slice none 0 0) (.slice (some ⟨b,o,none⟩) l.length c) l (q,false):=by
  rw [hW0]
  refine⟨(heap_alloc_old _ _ (by simp)).trans (Zhg _ _ _),Own.nil _ _ _ _,Own.nil _ _ _ _,(fun b hb=>by cases hb),⟨k+1,ZoG (Zov _ _ _ _),by omega,hq⟩,(((Ext.refl w).alloc _).alloc _).alloc _,by omega,by omega,(heap_alloc_old _ _ (by simp;omega)).trans ((heap_alloc_old _ _ (by simp)).trans (heap_alloc_new _ _)),by omega,Nat.le_refl _⟩
 have HDS:=Lh hds
 obtain⟨X,hX⟩:∃ X,insM false k op (q,false)=X:=⟨_,rfl⟩
 have HX:=Lh hX
 have HKO:=Lh (And.intro hk2 hb)
 have HLL:=Lh hl
 have x1':=Zhg w (.cells #[.int .i64 0,.int .i64 0,.int .i64 0,.int .i64 0,.slice none 0 0,.slice none 0 0] 178) (.cells #[.int .i64 k,.int .i64 op,.int .i64 0,.int .i64 0,.slice none 0 0,.slice none 0 0] 178)
 obtain⟨p0,p1,p2,p3,p4,p5⟩:=XP.cells (x:=⟨k,op,0,0,[],[]⟩) (v1:=.slice none 0 0) (v2:=.slice none 0 0) x1'
 obtain⟨r0,r1,r2,r3,r4,r5⟩:=hds.xb.cells
 simp only at r0 r1 r2 r3 p0 p1 p2 p3
 clear hat hop' hq hds hX hb ho hl x1' hk2
 go_enter Tryz.func169,Tryz.ntmps169
 go_wp2_with fail
 rw [← hW0] at *
 refine(Zbn _ _).mono ?_
 rintro e W1 ⟨rfl,rfl⟩
 clear hW0 p0 p1 p2 p3 p4 p5 r0 r1 r2 r3 r4 r5 y0 hwo hw1 hk0 hk3 ho9 Y0
 have hzc:Zad op=0∨Zad op=1∨Zad op=2∨Zad op=3∨Zad op=4∨Zad op=5∨Zad op=6∨Zad op=7:=by
  have:=Zb2 op
  omega
 go_upto_block 0 with fail
 go_cut [9,10,11,12] from 44 to 156 (fun s9 s10 s11 s12 wx=>Hid (Fin w l (.slice (some ⟨b,o,none⟩) l.length c) X wx))
 case first =>
  obtain⟨r0,r1,r2,r3,r4,r5⟩:=HDS.out.xb.cells
  have rf:=HDS.out.xb.free
  simp only at r0 r1 r2 r3
  have HBY:=Lh (Za9 H0.out)
  have HQB:=Lh (show ∀ c∈q,B8 c by rw [← HQ.out];exact fun c hc=>HBY.out c (List.mem_of_mem_drop hc))
  rcases hzc with hz | hz | hz | hz | hz | hz | hz | hz
  ·have hX:=HX.out
   unfold insM at hX
   simp [hz] at hX
   have HXZ:=Lh hX
   clear hX
   rw [hz]
   clear hz
   go_wp2_with fail
   go_meet
   refine Lh ?_
   rw [← HXZ.out]
   exact⟨_,_,HDS.out⟩
  ·have hX:=HX.out
   unfold insM at hX
   simp [hz] at hX
   have HXZ:=Lh hX
   clear hX
   rw [hz]
   clear hz
   go_wp2_with fail
   refine(Za2 w _ (w.heap.size+1+1) l (.slice (some ⟨b,o,none⟩) l.length c) (q,false) 1 false (by unfold Siz;simp) HDS.out.dr H0.out HLL.out HDS.out.ext HDS.out.hg).mono ?_
   rintro e w_N1 hp
   obtain⟨rfl,hs⟩:=HDS.out.read hp
   have N1:=Lh hs
   clear hp hs r0 r1 r2 r3 r4 r5 rf
   obtain⟨r0,r1,r2,r3,r4,r5⟩:=N1.out.xb.cells
   have rf:=N1.out.xb.free
   simp only at r0 r1 r2 r3
   have N2:=Lh (N1.out.set2 (rdN false 1 false (q,false)).1)
   go_wp2_with fail
   go_meet
   refine Lh ?_
   rw [← HXZ.out]
   exact⟨_,_,N2.out⟩
  ·have hX:=HX.out
   unfold insM at hX
   simp [hz] at hX
   have HXZ:=Lh hX
   clear hX
   rw [hz]
   clear hz
   go_wp2_with fail
   refine(Za2 w _ (w.heap.size+1+1) l (.slice (some ⟨b,o,none⟩) l.length c) (q,false) 2 true (by unfold Siz;simp) HDS.out.dr H0.out HLL.out HDS.out.ext HDS.out.hg).mono ?_
   rintro e w_N1 hp
   obtain⟨rfl,hs⟩:=HDS.out.read hp
   have N1:=Lh hs
   clear hp hs r0 r1 r2 r3 r4 r5 rf
   obtain⟨r0,r1,r2,r3,r4,r5⟩:=N1.out.xb.cells
   have rf:=N1.out.xb.free
   simp only at r0 r1 r2 r3
   have N2:=Lh (N1.out.set2 (rdN false 2 true (q,false)).1)
   go_wp2_with fail
   go_meet
   refine Lh ?_
   rw [← HXZ.out]
   exact⟨_,_,N2.out⟩
  ·have hX:=HX.out
   unfold insM at hX
   simp [hz] at hX
   have HXZ:=Lh hX
   clear hX
   rw [hz]
   clear hz
   go_wp2_with fail
   refine(Za2 w _ (w.heap.size+1+1) l (.slice (some ⟨b,o,none⟩) l.length c) (q,false) 2 false (by unfold Siz;simp) HDS.out.dr H0.out HLL.out HDS.out.ext HDS.out.hg).mono ?_
   rintro e w_N1 hp
   obtain⟨rfl,hs⟩:=HDS.out.read hp
   have N1:=Lh hs
   clear hp hs r0 r1 r2 r3 r4 r5 rf
   obtain⟨r0,r1,r2,r3,r4,r5⟩:=N1.out.xb.cells
   have rf:=N1.out.xb.free
   simp only at r0 r1 r2 r3
   have N2:=Lh (N1.out.set2 (rdN false 2 false (q,false)).1)
   go_wp2_with fail
   go_meet
   refine Lh ?_
   rw [← HXZ.out]
   exact⟨_,_,N2.out⟩
  ·have hX:=HX.out
   unfold insM at hX
   simp [hz] at hX
   have HXZ:=Lh hX
   clear hX
   rw [hz]
   clear hz
   have hbd:=ZaS (st:=false) (en:=false) (s:=2) (sg:=true) (l:=q) (by unfold Siz;simp) HQB.out
   have hK:=HKO.out
   have hwf:=Zc7 (x:=(k:Int)+(rdN false 2 true (q,false)).1) (by omega) (by omega)
   have hwk:IntKind.i64.wrap ((k:Int)+(rdN false 2 true (q,false)).1)=k+(rdN false 2 true (q,false)).1:=by rw [IntKind.wrap_i64];omega
   have HWC:=Lh (show ∀ W,Ext W1 W→Calls Tryz.prog 207 #[.pointer (some ⟨(w.heap.size+1+1),0,none⟩),.int .i64 2,.bool true] W (DRet W (w.heap.size+1+1) (.slice (some ⟨b,o,none⟩) l.length c) l (rdN false 2 true (q,false))) from fun W e=>Za2 w W (w.heap.size+1+1) l (.slice (some ⟨b,o,none⟩) l.length c) (q,false) 2 true (by unfold Siz;simp) (HDS.out.dr.ext e) H0.out HLL.out (HDS.out.ext.trans e) HDS.out.hg)
   clear hbd hK
   go_wp2_with fail
   go_region_law (first
    | ((refine ZaA rfl 207 _ _ rfl #[.pointer (some ⟨w.heap.size+1+1,0,none⟩),.int .i64 2,.bool true] (by simp [go_sem]) (by simp [go_sem]) ?_);((with_reducible refine(HWC.out _ (Ext.refl W1).drew).mono ?_);rintro e w1 hp1);obtain⟨rfl,hs1⟩:=HDS.out.drew.read hp1;refine⟨_,rfl,?_⟩;have z41:=hs1.xb.cells.2.2.2.2.1;have z41a:=fun o=>(hs1.alloc o).xb.cells.2.2.2.2.1)
    | ((refine ZaM rfl _ _ w.heap.size 161 3 _ 8 .i64 rfl Tryz.underlying161 Zef rfl (by omega) (.slice none 0 0) [] rfl (hs1.alloc _).o1 _ [(k:Int)+(rdN false 2 true (q,false)).1] rfl (Row.built1 _ _ _ _ hwf) (by simp only [List.length_singleton];simp) (by have:=hs1.le;simp;omega) ?_);intro v5 w5 ho5 hgr5 hb5;obtain⟨hs5,z45,f45⟩:=(hs1.alloc _).app1 ho5 hgr5 hb5;obtain⟨A5,n5,k5,rfl⟩:=ho5.slice))
   all_goals
    have N5:=Lh hs5
    go_wp2_with fail
    go_meet
    refine Lh ?_
    rw [← HXZ.out]
    exact⟨_,_,N5.out⟩
  ·have hX:=HX.out
   unfold insM at hX
   simp [hz] at hX
   have HXZ:=Lh hX
   clear hX
   rw [hz]
   clear hz
   go_wp2_with fail
   refine(Za2 w _ (w.heap.size+1+1) l (.slice (some ⟨b,o,none⟩) l.length c) (q,false) 1 false (by unfold Siz;simp) HDS.out.dr H0.out HLL.out HDS.out.ext HDS.out.hg).mono ?_
   rintro e w_N1 hp
   obtain⟨rfl,hs⟩:=HDS.out.read hp
   have N1:=Lh hs
   clear hp hs r0 r1 r2 r3 r4 r5 rf
   obtain⟨r0,r1,r2,r3,r4,r5⟩:=N1.out.xb.cells
   have rf:=N1.out.xb.free
   simp only at r0 r1 r2 r3
   have N2:=Lh (N1.out.set2 (rdN false 1 false (q,false)).1)
   obtain⟨r0',r1',r2',r3',r4',r5'⟩:=N2.out.xb.cells
   go_wp2_with fail
   refine(Za2 w _ (w.heap.size+1+1) l (.slice (some ⟨b,o,none⟩) l.length c) (rdN false 1 false (q,false)).2 1 true (by unfold Siz;simp) N2.out.dr H0.out HLL.out N2.out.ext N2.out.hg).mono ?_
   rintro e w_N3 hp
   obtain⟨rfl,hs⟩:=N2.out.read hp
   have N3:=Lh hs
   clear hp hs r0 r1 r2 r3 r4 r5 rf r0' r1' r2' r3' r4' r5'
   obtain⟨r0,r1,r2,r3,r4,r5⟩:=N3.out.xb.cells
   have rf:=N3.out.xb.free
   simp only at r0 r1 r2 r3
   have N4:=Lh (N3.out.set3 (rdN false 1 true (rdN false 1 false (q,false)).2).1)
   go_wp2_with fail
   go_meet
   refine Lh ?_
   rw [← HXZ.out]
   exact⟨_,_,N4.out⟩
  ·have hX:=HX.out
   unfold insM at hX
   simp [hz] at hX
   generalize hrr1:rdN false 2 true (q,false)=rr1 at hX
   generalize hrr2:rdN false 4 true rr1.2=rr2 at hX
   generalize hrr3:rdN false 2 false rr2.2=rr3 at hX
   generalize hY:rdT false (k:Int) rr3.1.toNat rr3.2=Y at hX
   have HXZ:=Lh hX
   clear hX
   rw [hz]
   clear hz
   have HR2:=Lh hrr2
   have HR3:=Lh hrr3
   have hbd:=ZaS (st:=false) (en:=false) (s:=2) (sg:=true) (l:=q) (by unfold Siz;simp) HQB.out
   rw [hrr1] at hbd
   have hK:=HKO.out
   have hwf:=Zc7 (x:=(k:Int)+rr1.1) (by omega) (by omega)
   have hwk:IntKind.i64.wrap ((k:Int)+rr1.1)=k+rr1.1:=by rw [IntKind.wrap_i64];omega
   have HWC:=Lh (show ∀ W,Ext W1 W→Calls Tryz.prog 207 #[.pointer (some ⟨(w.heap.size+1+1),0,none⟩),.int .i64 2,.bool true] W (DRet W (w.heap.size+1+1) (.slice (some ⟨b,o,none⟩) l.length c) l (rdN false 2 true (q,false))) from fun W e=>Za2 w W (w.heap.size+1+1) l (.slice (some ⟨b,o,none⟩) l.length c) (q,false) 2 true (by unfold Siz;simp) (HDS.out.dr.ext e) H0.out HLL.out (HDS.out.ext.trans e) HDS.out.hg)
   rw [hrr1] at HWC
   have HY:=Lh hY
   clear hbd hK hrr1 hrr2 hrr3 hY
   go_wp2_with fail
   go_cut [89] from 81 to 88 (fun s wx=>∃ u,Hid (DS w wx (w.heap.size+1) (w.heap.size+1+1) w.heap.size ⟨k,op,0,0,[(k:Int)+rr1.1],[]⟩ u (.slice none 0 0) (.slice (some ⟨b,o,none⟩) l.length c) l rr1.2))
   case first =>
    go_region_law (first
     | ((refine ZaA rfl 207 _ _ rfl #[.pointer (some ⟨w.heap.size+1+1,0,none⟩),.int .i64 2,.bool true] (by simp [go_sem]) (by simp [go_sem]) ?_);((with_reducible refine(HWC.out _ (Ext.refl W1).drew).mono ?_);rintro e w1 hp1);obtain⟨rfl,hs1⟩:=HDS.out.drew.read hp1;refine⟨_,rfl,?_⟩;have z41:=hs1.xb.cells.2.2.2.2.1;have z41a:=fun o=>(hs1.alloc o).xb.cells.2.2.2.2.1)
     | ((refine ZaM rfl _ _ w.heap.size 161 3 _ 8 .i64 rfl Tryz.underlying161 Zef rfl (by omega) (.slice none 0 0) [] rfl (hs1.alloc _).o1 _ [(k:Int)+rr1.1] rfl (Row.built1 _ _ _ _ hwf) (by simp only [List.length_singleton];simp) (by have:=hs1.le;simp;omega) ?_);intro v5 w5 ho5 hgr5 hb5;obtain⟨hs5,z45,f45⟩:=(hs1.alloc _).app1 ho5 hgr5 hb5;obtain⟨A5,n5,k5,rfl⟩:=ho5.slice))
    all_goals
     go_wp2_with fail
     go_meet
     exact⟨_,Lh hs5⟩
   case rest =>
    obtain⟨u,N1⟩:=hcut
    clear HWC hwf hwk r0 r1 r2 r3 r4 r5 rf
    obtain⟨r0,r1,r2,r3,r4,r5⟩:=N1.out.xb.cells
    have rf:=N1.out.xb.free
    simp only at r0 r1 r2 r3
    go_wp2_with fail
    refine(Za2 w _ (w.heap.size+1+1) l (.slice (some ⟨b,o,none⟩) l.length c) rr1.2 4 true (by unfold Siz;simp) N1.out.dr H0.out HLL.out N1.out.ext N1.out.hg).mono ?_
    rw [HR2.out]
    rintro e w_N2 hp
    obtain⟨rfl,hs⟩:=N1.out.read hp
    have N2:=Lh hs
    clear hp hs r0 r1 r2 r3 r4 r5 rf
    obtain⟨r0,r1,r2,r3,r4,r5⟩:=N2.out.xb.cells
    have rf:=N2.out.xb.free
    simp only at r0 r1 r2 r3
    have N3:=Lh (N2.out.set2 rr2.1)
    go_wp2_with fail
    refine(Za2 w _ (w.heap.size+1+1) l (.slice (some ⟨b,o,none⟩) l.length c) rr2.2 2 false (by unfold Siz;simp) N3.out.dr H0.out HLL.out N3.out.ext N3.out.hg).mono ?_
    rw [HR3.out]
    rintro e w_N4 hp
    obtain⟨rfl,hs⟩:=N3.out.read hp
    have N4:=Lh hs
    have hbn:=ZnP (en:=rr2.2.2) (N3.out.dr.bytes HBY.out)
    rw [show (rr2.2.1,rr2.2.2)=rr2.2 from rfl,HR3.out] at hbn
    obtain⟨n,hn⟩:∃ n:Nat,rr3.1=n:=⟨rr3.1.toNat,by omega⟩
    have HYY:=Lh (show CT k Y n [] rr3.2 by have e:=HY.out;rw [hn,Int.toNat_natCast] at e;unfold CT;rw [← e];simp)
    have hn6:n≤65535:=by omega
    rw [hn]
    clear hp hs hbn hn r0 r1 r2 r3 r4 r5 rf
    go_wp2_with fail
    go_loopw [10] (fun i wr=>∃ (j:Nat) (L:List Int) (u:Value) (p:List Int × Bool),i=.int .i64 j∧j≤n∧L.length=j∧Hid (DS w wr (w.heap.size+1) (w.heap.size+1+1) w.heap.size ⟨k,op,rr2.1,0,[(k:Int)+rr1.1]++L,[]⟩ u (.slice none 0 0) (.slice (some ⟨b,o,none⟩) l.length c) l p)∧Hid (CT k Y (n-j) L p)) (fun i _=>n-(intOf i).toNat)
    case atStart=>exact⟨0,[],_,rr3.2,rfl,by omega,rfl,N4,HYY⟩
    case round =>
     obtain⟨j,L,u9,p,rfl,hj,hL,N9,HC⟩:=hrel
     obtain⟨r0,r1,r2,r3,r4,r5⟩:=N9.out.xb.cells
     obtain⟨ap,hnr,-,-⟩:=id N9.out.dr
     obtain⟨s0,s1,s2,-,-,-⟩:=hnr.cells
     simp only at r0 r1 r2 r3
     have HLj:=Lh hL
     clear hnr hL
     by_cases hlt:j<n∧p.2=false
     ·have hpf:=hlt.2
      have hjn:(j:Int)<n:=by have:=hlt.1;omega
      have HLT:=Lh hlt
      rw [hpf] at s2
      obtain⟨rr,hrr⟩:∃ rr,rdN false 2 true p=rr:=⟨_,rfl⟩
      have hbd:=ZaS (st:=false) (en:=p.2) (s:=2) (sg:=true) (l:=p.1) (by unfold Siz;simp) (N9.out.dr.bytes HBY.out)
      rw [show (p.1,p.2)=p from rfl,hrr] at hbd
      have hK:=HKO.out
      have hwf:=Zc7 (x:=(k:Int)+rr.1) (by omega) (by omega)
      have hwk:IntKind.i64.wrap ((k:Int)+rr.1)=k+rr.1:=by rw [IntKind.wrap_i64];omega
      have HWC:=Lh (show ∀ W,Ext wr W→Calls Tryz.prog 207 #[.pointer (some ⟨(w.heap.size+1+1),0,none⟩),.int .i64 2,.bool true] W (DRet W (w.heap.size+1+1) (.slice (some ⟨b,o,none⟩) l.length c) l (rdN false 2 true p)) from fun W e=>Za2 w W (w.heap.size+1+1) l (.slice (some ⟨b,o,none⟩) l.length c) p 2 true (by unfold Siz;simp) (N9.out.dr.ext e) H0.out HLL.out (N9.out.ext.trans e) N9.out.hg)
      rw [hrr] at HWC
      have HRR:=Lh hrr
      have hlb:([(k:Int)+rr1.1]++L).length+1≤100000:=by have:=HLj.out;have:=hlt.1;simp;omega
      clear hbd hK hrr hlt hpf s0 s1
      go_wp2_with fail
      clear s2
      go_region_law (first
       | ((refine ZaA rfl 207 _ _ rfl #[.pointer (some ⟨w.heap.size+1+1,0,none⟩),.int .i64 2,.bool true] (by simp [go_sem]) (by simp [go_sem]) ?_);((with_reducible refine(HWC.out _ (Ext.refl wr).drew).mono ?_);rintro e w1 hp1);obtain⟨rfl,hs1⟩:=N9.out.drew.read hp1;refine⟨_,rfl,?_⟩;have z41:=hs1.xb.cells.2.2.2.2.1;have z41a:=fun o=>(hs1.alloc o).xb.cells.2.2.2.2.1)
       | ((refine ZaM rfl _ _ w.heap.size 161 3 _ 8 .i64 rfl Tryz.underlying161 Zef rfl (by omega) u9 ([(k:Int)+rr1.1]++L) rfl (hs1.alloc _).o1 _ [(k:Int)+rr.1] rfl (Row.built1 _ _ _ _ hwf) (by simp only [List.length_singleton];omega) (by have:=hs1.le;simp;omega) ?_);intro v5 w5 ho5 hgr5 hb5;obtain⟨hs5,z45,f45⟩:=(hs1.alloc _).app1 ho5 hgr5 hb5;obtain⟨A5,n5,k5,rfl⟩:=ho5.slice))
      all_goals
       have N8:=Lh hs5
       clear HWC hwf hwk hlb hs5 hp1 hs1 z41 z41a ho5 hgr5 hb5 z45 f45
       go_wp2_with fail
       go_roundw
       case rel =>
        have hl1:=HLT.out.1
        have hc:=HC.out
        rw [show n-j=(n-(j+1))+1 by omega] at hc
        have hc2:=hc.next HLT.out.2
        rw [HRR.out] at hc2
        have h8:=N8
        rw [List.append_assoc] at h8
        exact⟨j+1,L++[(k:Int)+rr.1],_,rr.2,by go_num,by omega,by rw [List.length_append,HLj.out];rfl,h8,Lh hc2⟩
       case measure=>simp [intOf];have:=HLT.out.1;omega
     ·have he:n-j=0∨p.2=true:=by
       by_cases h:j<n
       ·exact .inr (by simpa using fun e=>hlt ⟨h,e⟩)
       ·exact .inl (by omega)
      have HE:=Lh (HC.out.end_ he)
      have hcs:¬ (j:Int)<n∨((j:Int)<n∧p.2=true):=by
       by_cases h:j<n
       ·exact .inr ⟨by omega,by simpa using fun e=>hlt ⟨h,e⟩⟩
       ·exact .inl (by omega)
      clear hlt he s0 s1
      rcases hcs with hcs | ⟨hcs,hpt⟩
      ·skip
       go_wp2_with fail
       go_meet
       refine Lh ?_
       rw [← HXZ.out,HE.out]
       exact⟨_,_,N9.out⟩
      ·rw [hpt] at s2
       clear hpt
       go_wp2_with fail
       go_meet
       refine Lh ?_
       rw [← HXZ.out,HE.out]
       exact⟨_,_,N9.out⟩
  ·have hX:=HX.out
   unfold insM at hX
   simp [hz] at hX
   generalize hrr1:rdN false 2 true (q,false)=rr1 at hX
   generalize hrr3:rdN false 2 false rr1.2=rr3 at hX
   generalize hY:rdK false (k:Int) rr3.1.toNat rr3.2=Y at hX
   have HXZ:=Lh hX
   clear hX
   rw [hz]
   clear hz
   have HR3:=Lh hrr3
   have hbd:=ZaS (st:=false) (en:=false) (s:=2) (sg:=true) (l:=q) (by unfold Siz;simp) HQB.out
   rw [hrr1] at hbd
   have hK:=HKO.out
   have hwf:=Zc7 (x:=(k:Int)+rr1.1) (by omega) (by omega)
   have hwk:IntKind.i64.wrap ((k:Int)+rr1.1)=k+rr1.1:=by rw [IntKind.wrap_i64];omega
   have HWC:=Lh (show ∀ W,Ext W1 W→Calls Tryz.prog 207 #[.pointer (some ⟨(w.heap.size+1+1),0,none⟩),.int .i64 2,.bool true] W (DRet W (w.heap.size+1+1) (.slice (some ⟨b,o,none⟩) l.length c) l (rdN false 2 true (q,false))) from fun W e=>Za2 w W (w.heap.size+1+1) l (.slice (some ⟨b,o,none⟩) l.length c) (q,false) 2 true (by unfold Siz;simp) (HDS.out.dr.ext e) H0.out HLL.out (HDS.out.ext.trans e) HDS.out.hg)
   rw [hrr1] at HWC
   have HY:=Lh hY
   clear hbd hK hrr1 hrr3 hY
   go_wp2_with fail
   go_cut [126] from 118 to 125 (fun s wx=>∃ u,Hid (DS w wx (w.heap.size+1) (w.heap.size+1+1) w.heap.size ⟨k,op,0,0,[(k:Int)+rr1.1],[]⟩ u (.slice none 0 0) (.slice (some ⟨b,o,none⟩) l.length c) l rr1.2))
   case first =>
    go_region_law (first
     | ((refine ZaA rfl 207 _ _ rfl #[.pointer (some ⟨w.heap.size+1+1,0,none⟩),.int .i64 2,.bool true] (by simp [go_sem]) (by simp [go_sem]) ?_);((with_reducible refine(HWC.out _ (Ext.refl W1).drew).mono ?_);rintro e w1 hp1);obtain⟨rfl,hs1⟩:=HDS.out.drew.read hp1;refine⟨_,rfl,?_⟩;have z41:=hs1.xb.cells.2.2.2.2.1;have z41a:=fun o=>(hs1.alloc o).xb.cells.2.2.2.2.1)
     | ((refine ZaM rfl _ _ w.heap.size 161 3 _ 8 .i64 rfl Tryz.underlying161 Zef rfl (by omega) (.slice none 0 0) [] rfl (hs1.alloc _).o1 _ [(k:Int)+rr1.1] rfl (Row.built1 _ _ _ _ hwf) (by simp only [List.length_singleton];simp) (by have:=hs1.le;simp;omega) ?_);intro v5 w5 ho5 hgr5 hb5;obtain⟨hs5,z45,f45⟩:=(hs1.alloc _).app1 ho5 hgr5 hb5;obtain⟨A5,n5,k5,rfl⟩:=ho5.slice))
    all_goals
     go_wp2_with fail
     go_meet
     exact⟨_,Lh hs5⟩
   case rest =>
    obtain⟨u,N1⟩:=hcut
    clear HWC hwf hwk r0 r1 r2 r3 r4 r5 rf
    obtain⟨r0,r1,r2,r3,r4,r5⟩:=N1.out.xb.cells
    have rf:=N1.out.xb.free
    simp only at r0 r1 r2 r3
    go_wp2_with fail
    refine(Za2 w _ (w.heap.size+1+1) l (.slice (some ⟨b,o,none⟩) l.length c) rr1.2 2 false (by unfold Siz;simp) N1.out.dr H0.out HLL.out N1.out.ext N1.out.hg).mono ?_
    rw [HR3.out]
    rintro e w_N4 hp
    obtain⟨rfl,hs⟩:=N1.out.read hp
    have N4:=Lh hs
    have hbn:=ZnP (en:=rr1.2.2) (N1.out.dr.bytes HBY.out)
    rw [show (rr1.2.1,rr1.2.2)=rr1.2 from rfl,HR3.out] at hbn
    obtain⟨n,hn⟩:∃ n:Nat,rr3.1=n:=⟨rr3.1.toNat,by omega⟩
    have HYY:=Lh (show CK k Y n [] [] rr3.2 by have e:=HY.out;rw [hn,Int.toNat_natCast] at e;unfold CK;rw [← e];simp)
    have hn6:n≤65535:=by omega
    rw [hn]
    clear hp hs hbn hn r0 r1 r2 r3 r4 r5 rf
    go_wp2_with fail
    go_loopw [12] (fun i wr=>∃ (j:Nat) (L M:List Int) (u u2:Value) (p:List Int × Bool),i=.int .i64 j∧j≤n∧L.length=j∧M.length=j∧Hid (DS w wr (w.heap.size+1) (w.heap.size+1+1) w.heap.size ⟨k,op,0,0,[(k:Int)+rr1.1]++M,L⟩ u u2 (.slice (some ⟨b,o,none⟩) l.length c) l p)∧Hid (CK k Y (n-j) L M p)) (fun i _=>n-(intOf i).toNat)
    case atStart=>exact⟨0,[],[],_,_,rr3.2,rfl,by omega,rfl,rfl,N4,HYY⟩
    case round =>
     obtain⟨j,L,M,u9,u8,p,rfl,hj,hL,hM,N9,HC⟩:=hrel
     obtain⟨r0,r1,r2,r3,r4,r5⟩:=N9.out.xb.cells
     obtain⟨ap,hnr,-,-⟩:=id N9.out.dr
     obtain⟨s0,s1,s2,-,-,-⟩:=hnr.cells
     simp only at r0 r1 r2 r3
     have HLj:=Lh hL
     have HMj:=Lh hM
     clear hnr hL hM
     by_cases hlt:j<n∧p.2=false
     ·have hpf:=hlt.2
      have hjn:(j:Int)<n:=by have:=hlt.1;omega
      have HLT:=Lh hlt
      rw [hpf] at s2
      obtain⟨rr,hrr⟩:∃ rr,rdN false 4 true p=rr:=⟨_,rfl⟩
      have hbd:=ZaS (st:=false) (en:=p.2) (s:=4) (sg:=true) (l:=p.1) (by unfold Siz;simp) (N9.out.dr.bytes HBY.out)
      rw [show (p.1,p.2)=p from rfl,hrr] at hbd
      have hwf:=Zc7 (x:=rr.1) (by omega) (by omega)
      have HWC:=Lh (show ∀ W,Ext wr W→Calls Tryz.prog 207 #[.pointer (some ⟨(w.heap.size+1+1),0,none⟩),.int .i64 4,.bool true] W (DRet W (w.heap.size+1+1) (.slice (some ⟨b,o,none⟩) l.length c) l (rdN false 4 true p)) from fun W e=>Za2 w W (w.heap.size+1+1) l (.slice (some ⟨b,o,none⟩) l.length c) p 4 true (by unfold Siz;simp) (N9.out.dr.ext e) H0.out HLL.out (N9.out.ext.trans e) N9.out.hg)
      rw [hrr] at HWC
      have HRR:=Lh hrr
      have hlb:L.length+1≤100000:=by have:=HLj.out;have:=hlt.1;omega
      clear hbd hrr hlt hpf s0 s1
      go_wp2_with fail
      clear s2
      go_cut [147] from 129 to 146 (fun s wx=>∃ u,Hid (DS w wx (w.heap.size+1) (w.heap.size+1+1) w.heap.size ⟨k,op,0,0,[(k:Int)+rr1.1]++M,L++[rr.1]⟩ u9 u (.slice (some ⟨b,o,none⟩) l.length c) l rr.2))
      case first =>
       go_region_law (first
        | ((refine ZaA rfl 207 _ _ rfl #[.pointer (some ⟨w.heap.size+1+1,0,none⟩),.int .i64 4,.bool true] (by simp [go_sem]) (by simp [go_sem]) ?_);((with_reducible refine(HWC.out _ (Ext.refl wr).drew).mono ?_);rintro e w1 hp1);obtain⟨rfl,hs1⟩:=N9.out.drew.read hp1;refine⟨_,rfl,?_⟩;have z41:=hs1.xb.cells.2.2.2.2.2;have z41a:=fun o=>(hs1.alloc o).xb.cells.2.2.2.2.2)
        | ((refine ZaM rfl _ _ w.heap.size 161 3 _ 8 .i64 rfl Tryz.underlying161 Zef rfl (by omega) u8 L rfl (hs1.alloc _).o2 _ [rr.1] rfl (Row.built1 _ _ _ _ hwf) (by simp only [List.length_singleton];omega) (by have:=hs1.le;simp;omega) ?_);intro v5 w5 ho5 hgr5 hb5;obtain⟨hs5,z45,f45⟩:=(hs1.alloc _).app2 ho5 hgr5 hb5;obtain⟨A5,n5,k5,rfl⟩:=ho5.slice))
       all_goals
        go_wp2_with fail
        go_meet
        exact⟨_,Lh hs5⟩
      case rest =>
       obtain⟨u7,N8⟩:=hcut
       clear HWC hwf hlb r0 r1 r2 r3 r4 r5
       obtain⟨r0,r1,r2,r3,r4,r5⟩:=N8.out.xb.cells
       simp only at r0 r1 r2 r3
       obtain⟨rs,hrs⟩:∃ rs,rdN false 2 true rr.2=rs:=⟨_,rfl⟩
       have hbd:=ZaS (st:=false) (en:=rr.2.2) (s:=2) (sg:=true) (l:=rr.2.1) (by unfold Siz;simp) (N8.out.dr.bytes HBY.out)
       rw [show (rr.2.1,rr.2.2)=rr.2 from rfl,hrs] at hbd
       have hK:=HKO.out
       have hwf:=Zc7 (x:=(k:Int)+rs.1) (by omega) (by omega)
       have hwk:IntKind.i64.wrap ((k:Int)+rs.1)=k+rs.1:=by rw [IntKind.wrap_i64];omega
       have HWC:=Lh (show ∀ W,Ext wc W→Calls Tryz.prog 207 #[.pointer (some ⟨(w.heap.size+1+1),0,none⟩),.int .i64 2,.bool true] W (DRet W (w.heap.size+1+1) (.slice (some ⟨b,o,none⟩) l.length c) l (rdN false 2 true rr.2)) from fun W e=>Za2 w W (w.heap.size+1+1) l (.slice (some ⟨b,o,none⟩) l.length c) rr.2 2 true (by unfold Siz;simp) (N8.out.dr.ext e) H0.out HLL.out (N8.out.ext.trans e) N8.out.hg)
       rw [hrs] at HWC
       have HRS:=Lh hrs
       have hlb:([(k:Int)+rr1.1]++M).length+1≤100000:=by have:=HMj.out;have:=HLT.out.1;simp;omega
       clear hbd hK hrs
       go_wp2_with fail
       go_region_law (first
        | ((refine ZaA rfl 207 _ _ rfl #[.pointer (some ⟨w.heap.size+1+1,0,none⟩),.int .i64 2,.bool true] (by simp [go_sem]) (by simp [go_sem]) ?_);((with_reducible refine(HWC.out _ (Ext.refl wc).drew).mono ?_);rintro e w1 hp1);obtain⟨rfl,hs1⟩:=N8.out.drew.read hp1;refine⟨_,rfl,?_⟩;have z41:=hs1.xb.cells.2.2.2.2.1;have z41a:=fun o=>(hs1.alloc o).xb.cells.2.2.2.2.1)
        | ((refine ZaM rfl _ _ w.heap.size 161 3 _ 8 .i64 rfl Tryz.underlying161 Zef rfl (by omega) u9 ([(k:Int)+rr1.1]++M) rfl (hs1.alloc _).o1 _ [(k:Int)+rs.1] rfl (Row.built1 _ _ _ _ hwf) (by simp only [List.length_singleton];omega) (by have:=hs1.le;simp;omega) ?_);intro v5 w5 ho5 hgr5 hb5;obtain⟨hs5,z45,f45⟩:=(hs1.alloc _).app1 ho5 hgr5 hb5;obtain⟨A5,n5,k5,rfl⟩:=ho5.slice))
       all_goals
        have N7:=Lh hs5
        clear HWC hwf hwk hlb hs5 hp1 hs1 z41 z41a ho5 hgr5 hb5 z45 f45
        go_wp2_with fail
        go_roundw
        case rel =>
         have hl1:=HLT.out.1
         have hc:=HC.out
         rw [show n-j=(n-(j+1))+1 by omega] at hc
         have hc2:=hc.next HLT.out.2
         rw [HRR.out,HRS.out] at hc2
         have h8:=N7
         rw [List.append_assoc] at h8
         exact⟨j+1,L++[rr.1],M++[(k:Int)+rs.1],_,_,rs.2,by go_num,by omega,by rw [List.length_append,HLj.out];rfl,by rw [List.length_append,HMj.out];rfl,h8,Lh hc2⟩
        case measure=>simp [intOf];have:=HLT.out.1;omega
     ·have he:n-j=0∨p.2=true:=by
       by_cases h:j<n
       ·exact .inr (by simpa using fun e=>hlt ⟨h,e⟩)
       ·exact .inl (by omega)
      have HE:=Lh (HC.out.end_ he)
      have hcs:¬ (j:Int)<n∨((j:Int)<n∧p.2=true):=by
       by_cases h:j<n
       ·exact .inr ⟨by omega,by simpa using fun e=>hlt ⟨h,e⟩⟩
       ·exact .inl (by omega)
      clear hlt he s0 s1
      rcases hcs with hcs | ⟨hcs,hpt⟩
      ·skip
       go_wp2_with fail
       go_meet
       refine Lh ?_
       rw [← HXZ.out,HE.out]
       exact⟨_,_,N9.out⟩
      ·rw [hpt] at s2
       clear hpt
       go_wp2_with fail
       go_meet
       refine Lh ?_
       rw [← HXZ.out,HE.out]
       exact⟨_,_,N9.out⟩
 case rest =>
  obtain⟨⟨xa,xo,xn,xm,xt,xk⟩,qr,en⟩:=X
  obtain⟨u1,u2,hs⟩:=hcut
  simp only at hs
  obtain⟨B1,n1,c1,rfl⟩:=hs.o1.slice
  obtain⟨B2,n2,c2,rfl⟩:=hs.o2.slice
  obtain⟨z0,z1,z2,z3,z4,z5⟩:=hs.xb.cells
  obtain⟨t0,t1,t2,t3,t4,t5⟩:=hs.rc.cells
  have tf:=hs.rc.free
  simp only [i0] at t0 t1 t2 t3
  simp only at z0 z1 z2 z3
  obtain⟨a',hn,hal,hdr⟩:=id hs.dr
  simp only at hn hdr
  obtain⟨y0,y1,y2,-,-,-⟩:=hn.cells
  have hx0:=hs.ext
  have hrc:=hs.rc
  have HSS:=Lh hs
  have HNX:=Lh (ZmK hal hdr)
  clear hn hal hdr hs
  cases en
  ·have HBO:=Lh (Zm6 HX.out)
   have hmb:=Zlv ⟨xa,xo,xn,xm,xt,xk⟩ (.slice B1 n1 c1) (.slice B2 n2 c2) wc HSS.out.o1.row HSS.out.o2.row
   unfold In.vals at hmb
   have HMB:=Lh hmb
   clear hmb
   go_wp2_with fail
   refine HMB.out.mono ?_
   rintro e w4 ⟨rfl,x4⟩
   have hs4:=HSS.out.later x4
   clear z0 z1 z2 z3 z4 z5 t0 t1 t2 t3 t4 t5 tf y0 y1 y2
   obtain⟨z0,z1,z2,z3,z4,z5⟩:=hs4.xb.cells
   obtain⟨t0,t1,t2,t3,t4,t5⟩:=hs4.rc.cells
   have tf:=hs4.rc.free
   simp only [i0] at t0 t1 t2 t3
   simp only at z0 z1 z2 z3
   obtain⟨a2,hn,hal,hdr⟩:=id hs4.dr
   simp only at hn hdr
   obtain⟨y0,y1,y2,-,-,-⟩:=hn.cells
   have HNX2:=Lh (ZmK hal hdr)
   clear hal hdr
   by_cases hmm:mayI ⟨xa,xo,xn,xm,xt,xk⟩=true
   ·have HD:=Lh (show decB l (some (⟨xa,xo,xn,xm,xt,xk⟩,qr))=(⟨xa,xo,xn,xm,xt,xk⟩,(l.length:Int)-qr.length,0) by unfold decB;simp [hmm])
    rw [hmm]
    clear hmm
    have hne:¬ w.heap.size+1=w.heap.size:=by omega
    have hne2:¬ w.heap.size+1+1=w.heap.size:=by omega
    have hs5:=Za0 (W:=w4) w.heap.size (.int .i64 xa) (.int .i64 xo) (.int .i64 xn) (.int .i64 xm) (.slice B1 n1 c1) (.slice B2 n2 c2)
    have o15:=hs4.o1.kept hs5 (fun g hg e=>by injection e with e;subst e;exact Zau hs4.o1 hs4.rc (by decide) hg)
    have o25:=hs4.o2.kept hs5 (fun g hg e=>by injection e with e;subst e;exact Zau hs4.o2 hs4.rc (by decide) hg)
    have X5:=hs4.ext.grown hs5 (fun g hg=>by injection hg with hg;omega)
    have hx5:=Ziu hs4.rc ⟨xa,xo,xn,xm,xt,xk⟩ (.slice B1 n1 c1) (.slice B2 n2 c2)
    have hz5:=XP.cells (show XP _ (w.heap.size+1) _ _ _ from(hs5.block (w.heap.size+1) hs4.xb.lt (fun e=>hne (by injection e))).trans hs4.xb)
    have hy5:=(show NR _ (w.heap.size+1+1) _ _ _ from(hs5.block (w.heap.size+1+1) hn.lt (fun e=>hne2 (by injection e))).trans hn).cells.2.1
    obtain⟨e0,e1,e2,e3,e4,e5⟩:=hx5.cells
    obtain⟨f0,f1,f2,f3,f4,f5⟩:=hz5
    simp only at e0 e1 e2 e3 f0 f1 f2 f3
    have E1:(w4.drew.cell? ⟨w.heap.size+1,0,none⟩=some (.int .i64 xa)∧w4.drew.cell? ⟨w.heap.size+1,1,none⟩=some (.int .i64 xo)∧w4.drew.cell? ⟨w.heap.size+1,2,none⟩=some (.int .i64 xn)∧w4.drew.cell? ⟨w.heap.size+1,3,none⟩=some (.int .i64 xm)∧w4.drew.cell? ⟨w.heap.size+1,4,none⟩=some (.slice B1 n1 c1)∧w4.drew.cell? ⟨w.heap.size+1,5,none⟩=some (.slice B2 n2 c2)∧w4.drew.cell? ⟨w.heap.size+1+1,1,none⟩=some (.int .i64 a2)):=⟨(Zam _ _).trans z0,(Zam _ _).trans z1,(Zam _ _).trans z2,(Zam _ _).trans z3,(Zam _ _).trans z4,(Zam _ _).trans z5,(Zam _ _).trans y1⟩
    have E2:(((((((w4.setCell ⟨w.heap.size,0,none⟩ (.int .i64 xa)).setCell ⟨w.heap.size,1,none⟩ (.int .i64 xo)).setCell ⟨w.heap.size,2,none⟩ (.int .i64 xn)).setCell ⟨w.heap.size,3,none⟩ (.int .i64 xm)).setCell ⟨w.heap.size,4,none⟩ (.slice B1 n1 c1)).setCell ⟨w.heap.size,5,none⟩ (.slice B2 n2 c2)).drew.cell? ⟨w.heap.size+1,0,none⟩=some (.int .i64 xa)∧((((((w4.setCell ⟨w.heap.size,0,none⟩ (.int .i64 xa)).setCell ⟨w.heap.size,1,none⟩ (.int .i64 xo)).setCell ⟨w.heap.size,2,none⟩ (.int .i64 xn)).setCell ⟨w.heap.size,3,none⟩ (.int .i64 xm)).setCell ⟨w.heap.size,4,none⟩ (.slice B1 n1 c1)).setCell ⟨w.heap.size,5,none⟩ (.slice B2 n2 c2)).drew.cell? ⟨w.heap.size+1,1,none⟩=some (.int .i64 xo)∧((((((w4.setCell ⟨w.heap.size,0,none⟩ (.int .i64 xa)).setCell ⟨w.heap.size,1,none⟩ (.int .i64 xo)).setCell ⟨w.heap.size,2,none⟩ (.int .i64 xn)).setCell ⟨w.heap.size,3,none⟩ (.int .i64 xm)).setCell ⟨w.heap.size,4,none⟩ (.slice B1 n1 c1)).setCell ⟨w.heap.size,5,none⟩ (.slice B2 n2 c2)).drew.cell? ⟨w.heap.size+1,2,none⟩=some (.int .i64 xn)∧((((((w4.setCell ⟨w.heap.size,0,none⟩ (.int .i64 xa)).setCell ⟨w.heap.size,1,none⟩ (.int .i64 xo)).setCell ⟨w.heap.size,2,none⟩ (.int .i64 xn)).setCell ⟨w.heap.size,3,none⟩ (.int .i64 xm)).setCell ⟨w.heap.size,4,none⟩ (.slice B1 n1 c1)).setCell ⟨w.heap.size,5,none⟩ (.slice B2 n2 c2)).drew.cell? ⟨w.heap.size+1,3,none⟩=some (.int .i64 xm)∧((((((w4.setCell ⟨w.heap.size,0,none⟩ (.int .i64 xa)).setCell ⟨w.heap.size,1,none⟩ (.int .i64 xo)).setCell ⟨w.heap.size,2,none⟩ (.int .i64 xn)).setCell ⟨w.heap.size,3,none⟩ (.int .i64 xm)).setCell ⟨w.heap.size,4,none⟩ (.slice B1 n1 c1)).setCell ⟨w.heap.size,5,none⟩ (.slice B2 n2 c2)).drew.cell? ⟨w.heap.size+1,4,none⟩=some (.slice B1 n1 c1)∧((((((w4.setCell ⟨w.heap.size,0,none⟩ (.int .i64 xa)).setCell ⟨w.heap.size,1,none⟩ (.int .i64 xo)).setCell ⟨w.heap.size,2,none⟩ (.int .i64 xn)).setCell ⟨w.heap.size,3,none⟩ (.int .i64 xm)).setCell ⟨w.heap.size,4,none⟩ (.slice B1 n1 c1)).setCell ⟨w.heap.size,5,none⟩ (.slice B2 n2 c2)).drew.cell? ⟨w.heap.size+1,5,none⟩=some (.slice B2 n2 c2)∧((((((w4.setCell ⟨w.heap.size,0,none⟩ (.int .i64 xa)).setCell ⟨w.heap.size,1,none⟩ (.int .i64 xo)).setCell ⟨w.heap.size,2,none⟩ (.int .i64 xn)).setCell ⟨w.heap.size,3,none⟩ (.int .i64 xm)).setCell ⟨w.heap.size,4,none⟩ (.slice B1 n1 c1)).setCell ⟨w.heap.size,5,none⟩ (.slice B2 n2 c2)).drew.cell? ⟨w.heap.size+1+1,1,none⟩=some (.int .i64 a2)):=⟨(Zam _ _).trans f0,(Zam _ _).trans f1,(Zam _ _).trans f2,(Zam _ _).trans f3,(Zam _ _).trans f4,(Zam _ _).trans f5,(Zam _ _).trans hy5⟩
    have F2:=Zlh ((((((w4.setCell ⟨w.heap.size,0,none⟩ (.int .i64 xa)).setCell ⟨w.heap.size,1,none⟩ (.int .i64 xo)).setCell ⟨w.heap.size,2,none⟩ (.int .i64 xn)).setCell ⟨w.heap.size,3,none⟩ (.int .i64 xm)).setCell ⟨w.heap.size,4,none⟩ (.slice B1 n1 c1)).setCell ⟨w.heap.size,5,none⟩ (.slice B2 n2 c2))
    have HO15:=Lh o15
    have HO25:=Lh o25
    have HX5:=Lh X5
    clear hs4 hn hs5 o15 o25 X5 hx5 hy5 hx0 hrc
    go_wp2_with fail
    go_region_held3 (fun w'=>(w'.cell? ⟨w.heap.size+1,0,none⟩=some (.int .i64 xa)∧w'.cell? ⟨w.heap.size+1,1,none⟩=some (.int .i64 xo)∧w'.cell? ⟨w.heap.size+1,2,none⟩=some (.int .i64 xn)∧w'.cell? ⟨w.heap.size+1,3,none⟩=some (.int .i64 xm)∧w'.cell? ⟨w.heap.size+1,4,none⟩=some (.slice B1 n1 c1)∧w'.cell? ⟨w.heap.size+1,5,none⟩=some (.slice B2 n2 c2)∧w'.cell? ⟨w.heap.size+1+1,1,none⟩=some (.int .i64 a2))) (first | with_reducible exact E1 | with_reducible exact E2) (first | (fail))
    all_goals
     go_wp2
     refine bodyPost_ret (v:=.tuple #[.agg #[.int .i64 xa,.int .i64 xo,.int .i64 xn,.int .i64 xm,.slice B1 n1 c1,.slice B2 n2 c2],.int .i64 a2,.int .i64 0]) (by simp [results,Tryz.results169,go_sem,e0,e1,e2,e3,e4,e5]) rfl ?_
     rw [HBO.out,HD.out,HNX2.out]
     exact Ret.mk ⟨_,_,rfl,HO15.out.ext F2,HO25.out.ext F2⟩ (HX5.out.trans F2)
   ·have hm':mayI ⟨xa,xo,xn,xm,xt,xk⟩=false:=by simpa using hmm
    rw [hm']
    have HD:=Lh (show decB l (some (⟨xa,xo,xn,xm,xt,xk⟩,qr))=(i0,0,4) by unfold decB;simp [hm'])
    clear hmm hm'
    have X6:=Lh hs4.ext
    clear hs4
    go_wp2
    refine bodyPost_ret (v:=.tuple #[.agg #[.int .i64 0,.int .i64 0,.int .i64 0,.int .i64 0,.slice none 0 0,.slice none 0 0],.int .i64 0,.int .i64 4]) (by simp [results,Tryz.results169,go_sem,t0,t1,t2,t3,t4,t5]) rfl ?_
    rw [HBO.out,HD.out]
    refine Ret.mk ⟨_,_,rfl,Own.nil _ _ _ _,Own.nil _ _ _ _⟩ ?_
    exact X6.out.grown (Za0 _ _ _ _ _ _ _) (fun g hg=>by injection hg with hg;omega)
  ·have HBO:=Lh (ZmI HX.out)
   go_wp2
   refine bodyPost_ret (v:=.tuple #[.agg #[.int .i64 0,.int .i64 0,.int .i64 0,.int .i64 0,.slice none 0 0,.slice none 0 0],.int .i64 0,.int .i64 3]) (by simp [results,Tryz.results169,go_sem,t0,t1,t2,t3,t4,t5]) rfl ?_
   rw [HBO.out]
   refine Ret.mk ⟨_,_,rfl,Own.nil _ _ _ _,Own.nil _ _ _ _⟩ ?_
   exact hx0.grown (Za0 _ _ _ _ _ _ _) (fun g hg=>by injection hg with hg;omega)
theorem Zhw (v:Value) (l:List Int) (k:Int) (w:World) (h:Row w .u8 v l) (hl:l.length≤140737488355328) :
 Calls Tryz.prog 169 #[v,.int .i64 k] w (Ret w (Zff w.heap.size (Zas l k))):=by
 by_cases hk:k<0∨(l.length:Int)≤k∨8192≤k
 ·rw [show Zas l k=(i0,0,9) by unfold Zas;rw [if_pos hk]]
  exact ZhR v l k w h hk
 ·obtain⟨n,rfl⟩:∃ n:Nat,k=n:=⟨k.toNat,by omega⟩
  by_cases ho:89<gi l n
  ·rw [Zld (by omega) (by omega),if_pos ho]
   exact Zil v l n w h (by omega) (by omega) ho
  ·exact Zjf v l n w h hl (by omega) (by omega) (by omega)
end Go.Proofs.YtclamhhgldkhnaaGreatDoor
