/- Several texts of this proof, one behind the other. -/
import Derived.Test.YtclamhhgldkhnaaGreatDoorZwT
import Derived.Test.YtclamhhgldkhnaaGreatDoorZwQ
import Derived.Test.YtclamhhgldkhnaaGreatDoorZwD
import Derived.Test.YtclamhhgldkhnaaGreatDoorZwI
import Derived.Test.YtclamhhgldkhnaaGreatDoorZwJ
import Derived.Test.YtclamhhgldkhnaaGreatDoorZwK
import Derived.Test.YtclamhhgldkhnaaGreatDoorZwO
import Derived.Test.YtclamhhgldkhnaaGreatDoorZwP
import Derived.RegionCalls
import Derived.Deep.RegionWith
import Derived.Deep.RegionHeld3
import Derived.Test.YtclamhhgldkhnaaGreatDoorZwC
namespace Go.Proofs.YtclamhhgldkhnaaGreatDoor
open Go.RowKit
set_option linter.unusedVariables false
set_option maxHeartbeats 16000000
def Zfo (l:List UInt8) (w:World) (e:Ending) (w':World):Prop:=∃ v,e=.returned (.tuple #[.agg ((ZaP l).1.vals v),.int .i64 (ZaP l).2])∧OwnT w.heap.size w' 41 v (ZaP l).1.args∧Ext w w'
theorem OwnT.base {B B':Nat} {w:World} {T:TypeId} {v:Value} {l:List TyD} (h:OwnT B w T v l) (hB:B'≤B):OwnT B' w T v l:=by
 obtain⟨⟨h1,h2⟩,hf⟩:=h
 refine⟨⟨h1,?_⟩,hf⟩
 rcases h2 with h2 | ⟨g,cap,cur,hv,hb,hr⟩
 ·exact .inl h2
 ·exact .inr ⟨g,cap,cur,hv,by omega,hr⟩
theorem OwnT.set_ {B:Nat} {w:World} {T:TypeId} {v:Value} {l:List TyD} (h:OwnT B w T v l) {R:Nat} (hR:R<B) (j:Nat) (u:Value):OwnT B (w.setCell ⟨R,j,none⟩ u) T v l :=
 h.kept (Zaa (World.grownBy.refl w (some R)) j u) (fun k hk e=>by injection e with e;have:=h.low k hk;omega)
theorem Zoy (l:List UInt8) (hl:l.length≤140737488351232) (w:World) :
 Calls Tryz.prog 180 #[.string (bs l)] w (Zfo l w):=by
 obtain⟨w1,hw1⟩:∃ w1,w1=(w.alloc (.cells #[.int .i64 0,.string ⟨#[]⟩,.slice none 0 0] 44)).alloc (.cells #[.string (bs l),.bool false] 244):=⟨_,rfl⟩
 have h1:=made w l (.cells #[.int .i64 0,.string ⟨#[]⟩,.slice none 0 0] 44)
 have hb1:=(BlkP.new w).ext ((Ext.refl _).alloc (.cells #[.string (bs l),.bool false] 244))
 have x1:Ext w w1:=by rw [hw1];exact((Ext.refl w).alloc _).alloc _
 have hs1:w1.heap.size=w.heap.size+2:=by rw [hw1];simp
 rw [← hw1] at h1 hb1
 have HA:=Lh (ZpT w1 (w.heap.size+1) l hl h1)
 have HB1:=Lh hb1
 have X1:=Lh x1
 clear h1 hb1 x1
 go_enter Tryz.func180,Tryz.ntmps180
 go_wp2_with fail
 rw [← hw1]
 clear hw1
 refine HA.out.mono ?_
 rintro e w2 ⟨v,l1,b1,ts,rfl,h2,g2,hle,ho,hcase⟩
 have hb2:=HB1.out.kept g2 (fun k hk=>by injection hk with hk;omega)
 have x2:Ext w w2:=X1.out.grown g2 (fun k hk=>by injection hk with hk;omega)
 have hC:=Lh hcase
 have H2:=Lh h2
 have X2:=Lh x2
 have HB2:=Lh hb2
 have HO:=Lh ho
 obtain⟨A,c,hv,hcn,hcm,-⟩:=ho.row
 subst hv
 obtain⟨n,hn⟩:∃ n,n=ts.length:=⟨_,rfl⟩
 rw [← hn] at hcn HO ⊢
 have Hn:=Lh hn
 have hs2:=g2.size
 clear hn ho h2 x2 hb2 hcase g2
 have HR:=Lh (Zsa w2 (w.heap.size+1) l1 b1 (by omega) H2.out)
 obtain⟨X,hX⟩:∃ X,X=retZ l1:=⟨_,rfl⟩
 have HX:=Lh hX
 have hr:=HR.out
 rw [← hX] at hr
 unfold TyD.vals at hr
 have HR:=Lh hr
 clear hX hr
 obtain⟨W,hW⟩:∃ W,W=(b1 || !X.2.2):=⟨_,rfl⟩
 rw [← hW] at HR
 have HW:=Lh hW
 clear hW
 go_wp2_with fail
 refine HR.out.mono ?_
 rintro e w3 ⟨rfl,h3,g3⟩
 have hb3:=HB2.out.kept g3 (fun k hk=>by injection hk with hk;omega)
 have x3:Ext w w3:=X2.out.grown g3 (fun k hk=>by injection hk with hk;omega)
 have ho3:=HO.out.kept g3 (fun k hk e=>by injection e with e;have:=HO.out.low k hk;omega)
 obtain⟨a0,a1,-,-⟩:=h3.cells
 obtain⟨d0,d1,d2,f0,f1,f2⟩:=hb3.cells
 have hltg:w.heap.size+1<w3.heap.size:=h3.lt
 have hltR:w.heap.size<w3.heap.size:=by omega
 have hneR:¬ w.heap.size=w3.heap.size:=by omega
 have hneg:¬ w.heap.size+1=w3.heap.size:=by omega
 have H3:=Lh h3
 have X3:=Lh x3
 have HO3:=Lh ho3
 clear h3 g3 hb3 x3 ho3
 cases W
 ·-- nothing was wrong
  have hw:=HW.out
  have hb:b1=false∧X.2.2=true:=by
   cases b1 <;> cases hq:X.2.2 <;> rw [hq] at hw <;> simp at hw ⊢
  obtain⟨q1,q2⟩:=hb
  have hz:ZeI l=some (ts,l1):=by
   rcases hC.out with⟨h,_⟩ | ⟨_,h⟩
   ·rw [q1] at h;cases h
   ·exact h
  have HE:=Lh (ZfG _ _ _ _ (H3.out.ext ((Ext.refl _).alloc (.cells #[.int .i64 X.1.k,.string (bs X.1.s)] 41))))
  by_cases p2:X.2.1=[]
  ·rw [show decide (X.2.1=[])=true from decide_eq_true p2] at HE
   have HZ:=Lh (show ZaP l=(⟨X.1,ts⟩,0) by rw [Zd3 hz,← HX.out,if_pos ⟨q2,p2⟩])
   clear p2 q1 q2 hz hw
   go_wp2_with fail
   refine HE.out.mono ?_
   rintro e w4 ⟨rfl,rfl⟩
   go_wp2
   refine bodyPost_ret (v:=.tuple #[.agg #[.int .i64 X.1.k,.string (bs X.1.s),.slice A n c],.int .i64 0]) (by simp [results,Tryz.results180,go_sem,d0,d1,d2,hltR];try first | exact⟨rfl,rfl⟩ | rfl) rfl ?_
   unfold Zfo
   rw [HZ.out]
   refine⟨_,rfl,?_,?_⟩
   ·have h1:=((HO3.out.set_ (R:=w.heap.size) (by omega) 0 (.int .i64 X.1.k)).set_ (R:=w.heap.size) (by omega) 1 (.string (bs X.1.s))).set_ (R:=w.heap.size) (by omega) 2 (.slice A n c)
    exact(h1.ext ((Ext.refl _).alloc _)).base (by omega)
   ·exact Ext.alloc (Ext.set_ (Ext.set_ (Ext.set_ X3.out (Nat.le_refl _) _) (Nat.le_refl _) _) (Nat.le_refl _) _) _
  ·rw [show decide (X.2.1=[])=false from decide_eq_false p2] at HE
   have HZ:=Lh (show ZaP l=(⟨t0D,[]⟩,50) by rw [Zd3 hz,← HX.out,if_neg (fun h=>p2 h.2)])
   clear p2 q1 q2 hz hw
   go_wp2_with fail
   refine HE.out.mono ?_
   rintro e w4 ⟨rfl,rfl⟩
   go_wp2
   refine bodyPost_ret (v:=.tuple #[.agg #[.int .i64 0,.string ⟨#[]⟩,.slice none 0 0],.int .i64 50]) (by simp [results,Tryz.results180,go_sem,d0,d1,d2,hltR];try first | exact⟨rfl,rfl⟩ | rfl) rfl ?_
   unfold Zfo
   rw [HZ.out]
   exact⟨_,rfl,OwnT.nil _ _ _,Ext.alloc (Ext.set_ (Ext.set_ (Ext.set_ X3.out (Nat.le_refl _) _) (Nat.le_refl _) _) (Nat.le_refl _) _) _⟩
 ·have HZ:=Lh (show ZaP l=(⟨t0D,[]⟩,50) by
   rcases hC.out with⟨_,h⟩ | ⟨q1,h⟩
   ·exact ZjN h
   ·have hw:=HW.out
    rw [q1] at hw
    have q2:X.2.2=false:=by cases hq:X.2.2 <;> rw [hq] at hw <;> simp at hw ⊢
    rw [Zd3 h,← HX.out,if_neg (by rw [q2];simp)])
  go_wp2
  refine bodyPost_ret (v:=.tuple #[.agg #[.int .i64 0,.string ⟨#[]⟩,.slice none 0 0],.int .i64 50]) (by simp [results,Tryz.results180,go_sem,d0,d1,d2,hltR];try first | exact⟨rfl,rfl⟩ | rfl) rfl ?_
  unfold Zfo
  rw [HZ.out]
  exact⟨_,rfl,OwnT.nil _ _ _,Ext.alloc (Ext.set_ (Ext.set_ (Ext.set_ X3.out (Nat.le_refl _) _) (Nat.le_refl _) _) (Nat.le_refl _) _) _⟩
def ShS:Shp ByteArray:=flat 9 1 (fun s=>#[.string s]) .empty (by decide) (fun _=>rfl) (fun x u hu=>by
 have h:u=.string x:=by simpa using hu
 rw [h];rfl)
def f0:Fd:=⟨false,.empty,t0⟩
def Fd.vals (x:Fd):Array Value:=#[.bool x.st,.string x.nm,.int .i64 x.ty.k,.string x.ty.s]
def ShF:Shp Fd:=flat 59 4 Fd.vals f0 (by decide) (fun _=>rfl) (fun x u hu=>by
 have h:u=.bool x.st∨u=.string x.nm∨u=.int .i64 x.ty.k∨u=.string x.ty.s:=by simpa [Fd.vals] using hu
 rcases h with rfl | rfl | rfl | rfl <;> rfl)
abbrev MeV:=Me × Value × Value × Value
def m0:Me:=⟨false,false,.empty,t0,[],0,0,[],[]⟩
def MeV.vals (e:MeV):Array Value:=e.1.vals e.2.1 e.2.2.1 e.2.2.2
def mv0:MeV:=(m0,.slice none 0 0,.slice none 0 0,.slice none 0 0)
def Zum (w:World) (e:MeV):Prop:=MeAt w e.1 e.2.1 e.2.2.1 e.2.2.2
def NestMO (B:Nat) (w:World) (e:MeV):Prop:=ShT.Own B w e.2.1 e.1.args∧Own B w 5 .u8 e.2.2.1 e.1.code∧ShH.Own B w e.2.2.2 e.1.hs
theorem Zbo {α:Type} {S:Shp α} {w:World} {v:Value} {l:List α} (h:S.Row w v l):v.oneCell'=true:=by
 obtain⟨A,c,rfl,-⟩:=h
 rfl
theorem NestMO.kept {B:Nat} {w w':World} {x:MeV} {row:Option Nat} (h:NestMO B w x) (hg:w.grownBy w' row) (hr:∀ g,row=some g→∃ c T z,w.heap[g]?=some (.cells c T z)∧T≠ShT.T∧T≠5∧T≠ShH.T):NestMO B w' x:=by
 refine⟨h.1.kept hg (fun g hv e=>?_) (fun _ _ h=>h),h.2.1.kept hg fun g hv e=>?_,h.2.2.kept hg (fun g hv e=>?_) (fun _ _ h=>h)⟩
 ·obtain⟨c,T,z,h1,h2,h3,h4⟩:=hr g e
  exact h.1.ne h1 h2 hv
 ·obtain⟨c,T,z,h1,h2,h3,h4⟩:=hr g e
  exact Zau h.2.1 h1 h3 hv
 ·obtain⟨c,T,z,h1,h2,h3,h4⟩:=hr g e
  exact h.2.2.ne h1 h4 hv
def ShM:Shp MeV where
 T:=47
 n:=10
 vals:=MeV.vals
 zero:=mv0
 nest:=Zum
 nestO:=NestMO
 pos:=by decide
 size:=fun _=>rfl
 one:=fun {w x} h u hu=>by
  have h6:u=.bool x.1.st∨u=.bool x.1.ab∨u=.string x.1.nm∨u=.int .i64 x.1.ret.k∨u=.string x.1.ret.s∨u=x.2.1∨u=.int .i64 x.1.sk∨u=.int .i64 x.1.lo∨u=x.2.2.1∨u=x.2.2.2:=by simpa [MeV.vals,Me.vals] using hu
  rcases h6 with rfl | rfl | rfl | rfl | rfl | rfl | rfl | rfl | rfl | rfl
  ·rfl
  ·rfl
  ·rfl
  ·rfl
  ·rfl
  ·exact Zbo h.1
  ·rfl
  ·rfl
  ·exact ZbZ h.2.1
  ·exact Zbo h.2.2
 ext:=fun h he=>MeAt.ext h he
 extO:=fun h he=>⟨h.1.ext he,h.2.1.ext he,h.2.2.ext he⟩
 low:=fun h=>⟨h.1.row,h.2.1.row,h.2.2.row⟩
 kept:=fun {B w w' x row} h hg hr=>NestMO.kept h hg fun g e=>by
  obtain⟨c,z,h1⟩:=hr g e
  exact⟨c,_,z,h1,by decide,by decide,by decide⟩
def RowM (w:World) (v:Value) (l:List Me):Prop:=∃ es:List MeV,es.map (·.1)=l∧ShM.Row w v es
def OwnM (B:Nat) (w:World) (v:Value) (l:List Me):Prop:=∃ es:List MeV,es.map (·.1)=l∧ShM.Own B w v es
def gs (l:List ByteArray) (j:Nat):ByteArray:=ShS.el l j
def gf (l:List Fd) (j:Nat):Fd:=ShF.el l j
def gm (l:List Me) (j:Nat):Me:=l.getD j m0
theorem Zc8 {l:List Me} {j:Nat} (h:j<l.length):gm l j∈l:=by
 unfold gm
 rw [List.getD_eq_getElem?_getD,List.getElem?_eq_getElem h]
 exact List.getElem_mem h
theorem ZqM {l:List Me} {j:Nat} (h:j<l.length):gm l j=l[j]:=by
 unfold gm
 rw [List.getD_eq_getElem?_getD,List.getElem?_eq_getElem h]
 rfl
theorem ZtN {es:List MeV} {l:List Me} (h:es.map (·.1)=l) (j:Nat):(ShM.el es j).1=gm l j:=by
 subst h
 unfold Shp.el gm
 rw [List.getD_eq_getElem?_getD,List.getD_eq_getElem?_getD,List.getElem?_map]
 cases es[j]? <;> rfl
section
variable {w w' : World} {B : Nat} {v : Value} {l : List Me}
theorem RowM.ext (h:RowM w v l) (he:Ext w w'):RowM w' v l:=by
 obtain⟨es,e,h⟩:=h
 exact⟨es,e,h.ext he⟩
theorem RowM.nil (w:World):RowM w (.slice none 0 0) []:=⟨[],rfl,Shp.Row.nil _ w⟩
theorem RowM.cut (h:RowM w v l):∃ A c,v=.slice A l.length c∧l.length≤c∧c≤maxLen∧(A=none→c=0):=by
 obtain⟨es,rfl,h⟩:=h
 rw [List.length_map]
 exact h.cut
def AtM (w:World) (b o:Nat) (x:Me) (va vc vh:Value):Prop :=
 w.cell? ⟨b,o,none⟩=some (.bool x.st)∧w.cell? ⟨b,o+1,none⟩=some (.bool x.ab)∧w.cell? ⟨b,o+2,none⟩=some (.string x.nm)∧w.cell? ⟨b,o+3,none⟩=some (.int .i64 x.ret.k)∧w.cell? ⟨b,o+4,none⟩=some (.string x.ret.s) ∧
 w.cell? ⟨b,o+5,none⟩=some va∧w.cell? ⟨b,o+6,none⟩=some (.int .i64 x.sk)∧w.cell? ⟨b,o+7,none⟩=some (.int .i64 x.lo)∧w.cell? ⟨b,o+8,none⟩=some vc∧w.cell? ⟨b,o+9,none⟩=some vh
theorem AtM.of {b o:Nat} {e:MeV} (h:ShM.At w b o e):AtM w b o e.1 e.2.1 e.2.2.1 e.2.2.2 :=
 ⟨h 0 (by decide),h 1 (by decide),h 2 (by decide),h 3 (by decide),h 4 (by decide),h 5 (by decide),h 6 (by decide),h 7 (by decide),h 8 (by decide),h 9 (by decide)⟩
theorem RowM.at {A:Option Addr} {n c:Nat} (h:RowM w (.slice A n c) l) (hl:0<l.length) :
 ∃ b o,A=some ⟨b,o,none⟩∧∀ j,j<l.length→∃ va vc vh,∀ W,Ext w W→AtM W b (o+j*10) (gm l j) va vc vh∧MeAt W (gm l j) va vc vh:=by
 obtain⟨es,rfl,h⟩:=h
 rw [List.length_map] at hl
 obtain⟨b,o,rfl,hc⟩:=h.at hl
 refine⟨b,o,rfl,fun j hj=>?_⟩
 rw [List.length_map] at hj
 have hg:=ZtN (rfl:es.map (·.1)=_) j
 refine⟨(ShM.el es j).2.1,(ShM.el es j).2.2.1,(ShM.el es j).2.2.2,fun W e=>?_⟩
 obtain⟨h1,h2⟩:=hc W e j hj
 rw [← hg]
 exact⟨AtM.of h1,h2⟩
theorem OwnM.row (h:OwnM B w v l):RowM w v l:=by
 obtain⟨es,e,h⟩:=h
 exact⟨es,e,h.row⟩
theorem OwnM.nil (B:Nat) (w:World):OwnM B w (.slice none 0 0) []:=⟨[],rfl,Shp.Own.nil _ _ _⟩
theorem OwnM.ext (h:OwnM B w v l) (he:Ext w w'):OwnM B w' v l:=by
 obtain⟨es,e,h⟩:=h
 exact⟨es,e,h.ext he⟩
theorem OwnM.slice (h:OwnM B w v l):∃ A c,v=.slice A l.length c∧l.length≤c∧c≤maxLen:=by
 obtain⟨A,c,h1,h2,h3,-⟩:=h.row.cut
 exact⟨A,c,h1,h2,h3⟩
end
theorem ZcT {w:World} {A:Option Addr} {n c:Nat} {l:List ByteArray} (h:ShS.Row w (.slice A n c) l) (hl:0<l.length):∃ b o,A=some ⟨b,o,none⟩∧∀ W,Ext w W→∀ j,j<l.length→W.cell? ⟨b,o+j,none⟩=some (.string (gs l j)):=by
 obtain⟨b,o,ha,h⟩:=h.at hl
 refine⟨b,o,ha,fun W e j hj=>?_⟩
 have:=(h W e j hj).1 0 (by decide)
 rw [show ShS.n=1 from rfl,Nat.mul_one] at this
 exact this
def AtF (w:World) (b o:Nat) (x:Fd):Prop :=
 w.cell? ⟨b,o,none⟩=some (.bool x.st)∧w.cell? ⟨b,o+1,none⟩=some (.string x.nm)∧w.cell? ⟨b,o+2,none⟩=some (.int .i64 x.ty.k)∧w.cell? ⟨b,o+3,none⟩=some (.string x.ty.s)
theorem AtF.of {w:World} {b o:Nat} {x:Fd} (h:ShF.At w b o x):AtF w b o x:=⟨h 0 (by decide),h 1 (by decide),h 2 (by decide),h 3 (by decide)⟩
theorem ZcL {w:World} {A:Option Addr} {n c:Nat} {l:List Fd} (h:ShF.Row w (.slice A n c) l) (hl:0<l.length):∃ b o,A=some ⟨b,o,none⟩∧∀ W,Ext w W→∀ j,j<l.length→AtF W b (o+j*4) (gf l j):=by
 obtain⟨b,o,ha,h⟩:=h.at hl
 exact⟨b,o,ha,fun W e j hj=>AtF.of (h W e j hj).1⟩
theorem Ze1 {w:World} {v:Value} {l:List Cst} (h:ShC.Row w v l) (hok:∀ x∈l,x.ok):RowC w v l:=by
 obtain⟨A,c,h1,h2,h3,h4,h6,h7⟩:=h
 refine⟨A,c,h1,h2,h3,h4,hok,fun hl=>?_⟩
 obtain⟨b,o,ha,hb,hc⟩:=h6 hl
 exact⟨b,o,ha,hb,fun j hj=>AtC.of (hc j hj)⟩
theorem RowC.shp {w:World} {v:Value} {l:List Cst} (h:RowC w v l):ShC.Row w v l:=by
 obtain⟨A,c,h1,h2,h3,h4,h5,h6⟩:=h
 refine⟨A,c,h1,h2,h3,h4,fun hl=>?_,fun _ _=>trivial⟩
 obtain⟨b,o,ha,hb,hc⟩:=h6 hl
 refine⟨b,o,ha,hb,fun j hj i hi=>?_⟩
 obtain⟨a0,a1,a2,a3,a4,a5⟩:=hc j hj
 have hi:i<6:=hi
 match i,hi with
 | 0,_=>exact a0
 | 1,_=>exact a1
 | 2,_=>exact a2
 | 3,_=>exact a3
 | 4,_=>exact a4
 | 5,_=>exact a5
theorem OwnC.shp {B:Nat} {w:World} {v:Value} {l:List Cst} (h:OwnC B w 49 v l):ShC.Own B w v l:=⟨h.1,fun _ _=>trivial⟩
def TyOk (t:Ty):Prop:=I64 t.k∧t.s.size≤140737488351232
theorem TyOk.D {t:Ty} (h:TyOk t):(tyD t).ok:=⟨h.1,by have:=h.2;rw [Lib.size_eq] at this;exact this⟩
theorem Zs3 (l:List Ty) (j:Nat):gtD (l.map tyD) j=tyD (gt l j):=by
 unfold gtD gt
 rw [List.getD_eq_getElem?_getD,List.getD_eq_getElem?_getD,List.getElem?_map]
 cases l[j]? <;> rfl
theorem Zdi {w:World} {v:Value} {l:List Ty} (h:ShT.Row w v l) (hok:∀ x∈l,TyOk x):RowT w v (l.map tyD):=by
 obtain⟨A,c,h1,h2,h3,h4,h6,h7⟩:=h
 refine⟨A,c,by rw [h1,List.length_map],by rw [List.length_map];exact h2,h3,h4,fun x hx=>?_,fun hl=>?_⟩
 ·obtain⟨y,hy,rfl⟩:=List.mem_map.1 hx
  exact(hok y hy).D
 ·rw [List.length_map] at hl
  obtain⟨b,o,ha,hb,hc⟩:=h6 hl
  refine⟨b,o,ha,hb,fun j hj=>?_⟩
  rw [List.length_map] at hj
  rw [Zs3]
  have h2:=hc j hj
  exact⟨h2 0 (by decide),h2 1 (by decide)⟩
theorem OwnT.shp {B:Nat} {w:World} {v:Value} {l:List TyD} (h:OwnT B w 41 v l):ShT.Own B w v (l.map tyO):=by
 refine⟨?_,fun _ _=>trivial⟩
 have e:((l.map tyO).flatMap fun x=>(ShT.vals x).toList)=l.flatMap fun x=>x.vals.toList:=by
  rw [List.flatMap_map]
  rfl
 rw [e,List.length_map]
 exact h.1
def Cl.vals (c:Cl) (vp vi vf vm:Value):Array Value:=#[vp,.string c.nm,.string c.sup,.bool c.inf,vi,vf,vm]
def ClAt (w:World) (c:Cl) (vp vi vf vm:Value):Prop:=ShC.Row w vp c.pool∧ShS.Row w vi c.ifs∧ShF.Row w vf c.fds∧RowM w vm c.mts
theorem ClAt.ext {w w':World} {c:Cl} {vp vi vf vm:Value} (h:ClAt w c vp vi vf vm) (e:Ext w w'):ClAt w' c vp vi vf vm:=⟨h.1.ext e,h.2.1.ext e,h.2.2.1.ext e,h.2.2.2.ext e⟩
def ClB (w:World) (g:Nat) (c:Cl) (vp vi vf vm:Value):Prop:=w.heap[g]?=some (.cells (c.vals vp vi vf vm) 27 (0,0))
theorem ClB.ext {w w':World} {g:Nat} {c:Cl} {vp vi vf vm:Value} (h:ClB w g c vp vi vf vm) (e:Ext w w'):ClB w' g c vp vi vf vm:=(e.block g (Zab h)).trans h
theorem ClB.cells {w:World} {g:Nat} {c:Cl} {vp vi vf vm:Value} (h:ClB w g c vp vi vf vm) :
 w.cell? ⟨g,0,none⟩=some vp∧w.cell? ⟨g,1,none⟩=some (.string c.nm)∧w.cell? ⟨g,2,none⟩=some (.string c.sup)∧w.cell? ⟨g,3,none⟩=some (.bool c.inf)∧w.cell? ⟨g,4,none⟩=some vi∧w.cell? ⟨g,5,none⟩=some vf∧w.cell? ⟨g,6,none⟩=some vm:=by
 have e:∀ i,w.cell? ⟨g,i,none⟩=(c.vals vp vi vf vm)[i]?:=fun i=>by rw [cell_of_row w g i _ _ (0,0) h]
 exact⟨e 0,e 1,e 2,e 3,e 4,e 5,e 6⟩
theorem ClB.lt {w:World} {g:Nat} {c:Cl} {vp vi vf vm:Value} (h:ClB w g c vp vi vf vm):g<w.heap.size:=Zab h
theorem ClB.new (w:World) (c:Cl) (vp vi vf vm:Value):ClB (w.alloc (.cells (c.vals vp vi vf vm) 27)) w.heap.size c vp vi vf vm:=heap_alloc_new w _
theorem ZaE {w W:World} {cs:Array Value} {T:TypeId} (e:Ext (w.alloc (.cells cs T)) W) (i:Nat):W.cell? ⟨w.heap.size,i,none⟩=cs[i]?:=by
 have h:=(e.block w.heap.size (by simp)).trans (heap_alloc_new w _)
 rw [cell_of_row W _ i _ T (0,0) h]
structure MeRoom (m:Me):Prop where
 nm:m.nm.size≤140737488351232
 ret:TyOk m.ret
 args:∀ t∈m.args,TyOk t
 code:m.code.length≤140737488351232
structure ClRoom (c:Cl):Prop where
 pool:∀ x∈c.pool,x.ok∧x.t.size≤140737488351232
 nm:c.nm.size≤140737488351232
 sup:c.sup.size≤140737488351232
 ifs:∀ s∈c.ifs,s.size≤140737488351232
 fds:∀ f∈c.fds,f.nm.size≤140737488351232∧TyOk f.ty
 mts:∀ m∈c.mts,MeRoom m
def ZdO (l:List Cst) (x:Cst):Bool :=
 if x.k=1 then Lib.validD x.t.data.toList else if x.k=2 then decide (-2147483648≤x.n)&&decide (x.n≤2147483647) else if x.k=3 then true
 else if x.k=4 then isK l x.a 1 else if x.k=5∨x.k=6 then isK l x.a 4&&(isK l x.b 1&&isK l x.c 1) else false
theorem Zl6 {t:ByteArray}:t.toList=[]↔t=.empty :=
 ⟨fun h=>toList_inj (by rw [h,ByteArray.toList_eq];rfl),fun h=>by rw [h,ByteArray.toList_eq];rfl⟩
theorem Zos (l:List Cst) (x:Cst):mayC l x=true↔x=Zbs x∧ZdO l x=true:=by
 obtain⟨k,t,n,a,b,c⟩:=x
 unfold mayC
 rw [decide_eq_true_iff]
 unfold MayC Zbs ZdO
 simp only [Zl6]
 by_cases k1:k=1
 ·subst k1;simp <;> try (constructor <;> (intro h;simp_all))
 ·by_cases k2:k=2
  ·subst k2;simp <;> try (constructor <;> (intro h;simp_all <;> omega))
  ·by_cases k3:k=3
   ·subst k3;simp <;> try (constructor <;> (intro h;simp_all))
   ·by_cases k4:k=4
    ·subst k4;simp <;> try (constructor <;> (intro h;simp_all))
    ·by_cases k5:k=5
     ·subst k5;simp <;> try (constructor <;> (intro h;simp_all))
     ·by_cases k6:k=6
      ·subst k6;simp <;> try (constructor <;> (intro h;simp_all))
      ·simp [k1,k2,k3,k4,k5,k6]
theorem ZnV (v:Value) (l:List Cst) (x:Cst) (w:World) (h:RowC w v l) (hx:x.ok) (hz:(gc l 0).k=0) (hT:Tabs w) (hs:x.t.size≤140737488351232) :
 Calls Tryz.prog 108 #[v,.agg x.vals] w (RetB w (ZdO l x)):=by
 have hen:(encZ x.t.data.toList).length≤9223372036854775807:=by
  have h1:=ZfH x.t.data.toList
  have h2:x.t.data.toList.length=x.t.size:=(Lib.size_eq _).symm
  omega
 have hok:=hx
 obtain⟨k,t,n,a,b,c⟩:=x
 obtain⟨ok_k,ok_n,ok_a,ok_b,ok_c⟩:=hx
 simp only at ok_k ok_n ok_a ok_b ok_c hs hen
 have hR:RowC (w.alloc (.cells (Cst.vals ⟨k,t,n,a,b,c⟩) 49)) v l:=h.ext ((Ext.refl _).alloc _)
 have HR:=Lh hR
 have HT:=Lh (hT.ext ((Ext.refl w).alloc (.cells (Cst.vals ⟨k,t,n,a,b,c⟩) 49)))
 clear hR hT
 by_cases k1:k=1
 ·subst k1
  rw [show ZdO l ⟨1,t,n,a,b,c⟩=Lib.validD t.data.toList by simp [ZdO]]
  obtain⟨e1,he1⟩:∃ e1,Lib.validD t.data.toList=e1:=⟨_,rfl⟩
  rw [he1]
  have H1:=Lh he1
  clear he1
  unfold Cst.vals at HR HT ⊢
  go_enter Tryz.func108,Tryz.ntmps108
  go_wp2_with fail
  refine(Zn5 t _ HT.out (by omega) hen).mono ?_
  rintro e w1 ⟨u1,rfl,ha,x1⟩
  have y1:=((Ext.refl w).alloc _).trans x1
  rcases ha with⟨hv,rfl⟩ | ⟨hv,rfl⟩
  ·rw [H1.out] at hv
   subst hv
   clear x1
   go_wp2
   go_ret
   exact⟨rfl,y1⟩
  ·rw [H1.out] at hv
   subst hv
   clear x1
   go_wp2
   go_ret
   exact⟨rfl,y1⟩
 by_cases k2:k=2
 ·subst k2
  rw [show ZdO l ⟨2,t,n,a,b,c⟩=(decide (-2147483648≤n)&&decide (n≤2147483647)) by simp [ZdO]]
  unfold Cst.vals at HR HT ⊢
  by_cases h1:-2147483648≤n
  ·rw [decide_eq_true h1]
   go_enter Tryz.func108,Tryz.ntmps108
   go_wp2
   go_ret
   exact⟨Zdg (by simp),(Ext.refl w).alloc _⟩
  ·rw [decide_eq_false h1]
   go_enter Tryz.func108,Tryz.ntmps108
   go_wp2
   go_ret
   exact⟨Zdg (by simp),(Ext.refl w).alloc _⟩
 by_cases k3:k=3
 ·subst k3
  rw [show ZdO l ⟨3,t,n,a,b,c⟩=true by simp [ZdO]]
  unfold Cst.vals at HR HT ⊢
  go_enter Tryz.func108,Tryz.ntmps108
  go_wp2
  go_ret
  exact⟨rfl,(Ext.refl w).alloc _⟩
 by_cases k4:k=4
 ·subst k4
  rw [show ZdO l ⟨4,t,n,a,b,c⟩=isK l a 1 by simp [ZdO]]
  unfold Cst.vals at HR HT ⊢
  go_enter Tryz.func108,Tryz.ntmps108
  go_wp2_with fail
  refine(Zhd _ l _ _ _ HR.out ok_a (by unfold I64;omega) hz (by decide)).mono ?_
  rintro e w1 ⟨rfl,rfl⟩
  go_wp2
  go_ret
  exact⟨rfl,(Ext.refl w).alloc _⟩
 by_cases k5:k=5∨k=6
 ·rw [show ZdO l ⟨k,t,n,a,b,c⟩=(isK l a 4&&(isK l b 1&&isK l c 1)) by simp [ZdO,k1,k2,k3,k4,k5]]
  obtain⟨e1,he1⟩:∃ e1,isK l a 4=e1:=⟨_,rfl⟩
  rw [he1]
  have H1:=Lh he1
  clear he1
  unfold Cst.vals at HR HT ⊢
  rcases k5 with rfl | rfl
  all_goals
   cases e1
   ·go_enter Tryz.func108,Tryz.ntmps108
    go_wp2_with fail
    refine(Zhd _ l _ _ _ HR.out ok_a (by unfold I64;omega) hz (by decide)).mono ?_
    rw [H1.out]
    rintro e w1 ⟨rfl,rfl⟩
    go_wp2
    go_ret
    exact⟨rfl,(Ext.refl w).alloc _⟩
   ·go_enter Tryz.func108,Tryz.ntmps108
    go_wp2_with fail
    refine(Zhd _ l _ _ _ HR.out ok_a (by unfold I64;omega) hz (by decide)).mono ?_
    rw [H1.out]
    rintro e w1 ⟨rfl,rfl⟩
    go_wp2_with fail
    refine(Zgx _ l ⟨_,t,n,a,b,c⟩ _ HR.out hok hz).mono ?_
    rintro e w1 ⟨rfl,x1⟩
    go_wp2
    go_ret
    exact⟨rfl,((Ext.refl w).alloc _).trans x1⟩
 rw [show ZdO l ⟨k,t,n,a,b,c⟩=false by simp [ZdO,k1,k2,k3,k4,k5]]
 have n1:(k==1)=false:=by simpa using k1
 have n2:(k==2)=false:=by simpa using k2
 have n3:(k==3)=false:=by simpa using k3
 have n4:(k==4)=false:=by simpa using k4
 have n5:(k==5)=false:=by simpa using (fun h=>k5 (.inl h))
 have n6:(k==6)=false:=by simpa using (fun h=>k5 (.inr h))
 clear k5
 unfold Cst.vals at HR HT ⊢
 go_enter Tryz.func108,Tryz.ntmps108
 go_wp2
 go_ret
 exact⟨rfl,(Ext.refl w).alloc _⟩
theorem ZsZ {w:World} {v:Value} {l:List Cst} (h:RowC w v l) (h0:0<l.length) :
 ∃ A c,(∀ W,(Instr.sliceAt 22 v (some (.int .i64 1)) none none).run Tryz.prog W=.ok (.slice A (l.length-1) c) W)∧(∀ W,(Instr.slice 22 v (some (.int .i64 1)) none none).run Tryz.prog W=.ok (.slice A (l.length-1) c) W)∧l.length-1≤c∧c≤maxLen ∧
  ∀ j,j+1<l.length→∃ b o,A=some ⟨b,o,none⟩∧b<w.heap.size∧At6 w b (o+j*6) (gc l (j+1)):=by
 obtain⟨A,c,rfl,h2,h3,h4,h5,h6⟩:=h
 obtain⟨b,o,rfl,hb,hc⟩:=h6 h0
 obtain⟨n,hn⟩:∃ n,l.length=n:=⟨_,rfl⟩
 rw [hn] at h0 h2 hc ⊢
 have hm:c≤maxLen:=h3
 unfold maxLen at h3
 by_cases hc1:c=1
 ·have:n=1:=by omega
  subst this hc1
  exact⟨some ⟨b,o,none⟩,0,fun W=>by clear hc;go_simp,fun W=>by clear hc;go_simp,by omega,by omega,fun j hj=>by omega⟩
 ·have k1:¬ (n:Int)<1:=by omega
  refine⟨some ⟨b,o+6,none⟩,c-1,fun W=>by clear hc;go_simp,fun W=>by clear hc;go_simp,by omega,by omega,fun j hj=>⟨b,o+6,rfl,hb,?_⟩⟩
  have:=hc (j+1) hj
  rw [show o+(j+1)*6=o+6+j*6 by omega] at this
  exact this
theorem ZkN (x y:Cst) (W:World):(binOp .neq 49 (.agg x.vals) (.agg y.vals)).run Tryz.prog W=.ok (.bool (!eqC x y)) W:=Zh5 x y W
set_option maxRecDepth 100000 in
theorem ZdA (v:Value) (l:List Cst) (w:World) (h:RowC w v l) (hT:Tabs w) (hR:Texts l) :
 Calls Tryz.prog 54 #[v] w fun e w'=>e=.returned (.int .i64 (ZaD l))∧Ext w w':=by
 have hrow:=h
 obtain⟨A,cp,rfl,h2,h3,h4,h5,h6⟩:=id h
 unfold maxLen at h3
 obtain⟨n,hn⟩:∃ n,n=l.length:=⟨_,rfl⟩
 have HN:=Lh hn
 rw [← hn] at hrow h h2 h6 ⊢
 by_cases hbig:4096<n
 ·have HB:=Lh (ZdL (l:=l) (by rw [← hn];exact hbig))
  clear h6 h5 h4 hn
  go_enter Tryz.func54,Tryz.ntmps54
  go_wp2
  go_ret
  exact⟨ZfY HB.out.symm,Ext.refl _⟩
 ·by_cases h0:n=0
  ·have e:l=[]:=List.eq_nil_of_length_eq_zero (by omega)
   subst e
   subst h0
   clear h6 h5 h4 hn HN
   go_enter Tryz.func54,Tryz.ntmps54
   go_wp2
   go_ret
   exact⟨ZfY checkC_nil.symm,Ext.refl _⟩
  ·obtain⟨bl,o,rfl,_,hc⟩:=h6 (by omega)
   obtain⟨a0,a1,a2,a3,a4,a5⟩:=hc 0 (by omega)
   simp only [Nat.zero_mul,Nat.add_zero] at a0 a1 a2 a3 a4 a5
   have hnz:((n:Int)==0)=false:=by simp;omega
   have hne0:=fun W=>ZkN (gc l 0) c0 W
   unfold Cst.vals at hne0
   by_cases hg:gc l 0=c0
   ·rw [ZhM hg,hg] at hne0
    rw [hg] at a0 a1 a2 a3 a4 a5
    simp only [c0] at a0 a1 a2 a3 a4 a5 hne0
    have HG:=Lh hg
    have hz:(gc l 0).k=0:=by rw [hg];rfl
    have HZ:=Lh hz
    obtain⟨A2,c2,t4,t4',t5,t6,ht⟩:=ZsZ h (by rw [← hn];omega)
    rw [← hn] at t4 t4' t5 ht
    unfold maxLen at t6
    obtain⟨m,hm⟩:∃ m,n-1=m:=⟨_,rfl⟩
    rw [hm] at t4 t4' t5
    clear hg h4 h6 hc hn hz
    go_enter Tryz.func54,Tryz.ntmps54
    go_wp2
    go_loopw [21] (fun i wr=>∃ k:Nat,i=.int .i64 k∧k≤m∧Ext w wr∧Hid (∀ j,1≤j→j<k+1→mayC l (gc l j)=true)) (fun i _=>m-(intOf i).toNat)
    case atStart=>exact⟨0,rfl,by omega,Ext.refl _,fun j h1 h2=>by omega⟩
    case round =>
     clear a0 a1 a2 a3 a4 a5 hne0 t4 t4'
     obtain⟨k,rfl,hkm,hx,HA⟩:=hrel
     by_cases hlt:k<m
     ·obtain⟨b2,o2,rfl,hb2,hat⟩:=ht k (by omega)
      obtain⟨a0,a1,a2,a3,a4,a5⟩:=hat.ext hx hb2
      have hok:=ZhQ h5 (k+1)
      have hsz:=hR.at_ (k+1)
      have hmn:=Zos l (gc l (k+1))
      have c1:=fun W=>ZmG (gc l (k+1)) W
      have c2:=fun W hW hTW=>ZnV (.slice (some ⟨bl,o,none⟩) n cp) l (gc l (k+1)) W hW hok HZ.out hTW hsz
      have hne:=fun W=>ZkN (gc l (k+1)) (Zbs (gc l (k+1))) W
      obtain⟨y,hy⟩:∃ y,gc l (k+1)=y:=⟨_,rfl⟩
      rw [hy] at a0 a1 a2 a3 a4 a5 hmn c1 c2 hne
      have HY:=Lh hy
      obtain⟨z,hzz⟩:∃ z,Zbs y=z:=⟨_,rfl⟩
      obtain⟨fb,hfb⟩:∃ fb,ZdO l y=fb:=⟨_,rfl⟩
      obtain⟨eb,heb⟩:∃ eb,eqC y z=eb:=⟨_,rfl⟩
      rw [hzz] at c1 hne hmn
      rw [hfb] at c2 hmn
      rw [heb] at hne
      have hmy:mayC l y=(eb&&fb):=by
       rw [← heb]
       by_cases hyz:y=z
       ·rw [ZhM hyz,Bool.true_and]
        cases fb
        ·cases hq:mayC l y
         ·rfl
         ·exact absurd (hmn.1 hq).2 (by simp)
        ·exact hmn.2 ⟨hyz,rfl⟩
       ·rw [Znu hyz,Bool.false_and]
        cases hq:mayC l y
        ·rfl
        ·exact absurd (hmn.1 hq).1 hyz
      obtain⟨kk,t,nn,a,b,c⟩:=y
      obtain⟨zk,zt,zn,za,zb,zc⟩:=z
      simp only at a0 a1 a2 a3 a4 a5
      have at3:At0 (wr.alloc (.cells (Cst.vals ⟨kk,t,nn,a,b,c⟩) 49)) wr.heap.size ⟨kk,t,nn,a,b,c⟩:=At0.of (heap_alloc_new _ _)
      have hg3:wr.heap.size<(wr.alloc (.cells (Cst.vals ⟨kk,t,nn,a,b,c⟩) 49)).heap.size:=by simp
      unfold Cst.vals at c1 c2 hne
      have C1:=Lh c1
      have C2:=Lh c2
      have HM:=Lh hmy
      obtain⟨z0,z1,z2,z3,z4,z5⟩:=id at3
      simp only at z0 z1 z2 z3 z4 z5
      unfold Cst.vals at z0 z1 z2 z3 z4 z5
      clear c1 c2 hmn hzz hfb heb hy hat hmy hsz
      cases eb
      ·have HC:Hid (ZaD l=40):=Zb9 (by rw [← HN.out];omega) (fun ha=>by
        have:=ha.2 (k+1) (by omega) (by rw [← HN.out];omega)
        rw [HY.out,HM.out] at this
        cases this)
       go_wp2_with fail
       first
        | (go_region_with (first
         | (go_at_call 107;((with_reducible refine(C1.out _).mono ?_);rintro e w4 ⟨rfl,x4'⟩);have x4:Ext (wr.alloc (.cells (Cst.vals ⟨kk,t,nn,a,b,c⟩) 49)) w4:=((Ext.refl _).drew).trans x4';have at4:=at3.ext x4 hg3;obtain⟨z40,z41,z42,z43,z44,z45⟩:=id at4;simp only at z40 z41 z42 z43 z44 z45)))
        | fail
       all_goals
        go_wp2
        go_ret
        exact⟨ZfY HC.out.symm,(hx.alloc _).trans x4⟩
      ·cases fb
       ·have HC:Hid (ZaD l=40):=Zb9 (by rw [← HN.out];omega) (fun ha=>by
         have:=ha.2 (k+1) (by omega) (by rw [← HN.out];omega)
         rw [HY.out,HM.out] at this
         cases this)
        go_wp2_with fail
        go_region_held3 (fun w'=>w'.cell? ⟨wr.heap.size,0,none⟩=some (.int .i64 kk)∧w'.cell? ⟨wr.heap.size,1,none⟩=some (.string t)∧w'.cell? ⟨wr.heap.size,2,none⟩=some (.int .i64 nn)∧w'.cell? ⟨wr.heap.size,3,none⟩=some (.int .i64 a)∧w'.cell? ⟨wr.heap.size,4,none⟩=some (.int .i64 b)∧w'.cell? ⟨wr.heap.size,5,none⟩=some (.int .i64 c)) (first | go_keep | (refine⟨?_,?_,?_,?_,?_,?_⟩ <;> assumption)) (first
         | (go_at_call 107;((with_reducible refine(C1.out _).mono ?_);rintro e w4 ⟨rfl,x4'⟩);have x4:Ext (wr.alloc (.cells (Cst.vals ⟨kk,t,nn,a,b,c⟩) 49)) w4:=((Ext.refl _).drew).trans x4';have at4:=at3.ext x4 hg3;obtain⟨z40,z41,z42,z43,z44,z45⟩:=id at4;simp only at z40 z41 z42 z43 z44 z45)
         | (go_at_call 108;((with_reducible refine(C2.out _ (by exact hrow.ext ((hx.alloc _).trans x4)) (by exact hT.ext ((hx.alloc _).trans x4))).mono ?_);rintro e w6 ⟨rfl,x6'⟩);have x6:=x4.trans x6';have at6:=at4.ext x6' (Nat.lt_of_lt_of_le hg3 x4.size);obtain⟨z60,z61,z62,z63,z64,z65⟩:=id at6;simp only at z60 z61 z62 z63 z64 z65))
        all_goals
         go_wp2
         go_ret
         exact⟨ZfY HC.out.symm,(hx.alloc _).trans x6⟩
       ·go_wp2_with fail
        go_region_held3 (fun w'=>w'.cell? ⟨wr.heap.size,0,none⟩=some (.int .i64 kk)∧w'.cell? ⟨wr.heap.size,1,none⟩=some (.string t)∧w'.cell? ⟨wr.heap.size,2,none⟩=some (.int .i64 nn)∧w'.cell? ⟨wr.heap.size,3,none⟩=some (.int .i64 a)∧w'.cell? ⟨wr.heap.size,4,none⟩=some (.int .i64 b)∧w'.cell? ⟨wr.heap.size,5,none⟩=some (.int .i64 c)) (first | go_keep | (refine⟨?_,?_,?_,?_,?_,?_⟩ <;> assumption)) (first
         | (go_at_call 107;((with_reducible refine(C1.out _).mono ?_);rintro e w4 ⟨rfl,x4'⟩);have x4:Ext (wr.alloc (.cells (Cst.vals ⟨kk,t,nn,a,b,c⟩) 49)) w4:=((Ext.refl _).drew).trans x4';have at4:=at3.ext x4 hg3;obtain⟨z40,z41,z42,z43,z44,z45⟩:=id at4;simp only at z40 z41 z42 z43 z44 z45)
         | (go_at_call 108;((with_reducible refine(C2.out _ (by exact hrow.ext ((hx.alloc _).trans x4)) (by exact hT.ext ((hx.alloc _).trans x4))).mono ?_);rintro e w6 ⟨rfl,x6'⟩);have x6:=x4.trans x6';have at6:=at4.ext x6' (Nat.lt_of_lt_of_le hg3 x4.size);obtain⟨z60,z61,z62,z63,z64,z65⟩:=id at6;simp only at z60 z61 z62 z63 z64 z65))
        all_goals
         go_wp2
         go_roundw
         case rel =>
          refine⟨k+1,by go_num,by omega,(hx.alloc _).trans x6,fun j h1 h2=>?_⟩
          by_cases hjk:j=k+1
          ·rw [hjk,HY.out];exact HM.out
          ·exact HA.out j h1 (by omega)
         case measure=>simp [intOf];omega
     ·have HC:Hid (ZaD l=0):=ZeY (by rw [← HN.out];omega) (by rw [← HN.out];omega) ⟨HG.out,fun j h1 h2=>HA.out j h1 (by rw [← HN.out] at h2;omega)⟩
      go_wp2
      go_ret
      exact⟨ZfY HC.out.symm,hx⟩
   ·have HB:=Lh (Zb9 (l:=l) (by omega) (fun ha=>hg ha.1))
    clear h5 h4 hn hc hne0
    go_enter Tryz.func54,Tryz.ntmps54
    go_wp2_with fail
    all_goals first
     | exact(hg (ZjI ‹(gc l 0).k=0› ‹(gc l 0).t.toList=[]› ‹(gc l 0).n=0› ‹(gc l 0).a=0› ‹(gc l 0).b=0› ‹(gc l 0).c=0›)).elim
     | (
      go_ret
      exact⟨ZfY HB.out.symm,Ext.refl _⟩)
def uBs (ns:List Int):List Int:=ns.flatMap fun n=>(uS n).1
theorem Zpy {ns:List Int} {k:Nat} (h:k<ns.length):uBs (ns.take (k+1))=uBs (ns.take k)++(uS (gi ns k)).1:=by
 unfold uBs
 rw [List.take_succ_eq_append_getElem h,List.flatMap_append]
 simp [gi,h]
theorem ZsC (ns:List Int) (k:Nat):(uBs (ns.take k)).length≤(uBs ns).length:=by
 unfold uBs
 conv=>rhs;rw [← List.take_append_drop k ns]
 rw [List.flatMap_append,List.length_append]
 omega
theorem ZlP {w w1 w2:World} {r r2:Option Nat} (h:w.grownBy w1 r) (e:w1.grownBy w2 r2) (hr:∀ g,r2=some g→r=some g∨w.heap.size≤g):w.grownBy w2 r :=
 ⟨e.os.trans h.os,e.tape.trans h.tape,e.output.trans h.output,Nat.le_trans h.size e.size,fun i hi hne=>(e.block i (Nat.lt_of_lt_of_le hi h.size) (fun e2=>by
  rcases hr i e2.symm with h3 | h3
  ·exact hne h3.symm
  ·omega)).trans (h.block i hi hne)⟩
theorem ZjL {w w1 w2:World} {r:Option Nat} (h:w.grownBy w1 r) (e:Ext w1 w2):w.grownBy w2 r :=
 ⟨e.os.trans h.os,e.tape.trans h.tape,e.output.trans h.output,Nat.le_trans h.size e.size,fun i hi hne=>(e.block i (Nat.lt_of_lt_of_le hi h.size)).trans (h.block i hi hne)⟩
def Went (w:World) (v v':Value):Prop:=∀ g,v'.ownBlock=some g→v.ownBlock=some g∨w.heap.size≤g
theorem Went.refl (w:World) (v:Value):Went w v v:=fun g h=>.inl h
set_option maxRecDepth 100000 in
theorem Zez (B:Nat) (v:Value) (l:List Int) (vn:Value) (ns:List Int) (w:World) (ho:Own B w 5 .u8 v l) (hn:Row w .i64 vn ns) (hne:∀ g,vn.ownBlock=some g→v.ownBlock≠some g)
 (hb:l.length+(uBs ns).length≤140737488355328) (hB:B≤w.heap.size) :
 Calls Tryz.prog 55 #[v,vn] w fun e w'=>∃ v',e=.returned v'∧Own B w' 5 .u8 v' (l++uBs ns)∧w.grownBy w' v.ownBlock∧Went w v v':=by
 have hn':=hn
 obtain⟨A,c,rfl,h2,h3,h4,h5,h6⟩:=hn'
 unfold maxLen at h3
 obtain⟨n,hnn⟩:∃ n,n=ns.length:=⟨_,rfl⟩
 have HN:=Lh hnn
 rw [← hnn] at hn h2 h6 hne ⊢
 have HO:=Lh ho
 have HR:=Lh hn
 have HNE:=Lh hne
 clear hnn ho hn hne h4
 go_enter Tryz.func55,Tryz.ntmps55
 go_wp2
 go_loopw [0,11] (fun u i wr=>∃ k:Nat,i=.int .i64 k∧k≤n∧Own B wr 5 .u8 u (l++uBs (ns.take k))∧w.grownBy wr v.ownBlock∧Went w v u) (fun _ i _=>n-(intOf i).toNat)
 case atStart=>exact⟨0,rfl,by omega,by simpa [uBs] using HO.out,World.grownBy.refl _ _,Went.refl _ _⟩
 case round =>
  obtain⟨k,rfl,hk,hou,hg,hwt⟩:=hrel
  have HOU:=Lh hou
  have HG:=Lh hg
  have HW:=Lh hwt
  by_cases hlt:k<n
  ·obtain⟨b,o,rfl,hbl,hc⟩:=h6 (by omega)
   have y0:wr.cell? ⟨b,o+k,none⟩=some (.int .i64 (gi ns k)):=(World.cell?_of_block (w:=w) (a:=⟨b,o+k,none⟩) (hg.block b hbl (fun e=>HNE.out b rfl e.symm))).trans (hc k hlt)
   have hlit:=h5 (gi ns k) (Zbb (by rw [← HN.out];exact hlt))
   have hr:-9223372036854775808≤gi ns k∧gi ns k≤9223372036854775807:=by
    simp [Lit.wf,IntKind.min,IntKind.max,IntKind.signed,IntKind.bits] at hlit
    omega
   have hE:=Lh (Zpy (ns:=ns) (k:=k) (by rw [← HN.out];exact hlt))
   have hL:=ZsC ns (k+1)
   rw [hE.out,List.length_append] at hL
   obtain⟨y,hy⟩:∃ y,gi ns k=y:=⟨_,rfl⟩
   rw [hy] at y0 hr hE hL
   obtain⟨hr0,hr1⟩:=hr
   clear hc h6 hlit hou hg hwt hy
   go_wp2_with fail
   refine(ZsA y _ hr0 hr1).mono ?_
   rintro e w2 ⟨u2,rfl,⟨b2,rfl,ho2⟩,x2⟩
   go_wp2_with (at_builtin;refine wpList_app _ rfl _ _ B 29 5 _ 1 .u8 rfl Tryz.underlying29 Zaq rfl (by omega) _ _ rfl (HOU.out.ext x2) b2 (uS y).1 rfl ho2.row (by rw [List.length_append];omega) (by have:=HG.out.size;have:=x2.size;omega) ?_;intro v3 w3 ho3 hg3 hb3)
   have hlow:=HOU.out.low
   have hhigh:=HOU.out.high
   go_roundw
   case rel =>
    refine⟨k+1,by go_num,by omega,?_,?_,?_⟩
    ·rw [hE.out,← List.append_assoc]
     exact ho3
    ·exact ZlP (ZjL HG.out x2) hg3 HW.out
    ·intro g hgb
     rcases hb3 with hb3 | hb3
     ·rw [hb3] at hgb
      exact HW.out g hgb
     ·rw [hb3] at hgb
      injection hgb with hgb
      have:=HG.out.size
      have:=x2.size
      exact .inr (by omega)
   case measure=>simp [intOf];omega
  ·have hkn:k=n:=by omega
   go_wp2
   go_ret
   refine⟨_,rfl,?_,HG.out,HW.out⟩
   have:=HOU.out
   rw [hkn,HN.out,List.take_length] at this
   exact this
end Go.Proofs.YtclamhhgldkhnaaGreatDoor
