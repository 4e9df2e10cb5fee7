/- Several texts of this proof, one behind the other. -/
import Derived.Test.YtclamhhgldkhnaaGreatDoorZwJ
import Derived.Test.YtclamhhgldkhnaaGreatDoorZwC
import Derived.Test.YtclamhhgldkhnaaGreatDoorZwD
import Derived.Test.YtclamhhgldkhnaaGreatDoorRows
import Derived.Test.YtclamhhgldkhnaaGreatDoorZwB
import Derived.SizedLaws
import Derived.Lib.ValidLaws
import Derived.Deep.Slices
import Derived.Deep.Fields
import Derived.ChangeSame
import Derived.Test.YtclamhhgldkhnaaGreatDoorZwG
import Derived.LoopN
import Derived.Deep.RegionWith
import Derived.Deep.RegionLaw
namespace Go.Proofs.YtclamhhgldkhnaaGreatDoor
open Go.RowKit
set_option linter.unusedVariables false
set_option maxHeartbeats 16000000
def Zbs (x:Cst):Cst :=
 if x.k=1 then ⟨x.k,x.t,0,0,0,0⟩ else if x.k=2∨x.k=3 then ⟨x.k,.empty,x.n,0,0,0⟩ else if x.k=4 then ⟨x.k,.empty,0,x.a,0,0⟩
 else if x.k=5∨x.k=6 then ⟨x.k,.empty,0,x.a,x.b,x.c⟩ else c0
theorem Zcd (w:World) (o p:Obj):Ext w ((w.alloc o).alloc p):=((Ext.refl w).alloc o).alloc p
theorem ZmG (x:Cst) (w:World):Calls Tryz.prog 107 #[.agg x.vals] w fun e w'=>e=.returned (.agg (Zbs x).vals)∧Ext w w':=by
 obtain⟨k,t,n,a,b,c⟩:=x
 by_cases k1:k=1
 ·subst k1
  rw [show Zbs ⟨1,t,n,a,b,c⟩=⟨1,t,0,0,0,0⟩ by simp [Zbs]]
  unfold Cst.vals
  go_enter Tryz.func107,Tryz.ntmps107
  go_wp2
  exact bodyPost_ret (v:=.agg (Cst.vals ⟨1,t,0,0,0,0⟩)) (by unfold Cst.vals;simp [results,Tryz.results107,go_sem];try rfl) rfl ⟨rfl,Zcd _ _ _⟩
 by_cases k2:k=2
 ·subst k2
  rw [show Zbs ⟨2,t,n,a,b,c⟩=⟨2,.empty,n,0,0,0⟩ by simp [Zbs]]
  unfold Cst.vals
  go_enter Tryz.func107,Tryz.ntmps107
  go_wp2
  exact bodyPost_ret (v:=.agg (Cst.vals ⟨2,.empty,n,0,0,0⟩)) (by unfold Cst.vals;simp [results,Tryz.results107,go_sem];try rfl) rfl ⟨rfl,Zcd _ _ _⟩
 by_cases k3:k=3
 ·subst k3
  rw [show Zbs ⟨3,t,n,a,b,c⟩=⟨3,.empty,n,0,0,0⟩ by simp [Zbs]]
  unfold Cst.vals
  go_enter Tryz.func107,Tryz.ntmps107
  go_wp2
  exact bodyPost_ret (v:=.agg (Cst.vals ⟨3,.empty,n,0,0,0⟩)) (by unfold Cst.vals;simp [results,Tryz.results107,go_sem];try rfl) rfl ⟨rfl,Zcd _ _ _⟩
 by_cases k4:k=4
 ·subst k4
  rw [show Zbs ⟨4,t,n,a,b,c⟩=⟨4,.empty,0,a,0,0⟩ by simp [Zbs]]
  unfold Cst.vals
  go_enter Tryz.func107,Tryz.ntmps107
  go_wp2
  exact bodyPost_ret (v:=.agg (Cst.vals ⟨4,.empty,0,a,0,0⟩)) (by unfold Cst.vals;simp [results,Tryz.results107,go_sem];try rfl) rfl ⟨rfl,Zcd _ _ _⟩
 by_cases k5:k=5
 ·subst k5
  rw [show Zbs ⟨5,t,n,a,b,c⟩=⟨5,.empty,0,a,b,c⟩ by simp [Zbs]]
  unfold Cst.vals
  go_enter Tryz.func107,Tryz.ntmps107
  go_wp2
  exact bodyPost_ret (v:=.agg (Cst.vals ⟨5,.empty,0,a,b,c⟩)) (by unfold Cst.vals;simp [results,Tryz.results107,go_sem];try rfl) rfl ⟨rfl,Zcd _ _ _⟩
 by_cases k6:k=6
 ·subst k6
  rw [show Zbs ⟨6,t,n,a,b,c⟩=⟨6,.empty,0,a,b,c⟩ by simp [Zbs]]
  unfold Cst.vals
  go_enter Tryz.func107,Tryz.ntmps107
  go_wp2
  exact bodyPost_ret (v:=.agg (Cst.vals ⟨6,.empty,0,a,b,c⟩)) (by unfold Cst.vals;simp [results,Tryz.results107,go_sem];try rfl) rfl ⟨rfl,Zcd _ _ _⟩
 rw [show Zbs ⟨k,t,n,a,b,c⟩=c0 by simp [Zbs,k1,k2,k3,k4,k5,k6]]
 have n1:(k==1)=false:=by simpa using k1
 have n2:(k==2)=false:=by simpa using k2
 have n3:(k==3)=false:=by simpa using k3
 have n4:(k==4)=false:=by simpa using k4
 have n5:(k==5)=false:=by simpa using k5
 have n6:(k==6)=false:=by simpa using k6
 unfold Cst.vals
 go_enter Tryz.func107,Tryz.ntmps107
 go_wp2
 exact bodyPost_ret (v:=.agg (Cst.vals c0)) (by unfold Cst.vals c0;simp [results,Tryz.results107,go_sem];try rfl) rfl ⟨rfl,Zcd _ _ _⟩
def PRP (w0 w:World) (g:Nat) (l:List Int) (e:Int):Prop :=
 ∃ v,w.heap[g]?=some (.cells #[v,.int .i64 e] 212 (0,0))∧Row w0 .u8 v l∧Ext w0 w∧w0.heap.size≤g
theorem PRP.lt {w0 w:World} {g:Nat} {l:List Int} {e:Int} (h:PRP w0 w g l e):g<w.heap.size:=by
 obtain⟨v,hg,_⟩:=h
 exact Zab hg
theorem PRP.base {w0 w:World} {g:Nat} {l:List Int} {e:Int} (h:PRP w0 w g l e):w0.heap.size≤g:=by
 obtain⟨v,hg,_,_,h4⟩:=h
 exact h4
theorem PRP.ext0 {w0 w:World} {g:Nat} {l:List Int} {e:Int} (h:PRP w0 w g l e):Ext w0 w:=by
 obtain⟨v,hg,_,h3,h4⟩:=h
 exact h3
theorem PRP.ext {w0 w w':World} {g:Nat} {l:List Int} {e:Int} (h:PRP w0 w g l e) (he:Ext w w'):PRP w0 w' g l e:=by
 obtain⟨v,hg,h2,h3,h4⟩:=h
 exact⟨v,(he.block g (Zab hg)).trans hg,h2,h3.trans he,h4⟩
theorem PRP.cells {w0 w:World} {g:Nat} {l:List Int} {e:Int} (h:PRP w0 w g l e) :
 ∃ A c,l.length≤c∧c≤maxLen∧Row w0 .u8 (.slice A l.length c) l∧w.cell? ⟨g,0,none⟩=some (.slice A l.length c)∧w.cell? ⟨g,1,none⟩=some (.int .i64 e)∧w.frozen? ⟨g,0,none⟩=false∧w.frozen? ⟨g,1,none⟩=false:=by
 obtain⟨v,hg,hr,h3,h4⟩:=h
 have hr':=hr
 obtain⟨A,c,rfl,h5,h6,_⟩:=hr'
 exact⟨A,c,h5,h6,hr,by rw [cell_of_row w g 0 _ _ (0,0) hg];rfl,by rw [cell_of_row w g 1 _ _ (0,0) hg];rfl,by simp [World.frozen?,hg],by simp [World.frozen?,hg]⟩
theorem PRP.setErr {w0 w:World} {g:Nat} {l:List Int} {e:Int} (h:PRP w0 w g l e) (x:Int):PRP w0 (w.setCell ⟨g,1,none⟩ (.int .i64 x)) g l x:=by
 obtain⟨v,hg,hr,h3,h4⟩:=h
 have h1:=heap_setCell_same w g 1 _ 212 (.int .i64 x) hg
 exact⟨v,by rw [h1];rfl,hr,h3.set_ h4 _,h4⟩
theorem PRP.setRow {w0 w:World} {g:Nat} {l m:List Int} {e:Int} (h:PRP w0 w g l e) {v:Value} (hv:Row w0 .u8 v m):PRP w0 (w.setCell ⟨g,0,none⟩ v) g m e:=by
 obtain⟨v0,hg,hr,h3,h4⟩:=h
 have h1:=heap_setCell_same w g 0 _ 212 v hg
 exact⟨v,by rw [h1];rfl,hv,h3.set_ h4 _,h4⟩
def ZeH (w0 w:World) (g:Nat) (v:Value) (l:List Int) (e:Int) (x:Ending) (w':World):Prop:=x=.returned v∧PRP w0 w' g l e∧w.grownBy w' (some g)
theorem Zbl {w w1 w2:World} {r:Option Nat} (h:w.grownBy w1 r) (e:Ext w1 w2):w.grownBy w2 r :=
 ⟨e.os.trans h.os,e.tape.trans h.tape,e.output.trans h.output,Nat.le_trans h.size e.size,fun i hi hne=>(e.block i (Nat.lt_of_lt_of_le hi h.size)).trans (h.block i hi hne)⟩
theorem Zae {w w1 w2:World} {r:Option Nat} (h:w.grownBy w1 r) (e:w1.grownBy w2 r):w.grownBy w2 r :=
 ⟨e.os.trans h.os,e.tape.trans h.tape,e.output.trans h.output,Nat.le_trans h.size e.size,fun i hi hne=>(e.block i (Nat.lt_of_lt_of_le hi h.size) hne).trans (h.block i hi hne)⟩
theorem ZaB {w w':World} (h:Ext w w') (g:Option Nat):w.grownBy w' g:=⟨h.os,h.tape,h.output,h.size,fun i hi _=>h.block i hi⟩
theorem Zak {fn:Func} (h:fn.results=#[]) (tmps:Array Value) (P:Program) (w:World):(results fn tmps).run P w=.ok (.tuple #[]) w:=by simp [results,h]
def errP (e x:Int):Int:=if e=0 then x else e
theorem ZdJ (w0 w:World) (g:Nat) (l:List Int) (e x:Int) (h:PRP w0 w g l e) :
 Calls Tryz.prog 216 #[.pointer (some ⟨g,0,none⟩),.int .i64 x] w (ZeH w0 w g (.tuple #[]) l (errP e x)):=by
 obtain⟨A,c,hc1,hc2,hrow,a0,a1,f0,f1⟩:=h.cells
 unfold errP
 have HH:=Lh h
 have HS:=Lh (h.setErr x)
 clear h hrow
 by_cases he:e=0
 ·subst he
  rw [if_pos rfl]
  go_enter Tryz.func216,Tryz.ntmps216
  go_wp2
  refine bodyPost_ret (Zak rfl _ _ _) rfl ?_
  exact⟨rfl,HS.out,Zaa (World.grownBy.refl w _) 1 _⟩
 ·rw [if_neg he]
  have hb:(e==0)=false:=by simpa using he
  go_enter Tryz.func216,Tryz.ntmps216
  go_wp2
  refine bodyPost_ret (Zak rfl _ _ _) rfl ?_
  exact⟨rfl,HH.out,World.grownBy.refl w _⟩
theorem Zeh (w0 w:World) (g:Nat) (l:List Int) (e:Int) (n:Nat) (hn:n≤9223372036854775807) (h:PRP w0 w g l e) :
 Calls Tryz.prog 241 #[.pointer (some ⟨g,0,none⟩),.int .i64 n] w fun x w'=>∃ v m,x=.returned v∧Row w0 .u8 v (l.take n)∧w'=w.drewN m:=by
 obtain⟨A,c,hc1,hc2,hrow,a0,a1,f0,f1⟩:=h.cells
 unfold maxLen at hc2
 by_cases hle:n≤l.length
 ·obtain⟨v3,s3,s3',hh⟩:=ZbC hrow n hle
  have HH:=Lh hh
  have hmin:min (n:Int) (l.length:Int)=n:=by omega
  clear hh hrow h
  go_enter Tryz.func241,Tryz.ntmps241
  go_wp2
  go_quiet (fail)
  go_wp2
  go_ret
  exact⟨_,_,rfl,HH.out,rfl⟩
 ·have e1:l.take n=l:=List.take_of_length_le (by omega)
  rw [e1]
  obtain⟨v3,s3,s3',hh⟩:=ZbC hrow l.length (Nat.le_refl _)
  rw [List.take_length] at hh
  have HH:=Lh hh
  have hmin:min (n:Int) (l.length:Int)=l.length:=by omega
  clear hh hrow h
  go_enter Tryz.func241,Tryz.ntmps241
  go_wp2
  go_quiet (fail)
  go_wp2
  go_ret
  exact⟨_,_,rfl,HH.out,rfl⟩
theorem ZkH (w0 w:World) (g:Nat) (l:List Int) (e:Int) (n:Nat) (hn:n≤l.length) (h:PRP w0 w g l e) :
 Calls Tryz.prog 242 #[.pointer (some ⟨g,0,none⟩),.int .i64 n] w (ZeH w0 w g (.tuple #[]) (l.drop n) e):=by
 obtain⟨A,c,hc1,hc2,hrow,a0,a1,f0,f1⟩:=h.cells
 unfold maxLen at hc2
 obtain⟨v4,t4,t4',ht⟩:=ZbT hrow n hn
 have HT:=Lh (h.setRow ht)
 obtain⟨A4,c4,hv4,_⟩:=id ht
 rw [List.length_drop] at hv4
 subst hv4
 clear ht hrow h
 go_enter Tryz.func242,Tryz.ntmps242
 go_wp2
 refine bodyPost_ret (Zak rfl _ _ _) rfl ?_
 exact⟨rfl,HT.out,Zaa (World.grownBy.refl w _) 0 _⟩
theorem Zg4 (w0 w:World) (g:Nat) (l:List Int) (e n:Int) (h0:0≤n) (hn:n≤9223372036854775807) (h:PRP w0 w g l e) :
 Calls Tryz.prog 241 #[.pointer (some ⟨g,0,none⟩),.int .i64 n] w fun x w'=>∃ v m,x=.returned v∧Row w0 .u8 v (l.take n.toNat)∧w'=w.drewN m:=by
 obtain⟨k,rfl⟩:=Int.eq_ofNat_of_zero_le h0
 rw [Int.toNat_natCast]
 exact Zeh w0 w g l e k (by omega) h
theorem Zip (w0 w:World) (g:Nat) (l:List Int) (e n:Int) (h0:0≤n) (hn:n≤l.length) (h:PRP w0 w g l e) :
 Calls Tryz.prog 242 #[.pointer (some ⟨g,0,none⟩),.int .i64 n] w (ZeH w0 w g (.tuple #[]) (l.drop n.toNat) e):=by
 obtain⟨k,rfl⟩:=Int.eq_ofNat_of_zero_le h0
 rw [Int.toNat_natCast]
 exact ZkH w0 w g l e k (by omega) h
def tkP (l:List Int) (e:Int) (n:Nat):List Int × List Int × Int:=if e=0 then (if l.length<n then ([],l,3) else (l.take n,l.drop n,0)) else ([],l,e)
theorem ZnI (w0 w:World) (g:Nat) (l:List Int) (e:Int) (n:Nat) (hn:n≤9223372036854775807) (h:PRP w0 w g l e) :
 Calls Tryz.prog 217 #[.pointer (some ⟨g,0,none⟩),.int .i64 n] w fun x w'=>∃ v,ZeH w0 w g v (tkP l e n).2.1 (tkP l e n).2.2 x w'∧Row w0 .u8 v (tkP l e n).1:=by
 have hll:=h.cells
 obtain⟨A,c,hc1,hc2,-⟩:=hll
 unfold maxLen at hc2
 have HH:=Lh h
 by_cases hlt:l.length<n
 ·have e1:l.take n=l:=List.take_of_length_le (by omega)
  have E1:=Lh e1
  obtain⟨e9,he9⟩:∃ e9,errP e 3=e9:=⟨_,rfl⟩
  have hne:¬ e9=0:=by
   rw [← he9]
   unfold errP
   split
   ·decide
   ·assumption
  have e2:tkP l e n=([],l,e9):=by
   rw [← he9]
   unfold tkP errP
   by_cases h0:e=0
   ·rw [if_pos h0,if_pos h0,if_pos hlt]
   ·rw [if_neg h0,if_neg h0]
  rw [e2]
  have HE:=Lh he9
  have hb:(e9 != 0)=true:=by simpa using hne
  clear e1 e2 he9 hne
  go_enter Tryz.func217,Tryz.ntmps217
  go_wp2_with fail
  refine(Zeh w0 _ g l e n hn (by exact h)).mono ?_
  rintro x w1 ⟨v3,m1,rfl,hh,rfl⟩
  rw [E1.out] at hh
  obtain⟨A3,c3,rfl,-⟩:=hh
  have h1:=HH.out.ext ((Ext.refl w).drewN m1)
  go_wp2_with fail
  refine(ZdJ w0 _ g l e 3 (by exact h1)).mono ?_
  rw [HE.out]
  rintro x w2 ⟨rfl,h2,g2⟩
  obtain⟨A4,c4,-,-,-,b0,b1,f0,f1⟩:=h2.cells
  have G2:=Lh (Zae (ZaB ((Ext.refl w).drewN m1) (some g)) g2)
  have HH2:=Lh h2
  clear h1 h2 g2
  go_wp2
  go_ret
  exact⟨_,⟨rfl,HH2.out,G2.out⟩,(Own.nil 0 w0 5 .u8).row⟩
 ·have hlen:(l.take n).length=n:=by rw [List.length_take];omega
  have HL:=Lh hlen
  clear hlen
  by_cases he:e=0
  ·subst he
   have e2:tkP l 0 n=(l.take n,l.drop n,0):=by unfold tkP;rw [if_pos rfl,if_neg hlt]
   rw [e2]
   clear e2
   go_enter Tryz.func217,Tryz.ntmps217
   go_wp2_with fail
   refine(Zeh w0 _ g l 0 n hn (by exact h)).mono ?_
   rintro x w1 ⟨v3,m1,rfl,hh,rfl⟩
   have HH3:=Lh hh
   obtain⟨A3,c3,hv3,-⟩:=hh
   rw [HL.out] at hv3
   subst hv3
   have h1:=HH.out.ext ((Ext.refl w).drewN m1)
   obtain⟨A4,c4,-,-,-,b0,b1,f0,f1⟩:=h1.cells
   have HH1:=Lh h1
   clear h1
   go_wp2_with fail
   refine(ZkH w0 _ g l 0 n (by omega) (by exact HH1.out)).mono ?_
   rintro x w2 ⟨rfl,h2,g2⟩
   go_wp2
   go_ret
   exact⟨_,⟨rfl,h2,Zae (ZaB ((Ext.refl w).drewN m1) (some g)) g2⟩,HH3.out⟩
  ·have e2:tkP l e n=([],l,e):=by unfold tkP;rw [if_neg he]
   rw [e2]
   have hb:(e != 0)=true:=by simpa using he
   clear e2
   go_enter Tryz.func217,Tryz.ntmps217
   go_wp2_with fail
   refine(Zeh w0 _ g l e n hn (by exact h)).mono ?_
   rintro x w1 ⟨v3,m1,rfl,hh,rfl⟩
   obtain⟨A3,c3,hv3,-⟩:=hh
   rw [HL.out] at hv3
   subst hv3
   have h1:=HH.out.ext ((Ext.refl w).drewN m1)
   obtain⟨A4,c4,-,-,-,b0,b1,f0,f1⟩:=h1.cells
   have HH1:=Lh h1
   clear h1
   go_wp2
   go_ret
   exact⟨_,⟨rfl,HH1.out,ZaB ((Ext.refl w).drewN m1) (some g)⟩,(Own.nil 0 w0 5 .u8).row⟩
theorem Zg0 (w0 w:World) (g:Nat) (l:List Int) (e n:Int) (h0:0≤n) (hn:n≤9223372036854775807) (h:PRP w0 w g l e) :
 Calls Tryz.prog 217 #[.pointer (some ⟨g,0,none⟩),.int .i64 n] w fun x w'=>∃ v,ZeH w0 w g v (tkP l e n.toNat).2.1 (tkP l e n.toNat).2.2 x w'∧Row w0 .u8 v (tkP l e n.toNat).1:=by
 obtain⟨k,rfl⟩:=Int.eq_ofNat_of_zero_le h0
 rw [Int.toNat_natCast]
 exact ZnI w0 w g l e k (by omega) h
theorem PRP.set_o {w0 w:World} {g:Nat} {l:List Int} {e:Int} (h:PRP w0 w g l e) {q:Addr} (hq:q.block≠g) (hb:w0.heap.size≤q.block) (u:Value):PRP w0 (w.setCell q u) g l e:=by
 obtain⟨v,hg,h2,h3,h4⟩:=h
 exact⟨v,(Below.heap_setCell w q u g (fun e=>hq (by rw [e]))).trans hg,h2,h3.set_ hb _,h4⟩
theorem Zcr {w w2:World} {r:Option Nat} (h:w.grownBy w2 r) {q:Addr} (hq:w.heap.size≤q.block) (u:Value):w.grownBy (w2.setCell q u) r:=by
 refine⟨h.os,h.tape,h.output,by simpa [World.setCell] using h.size,fun i hi hne=>?_⟩
 rw [Below.heap_setCell w2 q u i (by omega)]
 exact h.block i hi hne
theorem PRP.six {w0 w:World} {g s:Nat} {l:List Int} {e:Int} (h:PRP w0 w g l e) (hs:s≠g) (hb:w0.heap.size≤s) (o:Nat) (u0 u1 u2 u3 u4 u5:Value) :
 PRP w0 ((((((w.setCell ⟨s,o,none⟩ u0).setCell ⟨s,o+1,none⟩ u1).setCell ⟨s,o+2,none⟩ u2).setCell ⟨s,o+3,none⟩ u3).setCell ⟨s,o+4,none⟩ u4).setCell ⟨s,o+5,none⟩ u5) g l e :=
 (((((h.set_o (q:=⟨s,o,none⟩) hs hb u0).set_o (q:=⟨s,o+1,none⟩) hs hb u1).set_o (q:=⟨s,o+2,none⟩) hs hb u2).set_o (q:=⟨s,o+3,none⟩) hs hb u3).set_o (q:=⟨s,o+4,none⟩) hs hb u4).set_o (q:=⟨s,o+5,none⟩) hs hb u5
theorem Zdl {w w2:World} {r:Option Nat} {s:Nat} (h:w.grownBy w2 r) (hs:w.heap.size≤s) (o:Nat) (u0 u1 u2 u3 u4 u5:Value) :
 w.grownBy ((((((w2.setCell ⟨s,o,none⟩ u0).setCell ⟨s,o+1,none⟩ u1).setCell ⟨s,o+2,none⟩ u2).setCell ⟨s,o+3,none⟩ u3).setCell ⟨s,o+4,none⟩ u4).setCell ⟨s,o+5,none⟩ u5) r :=
 (((((Zcr h (q:=⟨s,o,none⟩) hs u0) |> fun h=>Zcr h (q:=⟨s,o+1,none⟩) hs u1) |> fun h=>Zcr h (q:=⟨s,o+2,none⟩) hs u2) |> fun h=>Zcr h (q:=⟨s,o+3,none⟩) hs u3) |> fun h=>Zcr h (q:=⟨s,o+4,none⟩) hs u4) |> fun h=>Zcr h (q:=⟨s,o+5,none⟩) hs u5
def numP (t:List Int→Int × List Int × Int) (l:List Int) (e:Int):Int × List Int × Int :=
 if e=0 then (if (t (l.take 16)).2.2=0 then ((t (l.take 16)).1,l.drop ((l.take 16).length-(t (l.take 16)).2.1.length),0) else (0,l,(t (l.take 16)).2.2)) else (0,l,e)
def pU (l:List Int) (e:Int):Int × List Int × Int:=numP tU l e
def pS (l:List Int) (e:Int):Int × List Int × Int:=numP (tS 10 2) l e
theorem Zqd (l:List Int):(tU l).2.1.length≤l.length:=by
 by_cases h:(tU l).2.2=0
 ·have:=congrArg List.length (ZmL h).2
  rw [List.length_append] at this
  omega
 ·rw [(ZiN h).2]
  simp
theorem Zpf (l:List Int):(tS 10 2 l).2.1.length≤l.length:=by
 by_cases h:(tS 10 2 l).2.2=0
 ·have:=congrArg List.length (ZrE h)
  rw [List.length_append] at this
  omega
 ·rw [(Zk7 h).2.1]
  simp
set_option maxRecDepth 100000 in
theorem Zby (w0 w:World) (g:Nat) (l:List Int) (e:Int) (h:PRP w0 w g l e) :
 Calls Tryz.prog 215 #[.pointer (some ⟨g,0,none⟩),.func (.func 178) #[] #[]] w (ZeH w0 w g (.int .i64 (pU l e).1) (pU l e).2.1 (pU l e).2.2):=by
 have hlt16:(l.take 16).length≤16:=by rw [List.length_take];omega
 have c1:=fun v W hv=>ZiB v (l.take 16) W hv (by omega)
 have hsh:=Zqd (l.take 16)
 have hll:(l.take 16).length≤l.length:=by rw [List.length_take];omega
 have e0:pU l e=if e=0 then (if (tU (l.take 16)).2.2=0 then ((tU (l.take 16)).1,l.drop ((l.take 16).length-(tU (l.take 16)).2.1.length),0) else (0,l,(tU (l.take 16)).2.2)) else (0,l,e):=rfl
 obtain⟨⟨n,r,e1⟩,ht⟩:∃ t,t=tU (l.take 16):=⟨_,rfl⟩
 rw [← ht] at c1 hsh e0
 simp only at c1 hsh e0
 obtain⟨p,hp⟩:∃ p,(l.take 16).length=p:=⟨_,rfl⟩
 obtain⟨q,hq⟩:∃ q,r.length=q:=⟨_,rfl⟩
 rw [hp,hq] at hsh
 rw [hp] at hlt16 hll
 rw [hp,hq] at e0
 have HP:=Lh hp
 have HQ:=Lh hq
 have C1:=Lh c1
 have E0:=Lh e0
 clear ht c1 hp hq e0
 go_enter Tryz.func215,Tryz.ntmps215
 go_wp2_with fail
 refine(Zg4 w0 _ g l e 16 (by omega) (by omega) (by exact h)).mono ?_
 rintro x w1 ⟨v3,m1,rfl,hh,rfl⟩
 have hh:Row w0 .u8 v3 (l.take 16):=hh
 have h1:=h.ext ((Ext.refl w).drewN m1)
 have HH1:=Lh h1
 obtain⟨A3,c3,hv3,-⟩:=id hh
 rw [HP.out] at hv3
 subst hv3
 go_wp2_with fail
 refine(C1.out _ _ (by exact hh.ext HH1.out.ext0)).mono ?_
 rintro x w2 ⟨u2,rfl,⟨b2,rfl,ho2⟩,x2⟩
 simp only at ho2 ⊢
 obtain⟨A2,c2,hv2,-⟩:=ho2.row
 rw [HQ.out] at hv2
 subst hv2
 have h2:=HH1.out.ext x2
 have X2:=Lh (((Ext.refl w).drewN m1).trans x2)
 have HH2:=Lh h2
 clear hh h1 ho2 x2 h2
 go_wp2_with fail
 refine(ZdJ w0 _ g l e e1 (by exact HH2.out)).mono ?_
 rintro x w3 ⟨rfl,h3,g3⟩
 have HH3:=Lh h3
 have G3:=Lh (Zae (ZaB X2.out (some g)) g3)
 obtain⟨A4,c4,-,-,-,b0,b1,f0,f1⟩:=h3.cells
 clear h3 g3 h
 by_cases he:e=0
 ·by_cases he1:e1=0
  ·subst he he1
   rw [show errP 0 0=0 from rfl] at b1 HH3
   have e2:pU l 0=(n,l.drop (p-q),0):=by rw [E0.out];rfl
   have E2:=Lh e2
   clear e2
   go_wp2_with fail
   refine(Zip w0 _ g l 0 _ (by omega) (by omega) (by exact HH3.out)).mono ?_
   rintro x w4 ⟨rfl,h4,g4⟩
   rw [show ((p:Int)-(q:Int)).toNat=p-q by omega] at h4
   go_wp2
   go_ret
   rw [E2.out]
   exact⟨rfl,h4,Zae G3.out g4⟩
  ·subst he
   rw [show errP 0 e1=e1 from rfl] at b1 HH3
   have hb:(e1 != 0)=true:=by simpa using he1
   have e2:pU l 0=(0,l,e1):=by rw [E0.out,if_pos rfl,if_neg he1]
   have E2:=Lh e2
   clear e2
   go_wp2
   go_ret
   rw [E2.out]
   exact⟨rfl,HH3.out,G3.out⟩
 ·rw [show errP e e1=e from if_neg he] at b1 HH3
  have hb:(e != 0)=true:=by simpa using he
  have e2:pU l e=(0,l,e):=by rw [E0.out,if_neg he]
  have E2:=Lh e2
  clear e2
  go_wp2
  go_ret
  rw [E2.out]
  exact⟨rfl,HH3.out,G3.out⟩
set_option maxRecDepth 100000 in
theorem ZjG (w0 w:World) (g:Nat) (l:List Int) (e:Int) (h:PRP w0 w g l e) :
 Calls Tryz.prog 215 #[.pointer (some ⟨g,0,none⟩),.func (.func 240) #[] #[]] w (ZeH w0 w g (.int .i64 (pS l e).1) (pS l e).2.1 (pS l e).2.2):=by
 have hlt16:(l.take 16).length≤16:=by rw [List.length_take];omega
 have c1:=fun v W hv=>ZmQ v (l.take 16) W hv (by omega)
 have hsh:=Zpf (l.take 16)
 have hll:(l.take 16).length≤l.length:=by rw [List.length_take];omega
 have e0:pS l e=if e=0 then (if (tS 10 2 (l.take 16)).2.2=0 then ((tS 10 2 (l.take 16)).1,l.drop ((l.take 16).length-(tS 10 2 (l.take 16)).2.1.length),0) else (0,l,(tS 10 2 (l.take 16)).2.2)) else (0,l,e):=rfl
 obtain⟨⟨n,r,e1⟩,ht⟩:∃ t,t=tS 10 2 (l.take 16):=⟨_,rfl⟩
 rw [← ht] at c1 hsh e0
 simp only at c1 hsh e0
 obtain⟨p,hp⟩:∃ p,(l.take 16).length=p:=⟨_,rfl⟩
 obtain⟨q,hq⟩:∃ q,r.length=q:=⟨_,rfl⟩
 rw [hp,hq] at hsh
 rw [hp] at hlt16 hll
 rw [hp,hq] at e0
 have HP:=Lh hp
 have HQ:=Lh hq
 have C1:=Lh c1
 have E0:=Lh e0
 clear ht c1 hp hq e0
 go_enter Tryz.func215,Tryz.ntmps215
 go_wp2_with fail
 refine(Zg4 w0 _ g l e 16 (by omega) (by omega) (by exact h)).mono ?_
 rintro x w1 ⟨v3,m1,rfl,hh,rfl⟩
 have hh:Row w0 .u8 v3 (l.take 16):=hh
 have h1:=h.ext ((Ext.refl w).drewN m1)
 have HH1:=Lh h1
 obtain⟨A3,c3,hv3,-⟩:=id hh
 rw [HP.out] at hv3
 subst hv3
 go_wp2_with fail
 refine(C1.out _ _ (by exact hh.ext HH1.out.ext0)).mono ?_
 rintro x w2 ⟨u2,rfl,⟨b2,rfl,ho2⟩,x2⟩
 simp only at ho2 ⊢
 obtain⟨A2,c2,hv2,-⟩:=ho2.row
 rw [HQ.out] at hv2
 subst hv2
 have h2:=HH1.out.ext x2
 have X2:=Lh (((Ext.refl w).drewN m1).trans x2)
 have HH2:=Lh h2
 clear hh h1 ho2 x2 h2
 go_wp2_with fail
 refine(ZdJ w0 _ g l e e1 (by exact HH2.out)).mono ?_
 rintro x w3 ⟨rfl,h3,g3⟩
 have HH3:=Lh h3
 have G3:=Lh (Zae (ZaB X2.out (some g)) g3)
 obtain⟨A4,c4,-,-,-,b0,b1,f0,f1⟩:=h3.cells
 clear h3 g3 h
 by_cases he:e=0
 ·by_cases he1:e1=0
  ·subst he he1
   rw [show errP 0 0=0 from rfl] at b1 HH3
   have e2:pS l 0=(n,l.drop (p-q),0):=by rw [E0.out];rfl
   have E2:=Lh e2
   clear e2
   go_wp2_with fail
   refine(Zip w0 _ g l 0 _ (by omega) (by omega) (by exact HH3.out)).mono ?_
   rintro x w4 ⟨rfl,h4,g4⟩
   rw [show ((p:Int)-(q:Int)).toNat=p-q by omega] at h4
   go_wp2
   go_ret
   rw [E2.out]
   exact⟨rfl,h4,Zae G3.out g4⟩
  ·subst he
   rw [show errP 0 e1=e1 from rfl] at b1 HH3
   have hb:(e1 != 0)=true:=by simpa using he1
   have e2:pS l 0=(0,l,e1):=by rw [E0.out,if_pos rfl,if_neg he1]
   have E2:=Lh e2
   clear e2
   go_wp2
   go_ret
   rw [E2.out]
   exact⟨rfl,HH3.out,G3.out⟩
 ·rw [show errP e e1=e from if_neg he] at b1 HH3
  have hb:(e != 0)=true:=by simpa using he
  have e2:pS l e=(0,l,e):=by rw [E0.out,if_neg he]
  have E2:=Lh e2
  clear e2
  go_wp2
  go_ret
  rw [E2.out]
  exact⟨rfl,HH3.out,G3.out⟩
def cntP (l:List Int):Int × List Int × Int:=if (pU l 0).2.2=0∧4096<(pU l 0).1 then (0,(pU l 0).2.1,5) else pU l 0
theorem ZrP {l:List Int} {e:Int} (h:¬ (pU l e).2.2=0):(pU l e).1=0:=by
 unfold pU numP at h ⊢
 by_cases he:e=0
 ·rw [if_pos he] at h ⊢
  by_cases h2:(tU (l.take 16)).2.2=0
  ·rw [if_pos h2] at h
   exact absurd rfl h
  ·rw [if_neg h2]
 ·rw [if_neg he]
theorem ZoI (w0 w:World) (g:Nat) (l:List Int) (h:PRP w0 w g l 0) :
 Calls Tryz.prog 175 #[.pointer (some ⟨g,0,none⟩)] w (ZeH w0 w g (.int .i64 (cntP l).1) (cntP l).2.1 (cntP l).2.2):=by
 have c1:=Zby w0 w g l 0 h
 have e0:cntP l=if (pU l 0).2.2=0∧4096<(pU l 0).1 then (0,(pU l 0).2.1,5) else pU l 0:=rfl
 have hz:=@ZrP l 0
 obtain⟨⟨n,r,e1⟩,ht⟩:∃ t,t=pU l 0:=⟨_,rfl⟩
 rw [← ht] at c1 e0 hz
 simp only at c1 e0 hz
 have C1:=Lh c1
 have E0:=Lh e0
 clear ht c1 e0
 by_cases hn:4096<n
 ·have he1:e1=0:=by
   by_cases h1:e1=0
   ·exact h1
   ·have:=hz h1
    omega
  subst he1
  have e2:cntP l=(0,r,5):=by rw [E0.out,if_pos ⟨rfl,hn⟩]
  rw [e2]
  clear e2 hz h
  go_enter Tryz.func175,Tryz.ntmps175
  go_wp2_with fail
  refine C1.out.mono ?_
  rintro x w1 ⟨rfl,h1,g1⟩
  go_wp2_with fail
  refine(ZdJ w0 _ g r 0 5 (by exact h1)).mono ?_
  rintro x w2 ⟨rfl,h2,g2⟩
  go_wp2
  go_ret
  exact⟨rfl,h2,Zae g1 g2⟩
 ·have e2:cntP l=(n,r,e1):=by rw [E0.out,if_neg (fun h=>hn h.2)]
  rw [e2]
  clear e2 hz h
  go_enter Tryz.func175,Tryz.ntmps175
  go_wp2_with fail
  refine C1.out.mono ?_
  rintro x w1 ⟨rfl,h1,g1⟩
  go_wp2
  go_ret
  exact⟨rfl,h1,g1⟩
def kndP (l:List Int):Int × List Int × Int:=if l=[] then (0,[],3) else if 7≤gi l 0 then (0,l.drop 1,0) else (gi l 0,l.drop 1,0)
theorem Zp8 (w0 w:World) (g:Nat) (l:List Int) (h:PRP w0 w g l 0) :
 Calls Tryz.prog 176 #[.pointer (some ⟨g,0,none⟩)] w (ZeH w0 w g (.int .i64 (kndP l).1) (kndP l).2.1 (kndP l).2.2):=by
 have c1:=Zg0 w0 w g l 0 1 (by omega) (by omega) h
 rw [show (1:Int).toNat=1 from rfl] at c1
 by_cases hl:l=[]
 ·subst hl
  rw [show tkP [] 0 1=([],[],3) from rfl] at c1
  simp only at c1
  rw [show kndP []=(0,[],3) from rfl]
  have C1:=Lh c1
  clear c1 h
  go_enter Tryz.func176,Tryz.ntmps176
  go_wp2_with fail
  refine C1.out.mono ?_
  rintro x w1 ⟨v1,⟨rfl,h1,g1⟩,hr⟩
  obtain⟨A1,k1,rfl,-⟩:=hr
  simp only [List.length_nil]
  go_wp2
  go_ret
  exact⟨rfl,h1,g1⟩
 ·have hl0:0<l.length:=List.length_pos_iff.2 hl
  have et:tkP l 0 1=(l.take 1,l.drop 1,0):=by unfold tkP;rw [if_pos rfl,if_neg (by omega)]
  rw [et] at c1
  simp only at c1
  have hl1:(l.take 1).length=1:=by rw [List.length_take];omega
  have hg0:gi (l.take 1) 0=gi l 0:=by simp [gi]
  have ek:kndP l=if 7≤gi l 0 then (0,l.drop 1,0) else (gi l 0,l.drop 1,0):=by unfold kndP;rw [if_neg hl]
  rw [ek]
  obtain⟨y,hy⟩:∃ y,gi l 0=y:=⟨_,rfl⟩
  rw [hy] at hg0 ⊢
  have C1:=Lh c1
  have HG:=Lh hg0
  have HL:=Lh hl1
  clear c1 h et hy hg0 hl1 ek
  by_cases h7:7≤y
  ·rw [if_pos h7]
   go_enter Tryz.func176,Tryz.ntmps176
   go_wp2_with fail
   refine C1.out.mono ?_
   rintro x w1 ⟨v1,⟨rfl,h1,g1⟩,hr⟩
   obtain⟨A1,k1,rfl,hk1,hk2,-,hfit,h6⟩:=hr.ext h1.ext0
   rw [HL.out] at h6 hk1 ⊢
   obtain⟨bl,o,rfl,hbl,hcell⟩:=h6 (by omega)
   have b0:=hcell 0 (by omega)
   have hb8:=hfit.u8 (Zbb (l:=l.take 1) (j:=0) (by rw [HL.out];omega))
   rw [HG.out] at b0 hb8
   rw [Nat.add_zero] at b0
   have H1:=Lh h1
   clear hcell h6 hfit hr h1
   unfold maxLen at hk2
   go_wp2
   go_ret
   exact⟨rfl,H1.out,g1⟩
  ·rw [if_neg h7]
   go_enter Tryz.func176,Tryz.ntmps176
   go_wp2_with fail
   refine C1.out.mono ?_
   rintro x w1 ⟨v1,⟨rfl,h1,g1⟩,hr⟩
   obtain⟨A1,k1,rfl,hk1,hk2,-,hfit,h6⟩:=hr.ext h1.ext0
   rw [HL.out] at h6 hk1 ⊢
   obtain⟨bl,o,rfl,hbl,hcell⟩:=h6 (by omega)
   have b0:=hcell 0 (by omega)
   have hb8:=hfit.u8 (Zbb (l:=l.take 1) (j:=0) (by rw [HL.out];omega))
   rw [HG.out] at b0 hb8
   rw [Nat.add_zero] at b0
   have H1:=Lh h1
   clear hcell h6 hfit hr h1
   unfold maxLen at hk2
   go_wp2
   go_ret
   exact⟨rfl,H1.out,g1⟩
theorem Zdt {w w2:World} {g:Nat} {o:Obj} (hlt:g<w.heap.size) (hg:(w.alloc o).grownBy w2 (some g)):w2.heap[w.heap.size]?=some o∧w.grownBy w2 (some g):=by
 refine⟨?_,Zae (ZaB ((Ext.refl w).alloc o) _) hg⟩
 rw [hg.block w.heap.size (by simp) (fun e=>by injection e;omega),heap_alloc_new]
set_option maxRecDepth 100000 in
theorem ZpP (w0 w:World) (g:Nat) (l:List Int) (e:Int) (h:PRP w0 w g l e) :
 Calls Tryz.prog 210 #[.pointer (some ⟨g,0,none⟩)] w (ZeH w0 w g (.agg c0.vals) l (errP e 4)):=by
 have hlt:=h.lt
 have hbs:=h.base
 have h1:=h.ext ((Ext.refl w).alloc (.cells c0.vals 49))
 have hw:=h.ext0.size
 have H1:=Lh h1
 clear h1 h
 go_enter Tryz.func210,Tryz.ntmps210
 go_wp2_with fail
 refine(ZdJ w0 _ g l e 4 (by exact H1.out)).mono ?_
 rintro x w2 ⟨rfl,h2,g2⟩
 obtain⟨k1,g3⟩:=Zdt hlt g2
 clear g2
 obtain⟨y0,y1,y2,y3,y4,y5⟩:=At0.of (y:=c0) k1
 have fz1:∀ j,w2.frozen? ⟨w.heap.size,j,none⟩=false:=fun j=>by simp [World.frozen?,k1]
 have HR:=Lh h2
 have GR:=Lh g3
 simp only [c0] at y0 y1 y2 y3 y4 y5
 clear k1 h2
 go_wp2
 exact bodyPost_ret (v:=.agg (Cst.vals c0)) (by unfold Cst.vals c0;simp [results,Tryz.results210,go_sem,y0,y1,y2,y3,y4,y5];try rfl) rfl ⟨rfl,HR.out.six (by omega) (by omega) 0 _ _ _ _ _ _,Zdl GR.out (Nat.le_refl _) 0 _ _ _ _ _ _⟩
set_option maxRecDepth 100000 in
theorem Zn4 (w0 w:World) (g:Nat) (l:List Int) (e:Int) (h:PRP w0 w g l e) :
 Calls Tryz.prog 212 #[.pointer (some ⟨g,0,none⟩)] w (ZeH w0 w g (.agg (Cst.vals ⟨0,.empty,(pS l e).1,0,0,0⟩)) (pS l e).2.1 (pS l e).2.2):=by
 have hlt:=h.lt
 have hbs:=h.base
 have h1:=h.ext ((Ext.refl w).alloc (.cells c0.vals 49))
 have hw:=h.ext0.size
 have c1:=ZjG w0 _ g l e h1
 obtain⟨⟨n,r,e1⟩,ht⟩:∃ t,t=pS l e:=⟨_,rfl⟩
 rw [← ht] at c1 ⊢
 simp only at c1 ⊢
 have C1:=Lh c1
 clear h1 h ht c1
 go_enter Tryz.func212,Tryz.ntmps212
 go_wp2_with fail
 refine C1.out.mono ?_
 rintro x w2 ⟨rfl,h2,g2⟩
 obtain⟨k1,g3⟩:=Zdt hlt g2
 clear g2
 obtain⟨y0,y1,y2,y3,y4,y5⟩:=At0.of (y:=c0) k1
 have fz1:∀ j,w2.frozen? ⟨w.heap.size,j,none⟩=false:=fun j=>by simp [World.frozen?,k1]
 have HR:=Lh h2
 have GR:=Lh g3
 simp only [c0] at y0 y1 y2 y3 y4 y5
 clear k1 h2
 go_wp2
 exact bodyPost_ret (v:=.agg (Cst.vals ⟨0,.empty,n,0,0,0⟩)) (by unfold Cst.vals;simp [results,Tryz.results212,go_sem,y0,y1,y2,y3,y4,y5];try rfl) rfl ⟨rfl,HR.out.six (by omega) (by omega) 0 _ _ _ _ _ _,Zdl GR.out (Nat.le_refl _) 0 _ _ _ _ _ _⟩
set_option maxRecDepth 100000 in
theorem ZnG (w0 w:World) (g:Nat) (l:List Int) (e:Int) (h:PRP w0 w g l e) :
 Calls Tryz.prog 213 #[.pointer (some ⟨g,0,none⟩)] w (ZeH w0 w g (.agg (Cst.vals ⟨0,.empty,0,(pU l e).1,0,0⟩)) (pU l e).2.1 (pU l e).2.2):=by
 have hlt:=h.lt
 have hbs:=h.base
 have h1:=h.ext ((Ext.refl w).alloc (.cells c0.vals 49))
 have hw:=h.ext0.size
 have c1:=Zby w0 _ g l e h1
 obtain⟨⟨n,r,e1⟩,ht⟩:∃ t,t=pU l e:=⟨_,rfl⟩
 rw [← ht] at c1 ⊢
 simp only at c1 ⊢
 have C1:=Lh c1
 clear h1 h ht c1
 go_enter Tryz.func213,Tryz.ntmps213
 go_wp2_with fail
 refine C1.out.mono ?_
 rintro x w2 ⟨rfl,h2,g2⟩
 obtain⟨k1,g3⟩:=Zdt hlt g2
 clear g2
 obtain⟨y0,y1,y2,y3,y4,y5⟩:=At0.of (y:=c0) k1
 have fz1:∀ j,w2.frozen? ⟨w.heap.size,j,none⟩=false:=fun j=>by simp [World.frozen?,k1]
 have HR:=Lh h2
 have GR:=Lh g3
 simp only [c0] at y0 y1 y2 y3 y4 y5
 clear k1 h2
 go_wp2
 exact bodyPost_ret (v:=.agg (Cst.vals ⟨0,.empty,0,n,0,0⟩)) (by unfold Cst.vals;simp [results,Tryz.results213,go_sem,y0,y1,y2,y3,y4,y5];try rfl) rfl ⟨rfl,HR.out.six (by omega) (by omega) 0 _ _ _ _ _ _,Zdl GR.out (Nat.le_refl _) 0 _ _ _ _ _ _⟩
def memP (l:List Int) (e:Int):Cst × List Int × Int :=
 (⟨0,.empty,0,(pU l e).1,(pU (pU l e).2.1 (pU l e).2.2).1,(pU (pU (pU l e).2.1 (pU l e).2.2).2.1 (pU (pU l e).2.1 (pU l e).2.2).2.2).1⟩,(pU (pU (pU l e).2.1 (pU l e).2.2).2.1 (pU (pU l e).2.1 (pU l e).2.2).2.2).2)
set_option maxRecDepth 100000 in
theorem Zg3 (w0 w:World) (g:Nat) (l:List Int) (e:Int) (h:PRP w0 w g l e) :
 Calls Tryz.prog 214 #[.pointer (some ⟨g,0,none⟩)] w (ZeH w0 w g (.agg (Cst.vals (memP l e).1)) (memP l e).2.1 (memP l e).2.2):=by
 have hlt:=h.lt
 have hbs:=h.base
 have h1:=h.ext ((Ext.refl w).alloc (.cells c0.vals 49))
 have hw:=h.ext0.size
 have c1:=Zby w0 _ g l e h1
 unfold memP
 obtain⟨⟨n1,r1,e1⟩,ht1⟩:∃ t,t=pU l e:=⟨_,rfl⟩
 rw [← ht1] at c1 ⊢
 simp only at c1 ⊢
 have c2:=fun W hW=>Zby w0 W g r1 e1 hW
 obtain⟨⟨n2,r2,e2⟩,ht2⟩:∃ t,t=pU r1 e1:=⟨_,rfl⟩
 rw [← ht2] at c2 ⊢
 simp only at c2 ⊢
 have c3:=fun W hW=>Zby w0 W g r2 e2 hW
 obtain⟨⟨n3,r3,e3⟩,ht3⟩:∃ t,t=pU r2 e2:=⟨_,rfl⟩
 rw [← ht3] at c3 ⊢
 simp only at c3 ⊢
 have C1:=Lh c1
 have C2:=Lh c2
 have C3:=Lh c3
 clear h1 h ht1 ht2 ht3 c1 c2 c3
 go_enter Tryz.func214,Tryz.ntmps214
 go_wp2_with fail
 refine C1.out.mono ?_
 rintro x w2 ⟨rfl,h2,g2⟩
 go_wp2_with fail
 refine(C2.out _ (by exact h2)).mono ?_
 rintro x w3 ⟨rfl,h3,g3⟩
 go_wp2_with fail
 refine(C3.out _ (by exact h3)).mono ?_
 rintro x w4 ⟨rfl,h4,g4⟩
 obtain⟨k1,g5⟩:=Zdt hlt (Zae (Zae g2 g3) g4)
 clear g2 g3 g4 h2 h3
 obtain⟨y0,y1,y2,y3,y4,y5⟩:=At0.of (y:=c0) k1
 have fz1:∀ j,w4.frozen? ⟨w.heap.size,j,none⟩=false:=fun j=>by simp [World.frozen?,k1]
 have HR:=Lh h4
 have GR:=Lh g5
 simp only [c0] at y0 y1 y2 y3 y4 y5
 clear k1 h4
 go_wp2
 exact bodyPost_ret (v:=.agg (Cst.vals ⟨0,.empty,0,n1,n2,n3⟩)) (by unfold Cst.vals;simp [results,Tryz.results214,go_sem,y0,y1,y2,y3,y4,y5];try rfl) rfl ⟨rfl,HR.out.six (by omega) (by omega) 0 _ _ _ _ _ _,Zdl GR.out (Nat.le_refl _) 0 _ _ _ _ _ _⟩
end Go.Proofs.YtclamhhgldkhnaaGreatDoor
namespace Go.Proofs.YtclamhhgldkhnaaGreatDoor
theorem ZiZ {H:Type} {d:DataW H} {l:List (DataW H)} (h:d∈l):Rows.uptoBulk d≤Rows.uptoBulkAll l:=by
 induction l with
 | nil=>cases h
 | cons x r ih =>
  simp only [Rows.uptoBulkAll]
  rcases List.mem_cons.1 h with rfl | h
  ·omega
  ·have:=ih h
   omega
theorem ZlV {H:Type} {l:List (DataW H)} (hk:Rows.uptoSmall H l=true):Rows.uptoBulkAll l≤1048576:=of_decide_eq_true hk
end Go.Proofs.YtclamhhgldkhnaaGreatDoor
namespace Go.Proofs.YtclamhhgldkhnaaGreatDoor
open Go.RowKit Go.ChangeShapes Go.WideShapes Go.Deep
set_option linter.unusedVariables false
theorem Zr0 {Q:Nat→Cst→Prop}:∀ (n:Nat),(∀ i,i<n→∃ y,Q i y)→∃ l:List Cst,l.length=n∧∀ i,i<n→Q i (gc l i):=by
 intro n
 induction n with
 | zero=>exact fun _=>⟨[],rfl,fun i h=>absurd h (Nat.not_lt_zero i)⟩
 | succ n ih =>
  intro h
  obtain⟨l,hl,hq⟩:=ih (fun i hi=>h i (by omega))
  obtain⟨y,hy⟩:=h n (by omega)
  refine⟨l++[y],by simp [hl],fun i hi=>?_⟩
  by_cases hin:i<n
  ·have e:gc (l++[y]) i=gc l i:=by simp [gc,List.getElem?_append_left (show i<l.length by omega)]
   rw [e]
   exact hq i hin
  ·have e:gc (l++[y]) i=y:=by
    have:i=l.length:=by omega
    subst this
    simp [gc]
   rw [e,show i=n by omega]
   exact hy
theorem Zid {l:List Cst} {y:Cst} (h:y∈l):∃ i,i<l.length∧gc l i=y:=by
 obtain⟨i,hi,he⟩:=List.mem_iff_getElem.1 h
 exact⟨i,hi,by simp [gc,hi,he]⟩
section
variable {H : Type} {enc : TypeId × Value → H} {w : World} {base : Nat} {spare : Nat → Bool} {held : Bool}
def datP (y:Cst):DataW H:=.agg [.lit (.int .i64 y.k),.lit (.string y.t.data.toList),.lit (.int .i64 y.n),.lit (.int .i64 y.a),.lit (.int .i64 y.b),.lit (.int .i64 y.c)]
theorem ZfS {x:Int} (h:(Lit.int .i64 x).wf=true):I64 x:=by
 simp [Lit.wf,IntKind.min,IntKind.max,IntKind.signed,IntKind.bits] at h
 exact⟨by omega,by omega⟩
set_option maxRecDepth 100000 in
theorem Zmc {fuel:Nat} {cs:List Value} {x:DataW H × List MemPlace} (h:DataW.trod enc Tryz.prog w base spare held fuel 49 cs=some x) :
 ∃ y:Cst,cs=y.vals.toList∧x.1=datP y∧y.ok∧y.t.size≤maxLen:=by
 obtain⟨ys,n',hn',hy,hlen,hyl,hf⟩:=DataW.trod_struct Tryz.underlying49 h
 have hc:cs.length=6:=hlen.trans (by kernel_rfl)
 have k3:Tryz.prog.cellsOf 3=1:=by kernel_rfl
 have k9:Tryz.prog.cellsOf 9=1:=by kernel_rfl
 match cs,hc with
 | [c0,c1,c2,c3,c4,c5],_ =>
  have hyl':ys.length=6:=hyl
  clear hyl
  match ys,hyl' with
  | [y0,y1,y2,y3,y4,y5],_ =>
   have h0:DataW.trod enc Tryz.prog w base spare held n' 3 [c0]=some y0:=by simpa [k3,k9] using hf 0 _ rfl
   have h1:DataW.trod enc Tryz.prog w base spare held n' 9 [c1]=some y1:=by simpa [k3,k9] using hf 1 _ rfl
   have h2:DataW.trod enc Tryz.prog w base spare held n' 3 [c2]=some y2:=by simpa [k3,k9] using hf 2 _ rfl
   have h3:DataW.trod enc Tryz.prog w base spare held n' 3 [c3]=some y3:=by simpa [k3,k9] using hf 3 _ rfl
   have h4:DataW.trod enc Tryz.prog w base spare held n' 3 [c4]=some y4:=by simpa [k3,k9] using hf 4 _ rfl
   have h5:DataW.trod enc Tryz.prog w base spare held n' 3 [c5]=some y5:=by simpa [k3,k9] using hf 5 _ rfl
   obtain⟨x0,e0,r0,w0⟩:=DataW.trod_int Tryz.underlying3 h0
   obtain⟨x1,e1,r1,w1⟩:=DataW.trod_string Tryz.underlying9 h1
   obtain⟨x2,e2,r2,w2⟩:=DataW.trod_int Tryz.underlying3 h2
   obtain⟨x3,e3,r3,w3⟩:=DataW.trod_int Tryz.underlying3 h3
   obtain⟨x4,e4,r4,w4⟩:=DataW.trod_int Tryz.underlying3 h4
   obtain⟨x5,e5,r5,w5⟩:=DataW.trod_int Tryz.underlying3 h5
   injection e0 with e0
   injection e1 with e1
   injection e2 with e2
   injection e3 with e3
   injection e4 with e4
   injection e5 with e5
   subst e0 e1 e2 e3 e4 e5 r0 r1 r2 r3 r4 r5
   exact⟨⟨x0,x1,x2,x3,x4,x5⟩,rfl,by rw [hy];rfl,⟨ZfS w0,ZfS w2,ZfS w3,ZfS w4,ZfS w5⟩,w1⟩
theorem ZjW {fuel:Nat} {cs:List Value} {x:DataW H × List MemPlace} (h:DataW.trod enc Tryz.prog w base spare held fuel 22 cs=some x) :
 ∃ (A:Option Addr) (n c:Nat) (l:List Cst) (sp:List (DataW H)),cs=[.slice A n c]∧l.length=n∧RowC w (.slice A n c) l∧(∀ y∈l,y.t.size≤maxLen)∧((l=[]∧x.1=.nil)∨x.1=.slice (l.map datP) sp):=by
 rcases open_slice Tryz.underlying22 h with⟨rfl,rfl⟩ | ⟨a,len,cap,m,n,D,Pl,rfl,hb,hl,hm,hmm,rfl,hi⟩
 ·exact⟨none,0,0,[],[],rfl,rfl,RowC.nil w,(fun _ h=>by cases h),.inl ⟨rfl,rfl⟩⟩
 ·have hlm:len≤m:=by rw [hmm];split <;> omega
  have k6:Tryz.prog.cellsOf 49=6:=by kernel_rfl
  obtain⟨l,hll,hq⟩:=Zr0 (Q:=fun i y=>D i=datP y∧y.ok∧y.t.size≤maxLen∧∀ j,j<6→w.cell? (a.add (i*6+j))=y.vals[j]?) len (fun i hil=>by
   obtain⟨cs',hc,ht'⟩:=hi i (by omega)
   rw [k6] at hc
   obtain⟨y,hv,hd,hok,hs⟩:=Zmc ht'
   obtain⟨_,hcl,hat⟩:=World.cells?_some hc
   refine⟨y,hd,hok,hs,fun j hj=>?_⟩
   have:=hat j hj
   rw [← Go.Deep.add_add,this,hv]
   simp)
  have hdat:(List.range len).map D=l.map datP:=by
   apply List.ext_getElem
   ·simp [hll]
   ·intro i h1 h2
    have hi':i<len:=by simpa using h1
    have:=(hq i hi').1
    simp [this,gc,show i<l.length by omega]
  refine⟨some a,len,cap,l,_,rfl,hll,⟨some a,cap,by rw [hll],by omega,hm,(fun h=>by cases h),fun y hy=>?_,fun hp=>?_⟩,fun y hy=>?_,.inr (by rw [hdat])⟩
  ·obtain⟨i,hi',rfl⟩:=Zid hy
   exact(hq i (by omega)).2.1
  ·have h0:=(hq 0 (by omega)).2.2.2 0 (by omega)
   obtain⟨b,o,spot⟩:=a
   have hs:spot=none:=by
    have h0':w.cell? ((⟨b,o,spot⟩:Addr).add (0*6+0))=some (.int .i64 (gc l 0).k):=h0
    simpa [Addr.add] using World.cell?_spot h0'
   subst hs
   refine⟨b,o,rfl,World.block_lt_of_cell? w ((⟨b,o,none⟩:Addr).add (0*6+0)) h0,fun j hj=>?_⟩
   have hc:=(hq j (by omega)).2.2.2
   have hx:∀ f,f<6→w.cell? ⟨b,o+j*6+f,none⟩=(gc l j).vals[f]?:=fun f hf=>by
    have:=hc f hf
    rw [Addr.add_lit] at this
    rw [Nat.add_assoc]
    exact this
   exact⟨hx 0 (by omega),hx 1 (by omega),hx 2 (by omega),hx 3 (by omega),hx 4 (by omega),hx 5 (by omega)⟩
  ·obtain⟨i,hi',rfl⟩:=Zid hy
   exact(hq i (by omega)).2.2.1
theorem Zi1 (y:Cst):y.t.data.toList.length∈(datP y:DataW H).weights Tryz.prog 49:=by
 unfold datP
 rw [DataW.weights,Tryz.underlying49]
 simp [DataW.weightsEach,DataW.weights]
def tot (l:List Cst):Nat:=(l.map fun y=>y.t.size+1).sum
theorem ZrS {l:List Cst} {y:Cst} (h:y∈l):y.t.size<tot l:=by
 induction l with
 | nil=>cases h
 | cons x l ih =>
  have e:tot (x :: l)=x.t.size+1+tot l:=by simp [tot]
  rw [e]
  rcases List.mem_cons.1 h with rfl | h
  ·omega
  ·have:=ih h
   omega
theorem Zpt (y:Cst):y.t.size+1≤Rows.uptoBulk (datP y:DataW H):=by
 have e:y.t.size=y.t.data.toList.length:=Lib.size_eq _
 unfold datP
 rw [e]
 simp only [Rows.uptoBulk,Rows.uptoBulkAll]
 omega
theorem ZjF (l:List Cst) (sp:List (DataW H)):tot l≤Rows.uptoBulk (.slice (l.map datP) sp:DataW H):=by
 have h:tot l≤Rows.uptoBulkAll (l.map (datP:Cst→DataW H)):=by
  induction l with
  | nil=>exact Nat.le_refl _
  | cons x l ih =>
   have e:tot (x :: l)=x.t.size+1+tot l:=by simp [tot]
   have:=Zpt (H:=H) x
   rw [e,List.map_cons,Rows.uptoBulkAll]
   omega
 simp only [Rows.uptoBulk]
 omega
end
end Go.Proofs.YtclamhhgldkhnaaGreatDoor
namespace Go.Proofs.YtclamhhgldkhnaaGreatDoor
open Go.RowKit
set_option linter.unusedVariables false
theorem Zq5 {l:List Int} {p:Int→Bool} {k:Nat} (h:k<l.length) (hp:p (gi l k)=false):l.all p=false:=by
 rw [List.all_eq_false]
 exact⟨_,Zbb h,by rw [hp];simp⟩
theorem Zlj {l:List Int} {p:Int→Bool} {k:Nat} (h:k<l.length) (ha:(l.take k).all p=true) (hp:p (gi l k)=true):(l.take (k+1)).all p=true:=by
 rw [Zdw h,List.all_append,ha]
 simp [hp]
theorem Zeo (v:Value) (l:List Int) (w:World) (h:Row w .i64 v l) :
 Calls Tryz.prog 272 #[v] w fun e w'=>e=.returned (.bool (l.all (inR 0 8191)))∧Ext w w':=by
 have HR:=Lh h
 obtain⟨A1,c1,rfl,hc1,hm1,ha1,hf1,hg1⟩:=h
 unfold maxLen at hm1
 obtain⟨n,hn⟩:∃ n,n=l.length:=⟨_,rfl⟩
 rw [← hn] at hc1 hg1 HR ⊢
 have Hn:=Lh hn
 clear hn ha1 hf1 hg1
 go_enter Tryz.func272,Tryz.ntmps272
 go_wp2
 go_loopw [7] (fun i wr=>∃ k:Nat,k≤n∧i=.int .i64 k∧Hid (Ext w wr)∧Hid ((l.take k).all (inR 0 8191)=true)) (fun i _=>n-(intOf i).toNat)
 case atStart=>exact⟨0,by omega,rfl,Lh (Ext.refl w),Lh rfl⟩
 case round =>
  obtain⟨k,hk,rfl,HX,Ht⟩:=hrel
  by_cases hlt:k<n
  ·obtain⟨A2,k2,hq,-,-,-,-,hg2⟩:=HR.out.ext HX.out
   injection hq with hq1 hq2 hq3
   subst hq1
   clear hq2 hq3
   obtain⟨b1,o1,rfl,hb1,hx1⟩:=hg2 (by have:=Hn.out;omega)
   have y0:=hx1 k (by have:=Hn.out;omega)
   clear hx1 hg2
   by_cases he:inR 0 8191 (gi l k)=true
   ·have HE:=Lh he
    clear he
    go_wp2_with (first
     | (go_at_call 269;refine(ZeO _).mono ?_;rintro e w1 ⟨rfl,rfl⟩)
     | (go_at_call 270;refine(Zbk _ _ _ _).mono ?_;rintro e w2 ⟨rfl,x2⟩;rw [HE.out]))
    go_roundw
    case rel=>exact⟨k+1,by omega,by go_num,Lh ((HX.out.alloc _).trans x2),Lh (Zlj (by have:=Hn.out;omega) Ht.out HE.out)⟩
    case measure=>simp [intOf];omega
   ·have HE:=Lh (show inR 0 8191 (gi l k)=false by simpa using he)
    clear he
    go_wp2_with (first
     | (go_at_call 269;refine(ZeO _).mono ?_;rintro e w1 ⟨rfl,rfl⟩)
     | (go_at_call 270;refine(Zbk _ _ _ _).mono ?_;rintro e w2 ⟨rfl,x2⟩;rw [HE.out]))
    go_ret
    exact⟨Zag (Zq5 (by have:=Hn.out;omega) HE.out).symm,(HX.out.alloc _).trans x2⟩
  ·obtain rfl:k=n:=by omega
   go_wp2
   go_ret
   have:=Ht.out
   rw [Hn.out,List.take_length] at this
   exact⟨Zag this.symm,HX.out⟩
end Go.Proofs.YtclamhhgldkhnaaGreatDoor
