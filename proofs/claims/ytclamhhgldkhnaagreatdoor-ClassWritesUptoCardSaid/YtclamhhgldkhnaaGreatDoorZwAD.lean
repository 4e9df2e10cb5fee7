/- Several texts of this proof, one behind the other. -/
import Derived.Test.YtclamhhgldkhnaaGreatDoorZwU
import Derived.Test.YtclamhhgldkhnaaGreatDoorZwF
import Derived.Test.YtclamhhgldkhnaaGreatDoorZwAC
import Derived.Test.YtclamhhgldkhnaaGreatDoorZwC
import Derived.Test.YtclamhhgldkhnaaGreatDoorZwK
import Derived.BigQuiet
import Derived.Test.YtclamhhgldkhnaaGreatDoorZwW
namespace Go.Proofs.YtclamhhgldkhnaaGreatDoor
open Go.RowKit
set_option linter.unusedVariables false
set_option maxHeartbeats 16000000
theorem ZsF {l:List ByteArray} {j:Nat} (h:j<l.length):gs l j=l[j]:=by
 unfold gs Shp.el
 rw [List.getD_eq_getElem?_getD,List.getElem?_eq_getElem h]
 rfl
theorem Zd5 {l:List ByteArray} {j:Nat} (h:j<l.length):l.take (j+1)=l.take j++[gs l j]:=by
 rw [ZsF h,List.take_append_getElem h]
theorem ZbM {b c:Bool} (h:b=c):Ending.returned (.bool b)=.returned (.bool c):=by rw [h]
theorem Zfa {s t:ByteArray} (h:¬ s=t):(s.toList==t.toList)=false:=by
 rw [beq_eq_false_iff_ne]
 intro e
 have h1:s.toList=s.data.toList:=Zdd s.data.toList
 have h2:t.toList=t.data.toList:=Zdd t.data.toList
 rw [h1,h2] at e
 exact h (show bs s.data.toList=bs t.data.toList by rw [e])
theorem ZlJ (v1 v2:Value) (l1 l2:List ByteArray) (w:World) (h1:ShS.Row w v1 l1) (h2:ShS.Row w v2 l2) :
 Calls Tryz.prog 33 #[v1,v2] w fun e w'=>e=.returned (.bool (decide (l1=l2)))∧∃ m,w'=w.drewN m:=by
 have H1:=Lh h1
 have H2:=Lh h2
 obtain⟨A1,c1,rfl,hc1,hm1,-⟩:=h1.cut
 obtain⟨A2,c2,rfl,hc2,hm2,-⟩:=h2.cut
 clear h1 h2
 unfold maxLen at hm1 hm2
 by_cases hl:l1.length=l2.length
 ·obtain⟨n,hn⟩:∃ n,n=l1.length:=⟨_,rfl⟩
  rw [← hn] at hc1 H1 ⊢
  rw [← hl,← hn] at hc2 H2 ⊢
  have Hn:=Lh hn
  have Hl:=Lh hl
  clear hn hl
  go_enter Tryz.func33,Tryz.ntmps33
  go_wp2
  go_loopw [13] (fun i wr=>∃ k m:Nat,k≤n∧i=.int .i64 k∧wr=w.drewN m∧Hid (l1.take k=l2.take k)) (fun i _=>n-(intOf i).toNat)
  case atStart=>exact⟨0,0,by omega,rfl,rfl,Lh rfl⟩
  case round =>
   obtain⟨k,m,hk,rfl,rfl,Ht⟩:=hrel
   by_cases hlt:k<n
   ·obtain⟨b1,o1,rfl,hx1⟩:=ZcT H1.out (by have:=Hn.out;omega)
    obtain⟨b2,o2,rfl,hx2⟩:=ZcT H2.out (by have:=Hn.out;have:=Hl.out;omega)
    have y0:=hx1 w (Ext.refl w) k (by have:=Hn.out;omega)
    have u0:=hx2 w (Ext.refl w) k (by have:=Hn.out;have:=Hl.out;omega)
    clear hx1 hx2
    obtain⟨s,hs⟩:∃ s,gs l1 k=s:=⟨_,rfl⟩
    obtain⟨t,ht⟩:∃ s,gs l2 k=s:=⟨_,rfl⟩
    rw [hs] at y0
    rw [ht] at u0
    by_cases he:s=t
    ·have HE:=Lh (show gs l1 k=gs l2 k by rw [hs,ht,he])
     subst he
     clear hs ht
     go_wp2
     go_quiet (fail)
     go_wp2
     refine⟨⟨k+1,m+nq,by omega,by go_num,rfl,Lh ?_⟩,by simp [intOf];omega⟩
     rw [Zd5 (by have:=Hn.out;omega),Zd5 (by have:=Hn.out;have:=Hl.out;omega),Ht.out,HE.out]
    ·have HE:=Lh (show decide (l1=l2)=false by
      rw [decide_eq_false_iff_not]
      intro e
      exact he (by rw [← hs,← ht,e]))
     have hne:=Zfa he
     clear hs ht he
     go_wp2
     go_quiet (fail)
     go_wp2
     go_ret
     exact⟨ZbM HE.out.symm,_,World.drewN_drewN _ _ _⟩
   ·obtain rfl:k=n:=by omega
    go_wp2
    go_ret
    refine⟨ZbM ?_,_,rfl⟩
    have:=Ht.out
    rw [Hn.out] at this
    rw [List.take_length,Hl.out,List.take_length] at this
    exact(decide_eq_true this).symm
 ·have hb:((l1.length:Int) != (l2.length:Int))=true:=by simp;omega
  have HE:=Lh (show decide (l1=l2)=false by rw [decide_eq_false_iff_not];exact fun e=>hl (by rw [e]))
  rw [HE.out]
  clear hl H1 H2
  go_enter Tryz.func33,Tryz.ntmps33
  go_wp2
  go_ret
  exact⟨rfl,0,rfl⟩
theorem ZfN {l:List Hd} {j:Nat} (h:j<l.length):l.take (j+1)=l.take j++[gh l j]:=by
 rw [Zlb h,List.take_append_getElem h]
theorem ZdW {l:List Fd} {j:Nat} (h:j<l.length):l.take (j+1)=l.take j++[gf l j]:=by
 have e:=ZhW h
 rw [List.getElem?_eq_getElem h] at e
 injection e with e
 rw [← e,List.take_append_getElem h]
theorem Zna (x y:Cst) (W:World):(binOp .neq 49 (.agg x.vals) (.agg y.vals)).run Tryz.prog W=.ok (.bool (!decide (x=y))) W:=by
 rw [Zh5]
 by_cases h:x=y <;> simp [eqC,h]
theorem Hd.ext_ {x y:Hd} (h0:x.f=y.f) (h1:x.t=y.t) (h2:x.a=y.a) (h3:x.c=y.c):x=y:=by
 cases x;cases y
 simp only at h0 h1 h2 h3
 rw [h0,h1,h2,h3]
theorem Fd.ext_ {x y:Fd} (h0:x.st=y.st) (h1:x.nm=y.nm) (h2:x.ty.k=y.ty.k) (h3:x.ty.s=y.ty.s):x=y:=by
 obtain⟨a,b,c,d⟩:=x
 obtain⟨a',b',c',d'⟩:=y
 simp only at h0 h1 h2 h3
 rw [h0,h1,h2,h3]
theorem Zk1 (x y:Hd) (W:World):(binOp .neq 53 (.agg x.vals) (.agg y.vals)).run Tryz.prog W=.ok (.bool (!decide (x=y))) W:=by
 unfold Hd.vals
 go_simp
 by_cases h:x=y
 ·subst h
  simp
 ·rw [decide_eq_false h]
  (repeat' split) <;> first | rfl | (exact(h (Hd.ext_ ‹x.f=y.f› ‹x.t=y.t› ‹x.a=y.a› ‹x.c=y.c›)).elim)
theorem ZkF (x y:Fd) (W:World):(binOp .neq 59 (.agg x.vals) (.agg y.vals)).run Tryz.prog W=.ok (.bool (!decide (x=y))) W:=by
 unfold Fd.vals
 go_simp
 by_cases h:x=y
 ·subst h
  simp
 ·rw [decide_eq_false h]
  (repeat' split) <;> first | rfl | (exact(h (Fd.ext_ ‹x.st=y.st› (toList_inj ‹x.nm.toList=y.nm.toList›) ‹x.ty.k=y.ty.k› (toList_inj ‹x.ty.s.toList=y.ty.s.toList›))).elim)
theorem Zmn (v1 v2:Value) (l1 l2:List Hd) (w:World) (h1:ShH.Row w v1 l1) (h2:ShH.Row w v2 l2) :
 Calls Tryz.prog 83 #[v1,v2] w fun e w'=>e=.returned (.bool (decide (l1=l2)))∧∃ m,w'=w.drewN m:=by
 have H1:=Lh h1
 have H2:=Lh h2
 obtain⟨A1,c1,rfl,hc1,hm1,-⟩:=h1.cut
 obtain⟨A2,c2,rfl,hc2,hm2,-⟩:=h2.cut
 clear h1 h2
 unfold maxLen at hm1 hm2
 by_cases hl:l1.length=l2.length
 ·obtain⟨n,hn⟩:∃ n,n=l1.length:=⟨_,rfl⟩
  rw [← hn] at hc1 H1 ⊢
  rw [← hl,← hn] at hc2 H2 ⊢
  have Hn:=Lh hn
  have Hl:=Lh hl
  clear hn hl
  go_enter Tryz.func83,Tryz.ntmps83
  go_wp2
  go_loopw [13] (fun i wr=>∃ k m:Nat,k≤n∧i=.int .i64 k∧wr=w.drewN m∧Hid (l1.take k=l2.take k)) (fun i _=>n-(intOf i).toNat)
  case atStart=>exact⟨0,0,by omega,rfl,rfl,Lh rfl⟩
  case round =>
   obtain⟨k,m,hk,rfl,rfl,Ht⟩:=hrel
   by_cases hlt:k<n
   ·obtain⟨b1,o1,rfl,hx1⟩:=Zde H1.out (by have:=Hn.out;omega)
    obtain⟨b2,o2,rfl,hx2⟩:=Zde H2.out (by have:=Hn.out;have:=Hl.out;omega)
    obtain⟨y0,y1,y2,y3⟩:=hx1 w (Ext.refl w) k (by have:=Hn.out;omega)
    obtain⟨u0,u1,u2,u3⟩:=hx2 w (Ext.refl w) k (by have:=Hn.out;have:=Hl.out;omega)
    have hne:=fun W=>Zk1 (gh l1 k) (gh l2 k) W
    unfold Hd.vals at hne
    clear hx1 hx2
    by_cases he:gh l1 k=gh l2 k
    ·rw [decide_eq_true he] at hne
     have HE:=Lh he
     clear he
     go_wp2
     go_quiet (fail)
     go_wp2
     refine⟨⟨k+1,m+nq,by omega,by go_num,rfl,Lh ?_⟩,by simp [intOf];omega⟩
     rw [ZfN (by have:=Hn.out;omega),ZfN (by have:=Hn.out;have:=Hl.out;omega),Ht.out,HE.out]
    ·rw [decide_eq_false he] at hne
     have HE:=Lh (show decide (l1=l2)=false by
      rw [decide_eq_false_iff_not]
      exact fun e=>he (by rw [e]))
     clear he
     go_wp2
     go_quiet (fail)
     go_wp2
     go_ret
     exact⟨ZbM HE.out.symm,_,World.drewN_drewN _ _ _⟩
   ·obtain rfl:k=n:=by omega
    go_wp2
    go_ret
    refine⟨ZbM ?_,_,rfl⟩
    have:=Ht.out
    rw [Hn.out] at this
    rw [List.take_length,Hl.out,List.take_length] at this
    exact(decide_eq_true this).symm
 ·have hb:((l1.length:Int) != (l2.length:Int))=true:=by simp;omega
  have HE:=Lh (show decide (l1=l2)=false by rw [decide_eq_false_iff_not];exact fun e=>hl (by rw [e]))
  rw [HE.out]
  clear hl H1 H2
  go_enter Tryz.func83,Tryz.ntmps83
  go_wp2
  go_ret
  exact⟨rfl,0,rfl⟩
theorem ZlG (v1 v2:Value) (l1 l2:List Fd) (w:World) (h1:ShF.Row w v1 l1) (h2:ShF.Row w v2 l2) :
 Calls Tryz.prog 34 #[v1,v2] w fun e w'=>e=.returned (.bool (decide (l1=l2)))∧∃ m,w'=w.drewN m:=by
 have H1:=Lh h1
 have H2:=Lh h2
 obtain⟨A1,c1,rfl,hc1,hm1,-⟩:=h1.cut
 obtain⟨A2,c2,rfl,hc2,hm2,-⟩:=h2.cut
 clear h1 h2
 unfold maxLen at hm1 hm2
 by_cases hl:l1.length=l2.length
 ·obtain⟨n,hn⟩:∃ n,n=l1.length:=⟨_,rfl⟩
  rw [← hn] at hc1 H1 ⊢
  rw [← hl,← hn] at hc2 H2 ⊢
  have Hn:=Lh hn
  have Hl:=Lh hl
  clear hn hl
  go_enter Tryz.func34,Tryz.ntmps34
  go_wp2
  go_loopw [13] (fun i wr=>∃ k m:Nat,k≤n∧i=.int .i64 k∧wr=w.drewN m∧Hid (l1.take k=l2.take k)) (fun i _=>n-(intOf i).toNat)
  case atStart=>exact⟨0,0,by omega,rfl,rfl,Lh rfl⟩
  case round =>
   obtain⟨k,m,hk,rfl,rfl,Ht⟩:=hrel
   by_cases hlt:k<n
   ·obtain⟨b1,o1,rfl,hx1⟩:=ZcL H1.out (by have:=Hn.out;omega)
    obtain⟨b2,o2,rfl,hx2⟩:=ZcL H2.out (by have:=Hn.out;have:=Hl.out;omega)
    obtain⟨y0,y1,y2,y3⟩:=hx1 w (Ext.refl w) k (by have:=Hn.out;omega)
    obtain⟨u0,u1,u2,u3⟩:=hx2 w (Ext.refl w) k (by have:=Hn.out;have:=Hl.out;omega)
    have hne:=fun W=>ZkF (gf l1 k) (gf l2 k) W
    unfold Fd.vals at hne
    clear hx1 hx2
    by_cases he:gf l1 k=gf l2 k
    ·rw [decide_eq_true he] at hne
     have HE:=Lh he
     clear he
     go_wp2
     go_quiet (fail)
     go_wp2
     refine⟨⟨k+1,m+nq,by omega,by go_num,rfl,Lh ?_⟩,by simp [intOf];omega⟩
     rw [ZdW (by have:=Hn.out;omega),ZdW (by have:=Hn.out;have:=Hl.out;omega),Ht.out,HE.out]
    ·rw [decide_eq_false he] at hne
     have HE:=Lh (show decide (l1=l2)=false by
      rw [decide_eq_false_iff_not]
      exact fun e=>he (by rw [e]))
     clear he
     go_wp2
     go_quiet (fail)
     go_wp2
     go_ret
     exact⟨ZbM HE.out.symm,_,World.drewN_drewN _ _ _⟩
   ·obtain rfl:k=n:=by omega
    go_wp2
    go_ret
    refine⟨ZbM ?_,_,rfl⟩
    have:=Ht.out
    rw [Hn.out] at this
    rw [List.take_length,Hl.out,List.take_length] at this
    exact(decide_eq_true this).symm
 ·have hb:((l1.length:Int) != (l2.length:Int))=true:=by simp;omega
  have HE:=Lh (show decide (l1=l2)=false by rw [decide_eq_false_iff_not];exact fun e=>hl (by rw [e]))
  rw [HE.out]
  clear hl H1 H2
  go_enter Tryz.func34,Tryz.ntmps34
  go_wp2
  go_ret
  exact⟨rfl,0,rfl⟩
theorem Zmk (v1 v2:Value) (l1 l2:List Cst) (w:World) (h1:ShC.Row w v1 l1) (h2:ShC.Row w v2 l2) :
 Calls Tryz.prog 32 #[v1,v2] w fun e w'=>e=.returned (.bool (decide (l1=l2)))∧∃ m,w'=w.drewN m:=by
 have H1:=Lh h1
 have H2:=Lh h2
 obtain⟨A1,c1,rfl,hc1,hm1,-⟩:=h1.cut
 obtain⟨A2,c2,rfl,hc2,hm2,-⟩:=h2.cut
 clear h1 h2
 unfold maxLen at hm1 hm2
 by_cases hl:l1.length=l2.length
 ·obtain⟨n,hn⟩:∃ n,n=l1.length:=⟨_,rfl⟩
  rw [← hn] at hc1 H1 ⊢
  rw [← hl,← hn] at hc2 H2 ⊢
  have Hn:=Lh hn
  have Hl:=Lh hl
  clear hn hl
  go_enter Tryz.func32,Tryz.ntmps32
  go_wp2
  go_loopw [13] (fun i wr=>∃ k m:Nat,k≤n∧i=.int .i64 k∧wr=w.drewN m∧Hid (l1.take k=l2.take k)) (fun i _=>n-(intOf i).toNat)
  case atStart=>exact⟨0,0,by omega,rfl,rfl,Lh rfl⟩
  case round =>
   obtain⟨k,m,hk,rfl,rfl,Ht⟩:=hrel
   by_cases hlt:k<n
   ·obtain⟨b1,o1,rfl,hx1⟩:=Zh4 H1.out (by have:=Hn.out;omega)
    obtain⟨b2,o2,rfl,hx2⟩:=Zh4 H2.out (by have:=Hn.out;have:=Hl.out;omega)
    obtain⟨y0,y1,y2,y3,y4,y5⟩:=hx1 w (Ext.refl w) k (by have:=Hn.out;omega)
    obtain⟨u0,u1,u2,u3,u4,u5⟩:=hx2 w (Ext.refl w) k (by have:=Hn.out;have:=Hl.out;omega)
    have hne:=fun W=>Zna (gc l1 k) (gc l2 k) W
    unfold Cst.vals at hne
    clear hx1 hx2
    by_cases he:gc l1 k=gc l2 k
    ·rw [decide_eq_true he] at hne
     have HE:=Lh he
     clear he
     go_wp2
     go_quiet (fail)
     go_wp2
     refine⟨⟨k+1,m+nq,by omega,by go_num,rfl,Lh ?_⟩,by simp [intOf];omega⟩
     rw [ZcF (by have:=Hn.out;omega),ZcF (by have:=Hn.out;have:=Hl.out;omega),Ht.out,HE.out]
    ·rw [decide_eq_false he] at hne
     have HE:=Lh (show decide (l1=l2)=false by
      rw [decide_eq_false_iff_not]
      exact fun e=>he (by rw [e]))
     clear he
     go_wp2
     go_quiet (fail)
     go_wp2
     go_ret
     exact⟨ZbM HE.out.symm,_,World.drewN_drewN _ _ _⟩
   ·obtain rfl:k=n:=by omega
    go_wp2
    go_ret
    refine⟨ZbM ?_,_,rfl⟩
    have:=Ht.out
    rw [Hn.out] at this
    rw [List.take_length,Hl.out,List.take_length] at this
    exact(decide_eq_true this).symm
 ·have hb:((l1.length:Int) != (l2.length:Int))=true:=by simp;omega
  have HE:=Lh (show decide (l1=l2)=false by rw [decide_eq_false_iff_not];exact fun e=>hl (by rw [e]))
  rw [HE.out]
  clear hl H1 H2
  go_enter Tryz.func32,Tryz.ntmps32
  go_wp2
  go_ret
  exact⟨rfl,0,rfl⟩
def RK (w0 w:World) (g:Nat) (s:RSt):Prop :=
 ∃ v,w.heap[g]?=some (.cells #[v,.bool s.2] 78 (0,0))∧Row w0 .u8 v s.1∧Ext w0 w∧w0.heap.size≤g
section
variable {w0 w w' : World} {g : Nat} {s : RSt}
theorem RK.lt (h:RK w0 w g s):g<w.heap.size:=by
 obtain⟨v,hg,_⟩:=h
 exact Zab hg
theorem RK.base (h:RK w0 w g s):w0.heap.size≤g:=by
 obtain⟨v,hg,_,_,h4⟩:=h
 exact h4
theorem RK.ext0 (h:RK w0 w g s):Ext w0 w:=by
 obtain⟨v,hg,_,h3,h4⟩:=h
 exact h3
theorem RK.fit (h:RK w0 w g s):Fit .u8 s.1:=by
 obtain⟨v,hg,h2,h3,h4⟩:=h
 exact h2.fit
theorem RK.ext (h:RK w0 w g s) (he:Ext w w'):RK w0 w' g s:=by
 obtain⟨v,hg,h2,h3,h4⟩:=h
 exact⟨v,(he.block g (Zab hg)).trans hg,h2,h3.trans he,h4⟩
theorem RK.kept {r:Option Nat} (h:RK w0 w g s) (hw:w.grownBy w' r) (hr:∀ b,r=some b→b≠g∧w0.heap.size≤b):RK w0 w' g s:=by
 obtain⟨v,hg,h2,h3,h4⟩:=h
 exact⟨v,(hw.block g (Zab hg) (fun e=>(hr g e.symm).1 rfl)).trans hg,h2,h3.grown hw (fun b hb=>(hr b hb).2),h4⟩
theorem RK.cells (h:RK w0 w g s) :
 ∃ A c,s.1.length≤c∧c≤maxLen∧Row w0 .u8 (.slice A s.1.length c) s.1∧w.cell? ⟨g,0,none⟩=some (.slice A s.1.length c)∧w.cell? ⟨g,1,none⟩=some (.bool s.2)∧w.frozen? ⟨g,0,none⟩=false∧w.frozen? ⟨g,1,none⟩=false:=by
 obtain⟨v,hg,hr,h3,h4⟩:=h
 have hr':=hr
 obtain⟨A,c,rfl,h5,h6,_⟩:=hr'
 exact⟨A,c,h5,h6,hr,by rw [cell_of_row w g 0 _ _ (0,0) hg];rfl,by rw [cell_of_row w g 1 _ _ (0,0) hg];rfl,by simp [World.frozen?,hg],by simp [World.frozen?,hg]⟩
theorem RK.setBad (h:RK w0 w g s) (x:Bool):RK w0 (w.setCell ⟨g,1,none⟩ (.bool x)) g (s.1,x):=by
 obtain⟨v,hg,hr,h3,h4⟩:=h
 have h1:=heap_setCell_same w g 1 _ 78 (.bool x) hg
 exact⟨v,by rw [h1];rfl,hr,h3.set_ h4 _,h4⟩
theorem RK.setRow (h:RK w0 w g s) {m:List Int} {v:Value} (hv:Row w0 .u8 v m):RK w0 (w.setCell ⟨g,0,none⟩ v) g (m,s.2):=by
 obtain⟨v0,hg,hr,h3,h4⟩:=h
 have h1:=heap_setCell_same w g 0 _ 78 v hg
 exact⟨v,by rw [h1];rfl,hv,h3.set_ h4 _,h4⟩
end
def KRet (w0 w:World) (g:Nat) (s:RSt) (v:Value) (x:Ending) (w':World):Prop:=x=.returned v∧RK w0 w' g s∧w.grownBy w' (some g)
theorem Zfy (w0 w:World) (g:Nat) (s:RSt) (e:Int) (h:RK w0 w g s) :
 Calls Tryz.prog 140 #[.pointer (some ⟨g,0,none⟩),.int .i64 e] w (KRet w0 w g (s.1,s.2 || decide (e≠0)) (.tuple #[])):=by
 obtain⟨A,c,hc1,hc2,hrow,a0,a1,f0,f1⟩:=h.cells
 have HS:=Lh (fun x=>h.setBad x)
 obtain⟨l,b⟩:=s
 simp only at a0 a1 HS ⊢
 clear h hrow
 cases b
 ·by_cases he:e=0
  ·subst he
   go_enter Tryz.func140,Tryz.ntmps140
   go_wp2
   refine bodyPost_ret (Zak rfl _ _ _) rfl ?_
   exact⟨rfl,HS.out false,Zaa (World.grownBy.refl w _) 1 _⟩
  ·have hb:(e != 0)=true:=by simpa using he
   rw [decide_eq_true he]
   clear he
   go_enter Tryz.func140,Tryz.ntmps140
   go_wp2
   refine bodyPost_ret (Zak rfl _ _ _) rfl ?_
   exact⟨rfl,HS.out true,Zaa (World.grownBy.refl w _) 1 _⟩
 ·rw [Bool.true_or]
  go_enter Tryz.func140,Tryz.ntmps140
  go_wp2
  refine bodyPost_ret (Zak rfl _ _ _) rfl ?_
  exact⟨rfl,HS.out true,Zaa (World.grownBy.refl w _) 1 _⟩
theorem ZbX (w0 w:World) (g:Nat) (s:RSt) (n:Int) (h0:0≤n) (h:RK w0 w g s) :
 Calls Tryz.prog 85 #[.pointer (some ⟨g,0,none⟩),.int .i64 n] w fun x w'=>∃ v,KRet w0 w g (gB n s).2 v x w'∧Row w0 .u8 v (gB n s).1:=by
 obtain⟨A,c,hc1,hc2,hrow,a0,a1,f0,f1⟩:=h.cells
 unfold maxLen at hc2
 have HS:=Lh (fun x=>h.setBad x)
 have hlt:=h.lt
 have H:=Lh h
 obtain⟨l,b⟩:=s
 simp only at a0 a1 HS hc1 hrow ⊢
 obtain⟨N,rfl⟩:=Int.eq_ofNat_of_zero_le h0
 by_cases hn:(l.length:Int)<N
 ·have e:gB N (l,b)=([],l,true):=by unfold gB;rw [if_pos (.inr hn)]
  rw [e]
  clear hrow h
  go_enter Tryz.func85,Tryz.ntmps85
  go_wp2
  go_ret
  exact⟨_,⟨rfl,HS.out true,Zaa (World.grownBy.refl w _) 1 _⟩,(Own.nil 0 _ 5 _).row⟩
 ·cases b
  ·have e:gB N (l,false)=(l.take N,l.drop N,false):=by unfold gB;rw [if_neg (by simp;omega)];simp
   rw [e]
   have hN:N≤l.length:=by omega
   obtain⟨v3,s3,s3',hh⟩:=ZbC hrow N hN
   obtain⟨v4,t4,t4',ht⟩:=ZbT hrow N hN
   have HT:=Lh (h.setRow ht)
   have HH:=Lh hh
   obtain⟨A4,c4,hv4,-⟩:=id ht
   rw [List.length_drop] at hv4
   subst hv4
   obtain⟨A3,c3,hv3,-⟩:=id hh
   have h3:(l.take N).length=N:=by simp;omega
   rw [h3] at hv3
   subst hv3
   clear ht hh hrow h h3 hN
   go_enter Tryz.func85,Tryz.ntmps85
   go_wp2
   go_ret
   exact⟨_,⟨rfl,HT.out,Zaa (World.grownBy.refl w _) 0 _⟩,HH.out⟩
  ·have e:gB N (l,true)=([],l,true):=by unfold gB;rw [if_pos (.inl rfl)]
   rw [e]
   clear hrow h
   go_enter Tryz.func85,Tryz.ntmps85
   go_wp2
   go_ret
   exact⟨_,⟨rfl,H.out,World.grownBy.refl w _⟩,(Own.nil 0 _ 5 _).row⟩
theorem ZeB (s:RSt):(gU s).2.1.length≤s.1.length:=by
 unfold gU
 split
 ·exact Nat.le_refl _
 ·simp
theorem Zjq (n:Int) (s:RSt):(gB n s).2.1.length≤s.1.length∧(gB n s).1.length≤s.1.length:=by
 unfold gB
 split
 ·exact⟨Nat.le_refl _,Nat.zero_le _⟩
 ·simp
  omega
theorem ZbH (s:RSt):(gTx s).2.1.length≤s.1.length∧(gTx s).1.size≤s.1.length:=by
 have h1:=ZeB s
 have h2:=Zjq (gU s).1 (gU s).2
 unfold gTx
 simp only [Zek]
 exact⟨Nat.le_trans h2.1 h1,Nat.le_trans h2.2 h1⟩
theorem ZbA (k:Int) (s:RSt):(gUp k s).2.1.length≤s.1.length:=by
 unfold gUp
 split
 ·exact ZeB s
 ·exact ZeB s
theorem ZbB (w0 w:World) (g:Nat) (s:RSt) (h:RK w0 w g s) :
 Calls Tryz.prog 141 #[.pointer (some ⟨g,0,none⟩)] w (KRet w0 w g (gU s).2 (.int .i64 (gU s).1)):=by
 obtain⟨A,c,hc1,hc2,hrow,a0,a1,f0,f1⟩:=h.cells
 unfold maxLen at hc2
 have hfit:=h.fit
 have hlt:=h.lt
 have H:=Lh h
 obtain⟨l,b⟩:=s
 simp only at a0 a1 hc1 hrow hfit ⊢
 obtain⟨q,hq,hq8,hmin⟩:∃ q:Nat,q≤l.length∧(l.take 8=l.take q∧q≤8)∧min (8:Int) (l.length:Int)=(q:Int):=by
  by_cases h8:l.length<8
  ·exact⟨l.length,Nat.le_refl _,⟨by rw [List.take_of_length_le (by omega),List.take_of_length_le (by omega)],by omega⟩,by omega⟩
  ·exact⟨8,by omega,⟨rfl,by omega⟩,by omega⟩
 obtain⟨hq8,hq9⟩:=hq8
 obtain⟨v3,s3,s3',hh⟩:=ZbC hrow q hq
 have hl3:(l.take q).length=q:=by simp;omega
 have hT:=Lh (fun W (e:Ext w0 W)=>ZiB v3 (l.take q) W (hh.ext e) (by omega))
 have hsuf:=ZkA (l.take q)
 have hrl:(tU (l.take q)).2.1.length≤q:=by have:=hsuf.length_le;omega
 obtain⟨A3,c3,hv3,-⟩:=id hh
 rw [hl3] at hv3
 subst hv3
 have hG:gU (l,b)=if b=true∨(tU (l.take q)).2.2≠0 then (0,l,true) else ((tU (l.take q)).1,l.drop (q-(tU (l.take q)).2.1.length),false):=by
  unfold gU
  simp only [hq8,hl3]
 obtain⟨G,hGG⟩:∃ G,gU (l,b)=G:=⟨_,rfl⟩
 rw [hGG] at hG ⊢
 obtain⟨R,hR⟩:∃ R,tU (l.take q)=R:=⟨_,rfl⟩
 rw [hR] at hT hG hrl
 obtain⟨n,rest,er⟩:=R
 simp only at hG hrl
 have HG:=Lh hG
 have HRL:=Lh hrl
 have HQL:=Lh hq
 clear hh hrow h hsuf hG hGG hR hq8 hl3 hq9 hfit hrl
 go_enter Tryz.func141,Tryz.ntmps141
 go_wp2
 go_quiet (fail)
 go_wp2_with fail
 refine(hT.out _ (H.out.ext0.drewN _)).mono ?_
 rintro x w1 ⟨v1,rfl,⟨b1,rfl,ho⟩,x1⟩
 have H1:=Lh (H.out.ext (((Ext.refl w).drewN nq).trans x1))
 have X1:=Lh (((Ext.refl w).drewN nq).trans x1)
 obtain⟨A1,n1,c1,rfl⟩:=ho.slice
 obtain⟨_,_,e1,-⟩:=ho.row
 injection e1 with _ e1 _
 subst e1
 clear ho x1
 go_wp2_with fail
 refine(Zfy w0 w1 g (l,b) er H1.out).mono ?_
 rintro x w2 ⟨rfl,h2,g2⟩
 have H2:=Lh h2
 have G2:=Lh (Zae (ZaB X1.out (some g)) g2)
 obtain⟨A2,c2,-,-,-,d0,d1,e0,e1⟩:=h2.cells
 simp only at d0 d1
 clear h2 g2 a0 a1 f0 f1
 by_cases hw:b=true∨er≠0
 ·have hbw:(b || decide (er≠0))=true:=by
   rcases hw with hw | hw
   ·rw [hw];rfl
   ·rw [decide_eq_true hw];simp
  have HE:=Lh (HG.out.trans (if_pos hw))
  rw [hbw] at d1 H2
  clear hw hbw
  go_wp2_with fail
  go_wp2
  go_ret
  rw [HE.out]
  exact⟨rfl,H2.out,G2.out⟩
 ·have hbw:(b || decide (er≠0))=false:=by
   cases b
   ·have:er=0:=by simpa using hw
    rw [this];rfl
   ·exact absurd (.inl rfl) hw
  have HE:=Lh (HG.out.trans (if_neg hw))
  rw [hbw] at d1 H2
  have hrl:=HRL.out
  have hw2:IntKind.i64.wrap ((q:Int)-(rest.length:Int))=((q-rest.length:Nat):Int):=by rw [IntKind.wrap_i64];omega
  have eB:gB ((q-rest.length:Nat):Int) (l,false)=(l.take (q-rest.length),l.drop (q-rest.length),false):=by
   unfold gB
   rw [if_neg (by simp;omega)]
   simp
  have HB:=Lh (ZbX w0 w2 g (l,false) ((q-rest.length:Nat):Int) (by omega) H2.out)
  rw [eB] at HB
  clear hw hbw eB hrl
  go_wp2_with fail
  refine HB.out.mono ?_
  rintro x w3 ⟨v3,⟨rfl,h3,g3⟩,r3⟩
  have H3:=Lh h3
  have G3:=Lh g3
  obtain⟨_,_,rfl,-⟩:=r3
  clear h3 g3
  go_wp2
  go_ret
  rw [HE.out]
  exact⟨rfl,H3.out,Zae G2.out G3.out⟩
theorem Zb1 (w0 w:World) (g:Nat) (s:RSt) (k:Int) (h:RK w0 w g s) :
 Calls Tryz.prog 87 #[.pointer (some ⟨g,0,none⟩),.int .i64 k] w (KRet w0 w g (gUp k s).2 (.int .i64 (gUp k s).1)):=by
 have HN:=Lh (ZbB w0 w g s h)
 have hG:gUp k s=if k<(gU s).1 then (0,(gU s).2.1,true) else gU s:=rfl
 obtain⟨G,hGG⟩:∃ G,gUp k s=G:=⟨_,rfl⟩
 rw [hGG] at hG ⊢
 obtain⟨R,hR⟩:∃ R,gU s=R:=⟨_,rfl⟩
 rw [hR] at HN hG
 obtain⟨n,l,b⟩:=R
 simp only at hG
 have HG:=Lh hG
 clear h hG hGG hR
 go_enter Tryz.func87,Tryz.ntmps87
 go_wp2_with fail
 refine HN.out.mono ?_
 rintro x w1 ⟨rfl,h1,g1⟩
 have H1:=Lh h1
 have G1:=Lh g1
 obtain⟨A1,c1,-,-,-,d0,d1,e0,e1⟩:=h1.cells
 simp only at d0 d1
 clear h1 g1
 by_cases hk:k<n
 ·have HE:=Lh (HG.out.trans (if_pos hk))
  go_wp2
  go_ret
  rw [HE.out]
  exact⟨rfl,H1.out.setBad true,Zaa G1.out 1 _⟩
 ·have HE:=Lh (HG.out.trans (if_neg hk))
  go_wp2
  go_ret
  rw [HE.out]
  exact⟨rfl,H1.out,G1.out⟩
theorem Zbz (w0 w:World) (g:Nat) (s:RSt) (h:RK w0 w g s) :
 Calls Tryz.prog 88 #[.pointer (some ⟨g,0,none⟩)] w (KRet w0 w g (gTx s).2 (.string (gTx s).1)):=by
 have HN:=Lh (ZbB w0 w g s h)
 have hn:=(Zrc h.fit).1
 have HB:=Lh (fun W (hW:RK w0 W g (gU s).2)=>ZbX w0 W g (gU s).2 (gU s).1 hn hW)
 unfold gTx
 obtain⟨X,hX⟩:∃ X,gB (gU s).1 (gU s).2=X:=⟨_,rfl⟩
 rw [hX] at HB ⊢
 obtain⟨R,hR⟩:∃ R,gU s=R:=⟨_,rfl⟩
 rw [hR] at HN HB
 obtain⟨n,s1⟩:=R
 obtain⟨xb,s2⟩:=X
 simp only at HN HB ⊢
 clear h hn hX hR
 go_enter Tryz.func88,Tryz.ntmps88
 go_wp2_with fail
 refine HN.out.mono ?_
 rintro x w1 ⟨rfl,h1,g1⟩
 have G1:=Lh g1
 have HB1:=Lh (HB.out w1 h1)
 clear h1 g1
 go_wp2_with fail
 refine HB1.out.mono ?_
 rintro x w2 ⟨v2,⟨rfl,h2,g2⟩,r2⟩
 have hcv:=(r2.ext h2.ext0).conv
 have H2:=Lh h2
 have G2:=Lh (Zae G1.out g2)
 obtain⟨_,_,rfl,-⟩:=r2
 clear h2 g2
 go_wp2
 go_ret
 exact⟨rfl,H2.out,G2.out⟩
def BK (w:World) (b:Nat) (cs:Array Value) (T:TypeId):Prop:=w.heap[b]?=some (.cells cs T (0,0))
section
variable {w w' : World} {b g : Nat} {cs : Array Value} {T : TypeId}
theorem BK.new (w:World) (cs:Array Value) (T:TypeId):BK (w.alloc (.cells cs T)) w.heap.size cs T:=heap_alloc_new w _
theorem BK.ext (h:BK w b cs T) (e:Ext w w'):BK w' b cs T:=(e.block b (Zab h)).trans h
theorem BK.kept (h:BK w b cs T) (hg:w.grownBy w' (some g)) (hne:¬ g=b):BK w' b cs T:=(hg.block b (Zab h) (fun e=>by injection e with e;exact hne e.symm)).trans h
theorem BK.lt (h:BK w b cs T):b<w.heap.size:=Zab h
theorem BK.cell (h:BK w b cs T) (i:Nat):w.cell? ⟨b,i,none⟩=cs[i]?:=by rw [cell_of_row w b i _ T (0,0) h]
theorem BK.free (h:BK w b cs T) (i:Nat):w.frozen? ⟨b,i,none⟩=false:=by simp [World.frozen?,show w.heap[b]?=_ from h]
theorem BK.put (h:BK w b cs T) (i:Nat) (u:Value):BK (w.setCell ⟨b,i,none⟩ u) b (cs.setIfInBounds i u) T:=heap_setCell_same w b i cs T u h
theorem BK.other (h:BK w b cs T) {p:Addr} (hne:¬ p.block=b) (u:Value):BK (w.setCell p u) b cs T:=by
 unfold BK
 rw [Below.heap_setCell w p u b (fun e=>hne e.symm)]
 exact h
end
theorem ZaG {w w':World} {r:Option Nat} (h:w.grownBy w' r) {b:Nat} (hb:w.heap.size≤b) (j:Nat) (u:Value):w.grownBy (w'.setCell ⟨b,j,none⟩ u) r:=by
 refine⟨h.os,h.tape,h.output,by simpa [World.setCell] using h.size,fun i hi hne=>?_⟩
 rw [Below.heap_setCell w' ⟨b,j,none⟩ u i (fun e=>by have:b=i:=e.symm;omega)]
 exact h.block i hi hne
theorem RK.setO {w0 w:World} {g:Nat} {s:RSt} (h:RK w0 w g s) {b:Nat} (hb:w0.heap.size≤b) (hne:¬ b=g) (j:Nat) (u:Value):RK w0 (w.setCell ⟨b,j,none⟩ u) g s :=
 h.kept (Zaa (World.grownBy.refl w (some b)) j u) (fun k hk=>by injection hk with hk;subst hk;exact⟨hne,hb⟩)
theorem ZpM (w0 w:World) (g:Nat) (s:RSt) (h:RK w0 w g s) (hl:s.1.length≤140737488351232) :
 Calls Tryz.prog 142 #[.pointer (some ⟨g,0,none⟩)] w (KRet w0 w g (gTy s).2 (.agg #[.int .i64 (gTy s).1.k,.string (gTy s).1.s])):=by
 have HT:=Lh (Zbz w0 _ g s (h.ext ((Ext.refl w).alloc (.cells #[.int .i64 0,.string ⟨#[]⟩] 41))))
 have HD:=Lh (fun W=>Ztw (gTx s).1 W (by have:=(ZbH s).2;omega))
 have hb0:=h.base
 have hlt:=h.lt
 have hb0':w0.heap.size≤w.heap.size:=h.ext0.size
 unfold gTy
 obtain⟨X,hX⟩:∃ X,gTx s=X:=⟨_,rfl⟩
 rw [hX] at HT HD ⊢
 obtain⟨t,s1⟩:=X
 simp only at HT HD ⊢
 obtain⟨Z,hZ⟩:∃ Z,Zcb t.data.toList=Z:=⟨_,rfl⟩
 rw [hZ] at HD ⊢
 obtain⟨ty,er⟩:=Z
 simp only at HD ⊢
 obtain⟨ty2,hty⟩:∃ y,tyO ty=y:=⟨_,rfl⟩
 rw [hty] at HD ⊢
 obtain⟨k,n⟩:=ty2
 simp only at HD ⊢
 clear h hX hZ hty hl
 go_enter Tryz.func142,Tryz.ntmps142
 go_wp2_with fail
 refine HT.out.mono ?_
 rintro x w1 ⟨rfl,h1,g1⟩
 have B1:=Lh ((BK.new w #[.int .i64 0,.string ⟨#[]⟩] 41).kept g1 (by omega))
 have H1:=Lh h1
 have G1:=Lh (Zae (ZaB ((Ext.refl w).alloc _) (some g)) g1)
 clear h1 g1
 go_wp2_with fail
 refine(HD.out _).mono ?_
 rintro x w2 ⟨rfl,x2⟩
 have HK:=Lh (Zfy w0 _ g s1 er (H1.out.ext (x2.alloc (.cells #[.int .i64 k,.string n] 41))))
 have B2:=Lh (B1.out.ext (x2.alloc (.cells #[.int .i64 k,.string n] 41)))
 have C2:=Lh (BK.new w2 #[.int .i64 k,.string n] 41)
 have G2:=Lh (Zbl G1.out (x2.alloc (.cells #[.int .i64 k,.string n] 41)))
 have l2:g<w2.heap.size:=by have:=H1.out.lt;have:=x2.size;omega
 clear x2
 go_wp2_with fail
 refine HK.out.mono ?_
 rintro x w3 ⟨rfl,h3,g3⟩
 have B3:=Lh (B2.out.kept g3 (by omega))
 have C3:=Lh (C2.out.kept g3 (by omega))
 have H3:=Lh h3
 have G3:=Lh (Zae G2.out g3)
 have y0:=C3.out.cell 0
 have y1:=C3.out.cell 1
 have z0:=B3.out.cell 0
 have z1:=B3.out.cell 1
 have f0:=B3.out.free 0
 have f1:=B3.out.free 1
 simp only [List.getElem?_toArray,List.getElem?_cons_zero,List.getElem?_cons_succ] at y0 y1 z0 z1
 clear h3 g3
 go_wp2
 refine bodyPost_ret (v:=.agg #[.int .i64 k,.string n]) (by simp [results,Tryz.results142,go_sem,z0,z1];try first | exact⟨rfl,rfl⟩ | rfl) rfl ?_
 refine⟨rfl,?_,?_⟩
 ·exact(H3.out.setO hb0' (by omega) 0 _).setO hb0' (by omega) 1 _
 ·exact ZaG (ZaG G3.out (Nat.le_refl _) 0 _) (Nat.le_refl _) 1 _
theorem ZaC {w:World} {g:Nat} {v0 v1 v2 v3 v4 v5 v6:Value} {T:TypeId} (h:BK w g #[v0,v1,v2,v3,v4,v5,v6] T) :
 w.cell? ⟨g,0,none⟩=some v0∧w.cell? ⟨g,1,none⟩=some v1∧w.cell? ⟨g,2,none⟩=some v2∧w.cell? ⟨g,3,none⟩=some v3∧w.cell? ⟨g,4,none⟩=some v4∧w.cell? ⟨g,5,none⟩=some v5∧w.cell? ⟨g,6,none⟩=some v6 :=
 ⟨h.cell 0,h.cell 1,h.cell 2,h.cell 3,h.cell 4,h.cell 5,h.cell 6⟩
theorem Shp.Own.keptU {α:Type} {S:Shp α} {B:Nat} {w w':World} {v:Value} {l:List α} {g:Nat} (h:S.Own B w v l) (hg:w.grownBy w' (some g)) (hlt:g<B) (hf:∀ x,S.nestO B w x→S.nestO B w' x):S.Own B w' v l :=
 h.kept hg (fun k hk e=>by injection e with e;have:=h.low k hk;omega) (fun x _ hx=>hf x hx)
theorem Shp.Own.baseF {α:Type} {S:Shp α} {B B':Nat} {w:World} {v:Value} {l:List α} (h:S.Own B w v l) (hB:B'≤B) (hf:∀ x,S.nestO B w x→S.nestO B' w x):S.Own B' w v l:=by
 obtain⟨⟨h1,h2⟩,h3⟩:=h
 refine⟨⟨h1,?_⟩,fun x hx=>hf x (h3 x hx)⟩
 rcases h2 with h2 | ⟨g,cap,cur,hv,hb,hr⟩
 ·exact .inl h2
 ·exact .inr ⟨g,cap,cur,hv,by omega,hr⟩
theorem Own.keptU {B:Nat} {w w':World} {e:TypeId} {k:IntKind} {v:Value} {l:List Int} {g:Nat} (h:Own B w e k v l) (hg:w.grownBy w' (some g)) (hlt:g<B):Own B w' e k v l :=
 h.kept hg (fun k hk e=>by injection e with e;have:=h.low k hk;omega)
theorem NestMO.keptU {B:Nat} {w w':World} {x:MeV} {g:Nat} (h:NestMO B w x) (hg:w.grownBy w' (some g)) (hlt:g<B):NestMO B w' x :=
 ⟨h.1.keptU hg hlt (fun _ h=>h),h.2.1.keptU hg hlt,h.2.2.keptU hg hlt (fun _ h=>h)⟩
theorem NestMO.base {B B':Nat} {w:World} {x:MeV} (h:NestMO B w x) (hB:B'≤B):NestMO B' w x :=
 ⟨h.1.baseF hB (fun _ h=>h),h.2.1.base hB,h.2.2.baseF hB (fun _ h=>h)⟩
theorem Zac (w:World) (b j:Nat) (u:Value):w.grownBy (w.setCell ⟨b,j,none⟩ u) (some b):=Zaa (World.grownBy.refl w (some b)) j u
theorem Zmm (w0 w:World) (g:Nat) (s:RSt) (h:RK w0 w g s) (hl:s.1.length≤140737488351232) :
 Calls Tryz.prog 143 #[.pointer (some ⟨g,0,none⟩)] w fun x w'=>∃ v,KRet w0 w g (gPr s).2 (.agg #[.int .i64 (tyO (gPr s).1.ret).k,.string (tyO (gPr s).1.ret).s,v]) x w'∧ShT.Own w.heap.size w' v ((gPr s).1.args.map tyO):=by
 have HT:=Lh (Zbz w0 _ g s (h.ext ((Ext.refl w).alloc (.cells #[.int .i64 0,.string ⟨#[]⟩,.slice none 0 0] 44))))
 have HD:=Lh (fun W=>Zrb (gTx s).1 W (by have:=(ZbH s).2;omega))
 have hb0:=h.base
 have hlt:=h.lt
 have hb0':w0.heap.size≤w.heap.size:=h.ext0.size
 unfold gPr
 obtain⟨X,hX⟩:∃ X,gTx s=X:=⟨_,rfl⟩
 rw [hX] at HT HD ⊢
 obtain⟨t,s1⟩:=X
 simp only at HT HD ⊢
 obtain⟨Z,hZ⟩:∃ Z,ZaP t.data.toList=Z:=⟨_,rfl⟩
 rw [hZ] at HD ⊢
 obtain⟨p,er⟩:=Z
 simp only at HD ⊢
 obtain⟨ty2,hty⟩:∃ y,tyO p.ret=y:=⟨_,rfl⟩
 obtain⟨ars,has⟩:∃ y,p.args.map tyO=y:=⟨_,rfl⟩
 rw [hty,has] at HD ⊢
 obtain⟨k,n⟩:=ty2
 simp only at HD ⊢
 clear h hX hZ hty has hl
 go_enter Tryz.func143,Tryz.ntmps143
 go_wp2_with fail
 refine HT.out.mono ?_
 rintro x w1 ⟨rfl,h1,g1⟩
 have B1:=Lh ((BK.new w #[.int .i64 0,.string ⟨#[]⟩,.slice none 0 0] 44).kept g1 (by omega))
 have H1:=Lh h1
 have G1:=Lh (Zae (ZaB ((Ext.refl w).alloc _) (some g)) g1)
 have l1:=B1.out.lt
 clear h1 g1
 go_wp2_with fail
 refine(HD.out _).mono ?_
 rintro x w2 ⟨v,rfl,ho,x2⟩
 obtain⟨A,c,rfl,-⟩:=ho.slice
 have HK:=Lh (Zfy w0 _ g s1 er (H1.out.ext (x2.alloc (.cells #[.int .i64 k,.string n,.slice A ars.length c] 44))))
 have B2:=Lh (B1.out.ext (x2.alloc (.cells #[.int .i64 k,.string n,.slice A ars.length c] 44)))
 have C2:=Lh (BK.new w2 #[.int .i64 k,.string n,.slice A ars.length c] 44)
 have O2:=Lh (ho.ext ((Ext.refl w2).alloc (.cells #[.int .i64 k,.string n,.slice A ars.length c] 44)))
 have G2:=Lh (Zbl G1.out (x2.alloc (.cells #[.int .i64 k,.string n,.slice A ars.length c] 44)))
 have l2:g<w2.heap.size:=by have:=H1.out.lt;have:=x2.size;omega
 have l3:g<w1.heap.size:=H1.out.lt
 obtain⟨q,hq⟩:∃ q,ars.length=q:=⟨_,rfl⟩
 rw [hq] at HK B2 C2 O2 G2 ⊢
 clear x2 ho hq
 go_wp2_with fail
 refine HK.out.mono ?_
 rintro x w3 ⟨rfl,h3,g3⟩
 have B3:=Lh (B2.out.kept g3 (by omega))
 have C3:=Lh (C2.out.kept g3 (by omega))
 have O3:=Lh (O2.out.keptU g3 l3 (fun _ h=>h))
 have H3:=Lh h3
 have G3:=Lh (Zae G2.out g3)
 have y0:=C3.out.cell 0
 have y1:=C3.out.cell 1
 have y2:=C3.out.cell 2
 have z0:=B3.out.cell 0
 have z1:=B3.out.cell 1
 have z2:=B3.out.cell 2
 have f0:=B3.out.free 0
 have f1:=B3.out.free 1
 have f2:=B3.out.free 2
 simp only [List.getElem?_toArray,List.getElem?_cons_zero,List.getElem?_cons_succ] at y0 y1 y2 z0 z1 z2
 clear h3 g3
 go_wp2
 refine bodyPost_ret (v:=.agg #[.int .i64 k,.string n,.slice A q c]) (by simp [results,Tryz.results143,go_sem,z0,z1,z2];try first | exact⟨rfl,rfl⟩ | rfl) rfl ?_
 refine⟨_,⟨rfl,?_,?_⟩,?_⟩
 ·exact((H3.out.setO hb0' (by omega) 0 _).setO hb0' (by omega) 1 _).setO hb0' (by omega) 2 _
 ·exact ZaG (ZaG (ZaG G3.out (Nat.le_refl _) 0 _) (Nat.le_refl _) 1 _) (Nat.le_refl _) 2 _
 ·exact(((O3.out.keptU (Zac _ _ _ _) l1 (fun _ h=>h)).keptU (Zac _ _ _ _) l1 (fun _ h=>h)).keptU (Zac _ _ _ _) l1 (fun _ h=>h)).baseF (by omega) (fun _ h=>h)
theorem Zjj (w0 w:World) (g:Nat) (s:RSt) (h:RK w0 w g s) :
 Calls Tryz.prog 146 #[.pointer (some ⟨g,0,none⟩)] w (KRet w0 w g (gHd s).2 (.agg (gHd s).1.vals)):=by
 have HN:=Lh (fun W s' (hW:RK w0 W g s')=>ZbB w0 W g s' hW)
 have hb0:=h.base
 have hlt:=h.lt
 have hb0':w0.heap.size≤w.heap.size:=h.ext0.size
 have N1:=Lh (HN.out _ s (h.ext ((Ext.refl w).alloc (.cells #[.int .i64 0,.int .i64 0,.int .i64 0,.int .i64 0] 53))))
 have HN2:=Lh (fun W (hW:RK w0 W g (gU s).2)=>HN.out W _ hW)
 have HN3:=Lh (fun W (hW:RK w0 W g (gU (gU s).2).2)=>HN.out W _ hW)
 have HN4:=Lh (fun W (hW:RK w0 W g (gU (gU (gU s).2).2).2)=>HN.out W _ hW)
 unfold gHd Hd.vals
 simp only
 obtain⟨X4,hX4⟩:∃ X,gU (gU (gU (gU s).2).2).2=X:=⟨_,rfl⟩
 rw [hX4] at HN4 ⊢
 obtain⟨X3,hX3⟩:∃ X,gU (gU (gU s).2).2=X:=⟨_,rfl⟩
 rw [hX3] at HN3 HN4 ⊢
 obtain⟨X2,hX2⟩:∃ X,gU (gU s).2=X:=⟨_,rfl⟩
 rw [hX2] at HN2 HN3 ⊢
 obtain⟨X1,hX1⟩:∃ X,gU s=X:=⟨_,rfl⟩
 rw [hX1] at N1 HN2 ⊢
 obtain⟨n1,s1⟩:=X1
 obtain⟨n2,s2⟩:=X2
 obtain⟨n3,s3⟩:=X3
 obtain⟨n4,s4⟩:=X4
 simp only at N1 HN2 HN3 HN4 ⊢
 clear h hX1 hX2 hX3 hX4 HN
 go_enter Tryz.func146,Tryz.ntmps146
 go_wp2_with fail
 refine N1.out.mono ?_
 rintro x w1 ⟨rfl,h1,g1⟩
 have B1:=Lh ((BK.new w #[.int .i64 0,.int .i64 0,.int .i64 0,.int .i64 0] 53).kept g1 (by omega))
 have N2:=Lh (HN2.out w1 h1)
 have G1:=Lh (Zae (ZaB ((Ext.refl w).alloc _) (some g)) g1)
 clear h1 g1
 go_wp2_with fail
 refine N2.out.mono ?_
 rintro x w2 ⟨rfl,h2,g2⟩
 have B2:=Lh (B1.out.kept g2 (by omega))
 have N3:=Lh (HN3.out w2 h2)
 have G2:=Lh (Zae G1.out g2)
 clear h2 g2
 go_wp2_with fail
 refine N3.out.mono ?_
 rintro x w3 ⟨rfl,h3,g3⟩
 have B3:=Lh (B2.out.kept g3 (by omega))
 have N4:=Lh (HN4.out w3 h3)
 have G3:=Lh (Zae G2.out g3)
 clear h3 g3
 go_wp2_with fail
 refine N4.out.mono ?_
 rintro x w4 ⟨rfl,h4,g4⟩
 have B4:=Lh (B3.out.kept g4 (by omega))
 have H4:=Lh h4
 have G4:=Lh (Zae G3.out g4)
 have z0:=B4.out.cell 0
 have z1:=B4.out.cell 1
 have z2:=B4.out.cell 2
 have z3:=B4.out.cell 3
 have f0:=B4.out.free 0
 have f1:=B4.out.free 1
 have f2:=B4.out.free 2
 have f3:=B4.out.free 3
 simp only [List.getElem?_toArray,List.getElem?_cons_zero,List.getElem?_cons_succ] at z0 z1 z2 z3
 clear h4 g4
 go_wp2
 refine bodyPost_ret (v:=.agg #[.int .i64 n1,.int .i64 n2,.int .i64 n3,.int .i64 n4]) (by simp [results,Tryz.results146,go_sem,z0,z1,z2,z3];try first | exact⟨rfl,rfl⟩ | rfl) rfl ?_
 refine⟨rfl,?_,?_⟩
 ·exact(((H4.out.setO hb0' (by omega) 0 _).setO hb0' (by omega) 1 _).setO hb0' (by omega) 2 _).setO hb0' (by omega) 3 _
 ·exact ZaG (ZaG (ZaG (ZaG G4.out (Nat.le_refl _) 0 _) (Nat.le_refl _) 1 _) (Nat.le_refl _) 2 _) (Nat.le_refl _) 3 _
theorem Zl3 (w0 w:World) (g:Nat) (s:RSt) (h:RK w0 w g s) (hl:s.1.length≤140737488351232) :
 Calls Tryz.prog 91 #[.pointer (some ⟨g,0,none⟩)] w (KRet w0 w g (gFd s).2 (.agg (gFd s).1.vals)):=by
 have N1:=Lh (Zb1 w0 _ g s 1 (h.ext ((Ext.refl w).alloc (.cells #[.bool false,.string ⟨#[]⟩,.int .i64 0,.string ⟨#[]⟩] 59))))
 have HN2:=Lh (fun W (hW:RK w0 W g (gUp 1 s).2)=>Zbz w0 W g _ hW)
 have HN3:=Lh (fun W (hW:RK w0 W g (gTx (gUp 1 s).2).2)=>ZpM w0 W g _ hW (by have:=(ZbH (gUp 1 s).2).1;have:=ZbA 1 s;omega))
 have hb0:=h.base
 have hlt:=h.lt
 have hb0':w0.heap.size≤w.heap.size:=h.ext0.size
 unfold gFd Fd.vals
 simp only
 obtain⟨X3,hX3⟩:∃ X,gTy (gTx (gUp 1 s).2).2=X:=⟨_,rfl⟩
 rw [hX3] at HN3 ⊢
 obtain⟨X2,hX2⟩:∃ X,gTx (gUp 1 s).2=X:=⟨_,rfl⟩
 rw [hX2] at HN2 HN3 ⊢
 obtain⟨X1,hX1⟩:∃ X,gUp 1 s=X:=⟨_,rfl⟩
 rw [hX1] at N1 HN2 ⊢
 obtain⟨n1,s1⟩:=X1
 obtain⟨t2,s2⟩:=X2
 obtain⟨⟨k3,t3⟩,s3⟩:=X3
 simp only at N1 HN2 HN3 ⊢
 obtain⟨bb,hbb⟩:∃ b:Bool,(n1==1)=b:=⟨_,rfl⟩
 have hbd:decide (n1=1)=bb:=by rw [← hbb];by_cases e:n1=1 <;> simp [e]
 rw [hbd]
 clear h hX1 hX2 hX3 hl hbd
 go_enter Tryz.func91,Tryz.ntmps91
 go_wp2_with fail
 refine N1.out.mono ?_
 rintro x w1 ⟨rfl,h1,g1⟩
 have B1:=Lh ((BK.new w #[.bool false,.string ⟨#[]⟩,.int .i64 0,.string ⟨#[]⟩] 59).kept g1 (by omega))
 have N2:=Lh (HN2.out w1 h1)
 have G1:=Lh (Zae (ZaB ((Ext.refl w).alloc _) (some g)) g1)
 clear h1 g1
 go_wp2_with fail
 refine N2.out.mono ?_
 rintro x w2 ⟨rfl,h2,g2⟩
 have B2:=Lh (B1.out.kept g2 (by omega))
 have N3:=Lh (HN3.out w2 h2)
 have G2:=Lh (Zae G1.out g2)
 clear h2 g2
 go_wp2_with fail
 refine N3.out.mono ?_
 rintro x w4 ⟨rfl,h4,g4⟩
 have B4:=Lh (B2.out.kept g4 (by omega))
 have H4:=Lh h4
 have G4:=Lh (Zae G2.out g4)
 have z0:=B4.out.cell 0
 have z1:=B4.out.cell 1
 have z2:=B4.out.cell 2
 have z3:=B4.out.cell 3
 have f0:=B4.out.free 0
 have f1:=B4.out.free 1
 have f2:=B4.out.free 2
 have f3:=B4.out.free 3
 simp only [List.getElem?_toArray,List.getElem?_cons_zero,List.getElem?_cons_succ] at z0 z1 z2 z3
 clear h4 g4
 go_wp2
 refine bodyPost_ret (v:=.agg #[.bool bb,.string t2,.int .i64 k3,.string t3]) (by simp [results,Tryz.results91,go_sem,z0,z1,z2,z3];try first | exact⟨rfl,rfl⟩ | rfl) rfl ?_
 refine⟨rfl,?_,?_⟩
 ·exact(((H4.out.setO hb0' (by omega) 0 _).setO hb0' (by omega) 1 _).setO hb0' (by omega) 2 _).setO hb0' (by omega) 3 _
 ·exact ZaG (ZaG (ZaG (ZaG G4.out (Nat.le_refl _) 0 _) (Nat.le_refl _) 1 _) (Nat.le_refl _) 2 _) (Nat.le_refl _) 3 _
end Go.Proofs.YtclamhhgldkhnaaGreatDoor
