/- Several texts of this proof, one behind the other. -/
import Derived.WalkKit
import Derived.BigQuiet
import Derived.IntWalk
import Derived.Lib.Hide
import Derived.Maps.AppendAt
import Derived.Deep.AppendLies
import Derived.Deep.Draws
import Derived.ScopeJumps
import Derived.Laws.BitsAllLaws
import Derived.Laws.BitsLemmas
import Derived.Test.YtclamhhgldkhnaaGreatDoorProg
import Derived.Laws.BytesArg
import Derived.Lib.SliceRun
import Derived.Lib.Bytes
namespace Go.Proofs.YtclamhhgldkhnaaGreatDoor
open Go.RowKit
set_option maxHeartbeats 16000000
theorem Lh{p:Prop}(h:p):Go.RowKit.Hid p:=h
def gi (l:List Int) (j:Nat):Int:=l.getD j 0
def Ext (w w':World):Prop:=Below w.heap.size w w'
def Fit (k:IntKind) (l:List Int):Prop:=∀ x∈l,(Lit.int k x).wf=true
def Row (w:World) (k:IntKind) (v:Value) (l:List Int):Prop :=
 ∃ (A:Option Addr) (c:Nat),v=.slice A l.length c∧l.length≤c∧c≤maxLen∧(A=none→c=0)∧Fit k l ∧
  (0<l.length→∃ b o,A=some ⟨b,o,none⟩∧b<w.heap.size∧∀ j,j<l.length→w.cell? ⟨b,o+j,none⟩=some (.int k (gi l j)))
def Own (B:Nat) (w:World) (e:TypeId) (k:IntKind) (v:Value) (l:List Int):Prop :=
 w.ownsRow B e 1 v l.length (l.map (Value.int k))∧Fit k l
def Ret (w:World) (F:Value→World→Prop) (e:Ending) (w':World):Prop:=∃ v,e=.returned v∧F v w'∧Ext w w'
theorem Ext.refl (w:World):Ext w w:=Below.refl _ _
theorem Ext.size {w w':World} (h:Ext w w'):w.heap.size≤w'.heap.size:=Below.size h
theorem Ext.trans {a b c:World} (h:Ext a b) (k:Ext b c):Ext a c:=Below.trans h (Below.mono k h.size)
theorem Ext.alloc {a w:World} (h:Ext a w) (o:Obj):Ext a (w.alloc o):=Below.alloc h h.size o
theorem Ext.drew {a w:World} (h:Ext a w):Ext a w.drew:=Below.drew h
theorem Ext.drewN {a w:World} (h:Ext a w) (n:Nat):Ext a (w.drewN n):=⟨h.os,h.tape,h.output,h.size,h.block⟩
theorem Ext.grown {a w w':World} (h:Ext a w) {row:Option Nat} (hg:w.grownBy w' row) (hr:∀ g,row=some g→a.heap.size≤g):Ext a w':=Below.grown h hg h.size hr
theorem Ext.cell {w w':World} (h:Ext w w') {p:Addr} (hp:p.block<w.heap.size):w'.cell? p=w.cell? p:=Below.cell h hp
theorem Ext.set_ {a w:World} (h:Ext a w) {p:Addr} (hp:a.heap.size≤p.block) (u:Value):Ext a (w.setCell p u):=Below.setCell h hp u
theorem Zab {w:World} {g:Nat} {o:Obj} (h:w.heap[g]?=some o):g<w.heap.size:=by
 rcases Nat.lt_or_ge g w.heap.size with hlt | hge
 ·exact hlt
 ·rw [Array.getElem?_eq_none hge] at h;cases h
theorem Fit.nil (k:IntKind):Fit k []:=fun _ h=>by cases h
theorem Fit.app {k:IntKind} {l m:List Int} (h:Fit k l) (h':Fit k m):Fit k (l++m):=fun x hx=>(List.mem_append.1 hx).elim (h x) (h' x)
theorem Fit.drop {k:IntKind} {l:List Int} (h:Fit k l) (n:Nat):Fit k (l.drop n):=fun x hx=>h x (List.mem_of_mem_drop hx)
theorem Fit.take {k:IntKind} {l:List Int} (h:Fit k l) (n:Nat):Fit k (l.take n):=fun x hx=>h x (List.mem_of_mem_take hx)
theorem Fit.u8 {l:List Int} (h:Fit .u8 l) {x:Int} (hx:x∈l):0≤x∧x<256:=by
 have:=h x hx
 simp [Lit.wf,IntKind.min,IntKind.max,IntKind.signed,IntKind.bits] at this
 omega
theorem Zbb {l:List Int} {j:Nat} (h:j<l.length):gi l j∈l:=by
 unfold gi
 rw [List.getD_eq_getElem?_getD,List.getElem?_eq_getElem h]
 exact List.getElem_mem h
section
variable {w w' : World} {k : IntKind} {v : Value} {l : List Int}
theorem Row.ext (h:Row w k v l) (he:Ext w w'):Row w' k v l:=by
 obtain⟨A,c,h1,h2,h3,h4,h5,h6⟩:=h
 refine⟨A,c,h1,h2,h3,h4,h5,fun hl=>?_⟩
 obtain⟨b,o,ha,hb,hc⟩:=h6 hl
 exact⟨b,o,ha,Nat.lt_of_lt_of_le hb he.size,fun j hj=>(he.cell (p:=⟨b,o+j,none⟩) hb).trans (hc j hj)⟩
theorem Row.fit (h:Row w k v l):Fit k l:=by
 obtain⟨A,c,h1,h2,h3,h4,h5,h6⟩:=h
 exact h5
theorem Row.head {w:World} {k:IntKind} {A:Option Addr} {n c:Nat} {l:List Int} (h:Row w k (.slice A n c) l) (m:Nat) (hm:m≤l.length) :
 Row w k (.slice A m c) (l.take m):=by
 obtain⟨A,c',h1,h2,h3,h4,h5,h6⟩:=h
 injection h1 with e1 e2 e3
 subst e1 e2 e3
 have hlen:(l.take m).length=m:=by simp;omega
 refine⟨_,_,by rw [hlen],by omega,h3,h4,h5.take m,fun hl=>?_⟩
 obtain⟨b,o,ha,hb,hc⟩:=h6 (by omega)
 refine⟨b,o,ha,hb,fun j hj=>?_⟩
 rw [hc j (by omega)]
 simp [gi,show j<m by omega]
theorem Row.tail {w:World} {k:IntKind} {b o n c:Nat} {l:List Int} (h:Row w k (.slice (some ⟨b,o,none⟩) n c) l) (m:Nat) (hm:m≤l.length) :
 Row w k (.slice (some ⟨b,o+m,none⟩) (n-m) (c-m)) (l.drop m):=by
 obtain⟨A,c',h1,h2,h3,h4,h5,h6⟩:=h
 injection h1 with e1 e2 e3
 subst e1 e2 e3
 have hlen:(l.drop m).length=l.length-m:=by simp
 refine⟨_,_,by rw [hlen],by omega,by omega,(fun h=>by cases h),h5.drop m,fun hl=>?_⟩
 obtain⟨b',o',ha,hb,hc⟩:=h6 (by omega)
 injection ha with ha
 injection ha with e1 e2
 subst e1 e2
 refine⟨_,_,rfl,hb,fun j hj=>?_⟩
 rw [Nat.add_assoc,hc (m+j) (by omega)]
 simp [gi,List.getElem?_drop]
theorem Row.none_ (w:World) (k:IntKind) (A:Addr):Row w k (.slice (some A) 0 0) []:=⟨_,_,rfl,Nat.le_refl _,by simp [maxLen],(fun h=>by cases h),Fit.nil k,fun h=>by simp at h⟩
theorem Row.zero (w:World) (k:IntKind) (A:Addr) {n c:Nat} (hn:n=0) (hc:c≤maxLen):Row w k (.slice (some A) n c) []:=by
 subst hn
 exact⟨_,_,rfl,by simp,hc,(fun h=>by cases h),Fit.nil k,fun h=>by simp at h⟩
theorem Own.row {B:Nat} {e:TypeId} (h:Own B w e k v l):Row w k v l:=by
 obtain⟨⟨h1,h2⟩,hf⟩:=h
 rcases h2 with⟨rfl,h0⟩ | ⟨g,cap,cur,rfl,hb,hg,hn,hm,hs,ht⟩
 ·exact⟨none,0,by rw [h0],by omega,by simp [maxLen],fun _=>rfl,hf,fun hp=>by omega⟩
 ·refine⟨_,_,rfl,hn,hm,(fun h=>by cases h),hf,fun _=>⟨g,0,rfl,Zab hg,fun j hj=>?_⟩⟩
  have hj':j<cur.size:=by omega
  have e1:(cur.toList.take (l.length*1))[j]?=(l.map (Value.int k))[j]?:=by rw [ht]
  rw [List.getElem?_take_of_lt (by omega)] at e1
  simp [hj,hj'] at e1
  rw [cell_of_row w g (0+j) cur e (0,0) hg]
  simp [gi,hj,hj',e1]
theorem Own.ext {B:Nat} {e:TypeId} (h:Own B w e k v l) (he:Ext w w'):Own B w' e k v l:=by
 obtain⟨⟨h1,h2⟩,hf⟩:=h
 refine⟨⟨h1,?_⟩,hf⟩
 rcases h2 with h2 | ⟨g,cap,cur,hv,hb,hg,hr⟩
 ·exact .inl h2
 ·exact .inr ⟨g,cap,cur,hv,hb,(he.block g (Zab hg)).trans hg,hr⟩
theorem Own.nil (B:Nat) (w:World) (e:TypeId) (k:IntKind):Own B w e k (.slice none 0 0) []:=⟨World.ownsRow_nil w B e 1,Fit.nil k⟩
theorem Own.made (B:Nat) (w:World) (e:TypeId) (k:IntKind) (hB:B≤w.heap.size):Own B (w.alloc (.cells #[] e)) e k (.slice (some ⟨w.heap.size,0,none⟩) 0 0) [] :=
 ⟨World.ownsRow_made w #[] 0 hB (by simp [maxLen]) (by simp),Fit.nil k⟩
theorem Own.low {B:Nat} {e:TypeId} (h:Own B w e k v l):∀ g,v.ownBlock=some g→B≤g:=fun g hg=>(World.ownsRow.lt h.1 g hg).1
theorem Own.high {B:Nat} {e:TypeId} (h:Own B w e k v l):∀ g,v.ownBlock=some g→g<w.heap.size:=fun g hg=>(World.ownsRow.lt h.1 g hg).2
theorem Own.base {B B':Nat} {e:TypeId} (h:Own B w e k v l) (hB:B'≤B):Own B' w e k v l:=by
 obtain⟨⟨h1,h2⟩,hf⟩:=h
 refine⟨⟨h1,?_⟩,hf⟩
 rcases h2 with h2 | ⟨g,cap,cur,hv,hb,hr⟩
 ·exact .inl h2
 ·exact .inr ⟨g,cap,cur,hv,by omega,hr⟩
end
theorem Zjn {w:World} {k:IntKind} {x:Addr} {n c:Nat} {zs:List Int} (hl:n≤c) (hm:c≤maxLen) (hz:zs.length=c)
 (hcell:∀ i,i<zs.length→w.cell? (x.add i)=some (.int k (zs.getD i 0))) (hwz:∀ y∈zs,(Lit.int k y).wf=true):Row w k (.slice (some x) n c) (zs.take n):=by
 have hlen:(zs.take n).length=n:=by simp;omega
 refine⟨some x,c,by rw [hlen],by omega,hm,(fun h=>by cases h),Fit.take hwz n,fun hp=>?_⟩
 obtain⟨b,o,spot⟩:=x
 have h0:=hcell 0 (by omega)
 have hs:spot=none:=by simpa [Addr.add] using World.cell?_spot h0
 subst hs
 refine⟨b,o,rfl,?_,fun j hj=>?_⟩
 ·exact World.block_lt_of_cell? w ((⟨b,o,none⟩:Addr).add 0) h0
 ·have:=hcell j (by omega)
  rw [Addr.add_lit] at this
  rw [this]
  simp [gi,show j<n by omega]
theorem ZkD (k:IntKind) (l:List Int):∀ u∈l.map (Value.int k),u.oneCell'=true:=by
 intro u hu
 obtain⟨_,_,rfl⟩:=List.mem_map.1 hu
 rfl
theorem run_app {P:Program} (w:World) (B:Nat) (t ty e:TypeId) (z:Value) (bytes:Nat) (k:IntKind) (ht:P.underlying t=some (.slice e))
 (hi:(P.info? e).map (fun i=>(i.zero,i.size,i.bytes))=some (some z,1,bytes)) (hz:z.cells.size=1)
 (v:Value) (l:List Int) (ho:Own B w e k v l) (x:Value) (m:List Int) (hr:Row w k x m)
 (hb:(l.length+m.length)*bytes≤140737488355328) (hb1:1≤bytes) (hB:B≤w.heap.size) :
 ∃ v' w',(Builtin.append_ #[t,t] ty #[v,x]).run P w=.ok v' w'∧Own B w' e k v' (l++m)∧w.grownBy w' v.ownBlock∧(v'.ownBlock=v.ownBlock∨v'.ownBlock=some w.heap.size):=by
 obtain⟨i,hi1,hi2,hi3,hi4⟩:=info_parts hi
 obtain⟨A,c,rfl,h2,h3,h4,h5,h6⟩:=hr
 have hfit:Fit k (l++m):=ho.2.app h5
 have hlen:l.length+m.length≤140737488355328:=Nat.le_trans (Nat.le_mul_of_pos_right _ (by omega)) hb
 rcases A with _ | ad
 ·have hc:=h4 rfl
  have hm:m=[]:=List.eq_nil_of_length_eq_zero (by omega)
  subst hm
  refine⟨v,w,?_,by simpa using ho,World.grownBy.refl w _,.inl rfl⟩
  rcases ho.1.2 with⟨rfl,_⟩ | ⟨g,cap,cur,rfl,_,_,hnc,_⟩
  ·simp [Builtin.append_,run_underlying ht,sizeOf,typeInfo,hi1,Builtin.lenOf,Builtin.firstCells]
  ·simp [Builtin.append_,run_underlying ht,sizeOf,typeInfo,hi1,Builtin.lenOf,Builtin.firstCells,hnc,storeCells]
 ·have hcells:∀ j u,(m.map (Value.int k))[j]?=some u→w.cell? (ad.add j)=some u:=by
   intro j u hu
   have hj:j<m.length:=by
    have:=(List.getElem?_eq_some_iff.1 hu).1
    simpa using this
   obtain⟨b,o,hA,_,hc⟩:=h6 (by omega)
   injection hA with hA
   subst hA
   rw [Addr.add_lit,hc j hj]
   simp [hj] at hu
   simp [gi,hj,← hu]
  obtain⟨v',w',hrun,k2,k3,_,k5⟩:=run_append_own_at (P:=P) w B t ty e i z 1 bytes ht hi1 hi2 hi3 hi4 hz (by omega) v l.length (l.map (Value.int k)) ho.1 ad m.length c (m.map (Value.int k)) (by simp) hcells (ZkD k m) (by simp only [maxLen];omega) hb hB
  refine⟨v',w',hrun,⟨?_,hfit⟩,k3,k5⟩
  simpa using k2
theorem wpList_app {P:Program} (w:World) {ops:Array Oper} {rest:List Oper} {o:Oper} {a:Act} {Q:Exit→Act→World→Prop} (hgd:Region.wanted o (yielded ops a.tmps)=true) (s y:Operand) (B:Nat) (t e:TypeId) (z:Value) (bytes:Nat) (k:IntKind)
 (hop:o.op=.call { callee:=.builtin .append,args:=#[s,y],argTypes:=#[t,t] }) (ht:P.underlying t=some (.slice e))
 (hi:(P.info? e).map (fun i=>(i.zero,i.size,i.bytes))=some (some z,1,bytes)) (hz:z.cells.size=1) (hb1:1≤bytes)
 (v:Value) (l:List Int) (hs:a.eval s=v) (ho:Own B w e k v l) (x:Value) (m:List Int) (hx:a.eval y=x) (hr:Row w k x m)
 (hb:(l.length+m.length)*bytes≤140737488355328) (hB:B≤w.heap.size)
 (h:∀ v' w',Own B w' e k v' (l++m)→w.grownBy w' v.ownBlock→(v'.ownBlock=v.ownBlock∨v'.ownBlock=some w.heap.size)→wpList P ops Q rest (a.put o.dst v') w') :
 wpList P ops Q (o :: rest) a w:=by
 refine wpList_step fun K hK=>?_
 rw [if_pos hgd]
 obtain⟨v',w',hrun,h2,h3,h4⟩:=run_app (P:=P) w B t o.type e z bytes k ht hi hz v l ho x m hr hb hb1 hB
 unfold Oper.wp execOp
 simp only [hop,resolve,invoke,builtin,Sem.run_bind,Sem.run_pure,Result.andThen_ok,List.map_toArray,List.map_cons,List.map_nil,hs,hx,hrun]
 exact hK _ _ (h v' w' h2 h3 h4)
theorem Row.built (w:World) (k:IntKind) (t:TypeId) (l:List Int) (hf:Fit k l) (hl:l.length≤65536) :
 Row (w.alloc (.cells (l.map (Value.int k)).toArray t)) k (.slice (some ⟨w.heap.size,0,none⟩) l.length l.length) l:=by
 refine⟨_,_,rfl,Nat.le_refl _,by simp only [maxLen];omega,(fun h=>by cases h),hf,fun _=>⟨_,_,rfl,by simp,fun j hj=>?_⟩⟩
 rw [cell_of_row (w.alloc (.cells (l.map (Value.int k)).toArray t)) w.heap.size (0+j) _ t (0,0) (heap_alloc_new w _)]
 simp [gi,hj]
theorem Row.built1 (w:World) (k:IntKind) (t:TypeId) (x:Int) (hx:(Lit.int k x).wf=true) :
 Row (w.alloc (.cells #[.int k x] t)) k (.slice (some ⟨w.heap.size,0,none⟩) 1 1) [x] :=
 Row.built w k t [x] (fun y hy=>by rw [List.mem_singleton.1 hy];exact hx) (by simp)
theorem Zbp {x:Int} (h0:0≤x) (h1:x≤255):(Lit.int .u8 x).wf=true:=by
 simp [Lit.wf,IntKind.min,IntKind.max,IntKind.signed,IntKind.bits]
 omega
theorem ZaO {P:Program} {a:Act} {w:World} {Q:Exit→Act→World→Prop} {c rest:Code} (l:Nat) (J:Act→World→Prop) (μ:Act→World→Nat) (hf:findLabel c l=some (Code.skip.seq rest))
 (pass:∀ a w,J a w→rest.wp P (Exit.jump l (fun a' w'=>J a' w'∧μ a' w'<μ a w) Q) a w)
 (first:(∀ a w,J a w→rest.wp P (Exit.jump l J Q) a w)→c.wp P (Exit.jump l J Q) a w):(Code.scope c).wp P Q a w:=by
 refine wp_scope_jumps l J μ hf (first fun a w hJ=>wp_mono (pass a w hJ) fun e a w=>?_) fun a w hJ=>?_
 ·cases e <;> simp only [Exit.jump] <;> first | exact id | exact fun h=>⟨h.1,h.2.1⟩
 ·exact wp_seq (wp_skip (pass a w hJ))
theorem Ret.mk {w w':World} {F:Value→World→Prop} {v:Value} (hF:F v w') (he:Ext w w'):Ret w F (.returned v) w':=⟨v,rfl,hF,he⟩
def Ztp (w:World) (v:Value) (e:Ending) (w':World):Prop:=e=.returned v∧∃ m,w'=w.drewN m
theorem Zjh {l m:List Int} {k:Nat} (hl:k<l.length) (hm:k<m.length) (h:l.take k=m.take k) (hg:gi l k=gi m k):l.take (k+1)=m.take (k+1):=by
 rw [List.take_succ_eq_append_getElem hl,List.take_succ_eq_append_getElem hm,h]
 simp [gi,List.getD_eq_getElem?_getD,hl,hm] at hg
 rw [hg]
theorem ZpU {l m:List Int} {k:Nat} (hg:¬ gi l k=gi m k):¬ l=m:=fun h=>hg (by rw [h])
theorem ZfQ (v1 v2:Value) (l1 l2:List Int) (w:World) (h1:Row w .u8 v1 l1) (h2:Row w .u8 v2 l2) :
 Calls Tryz.prog 11 #[v1,v2] w (Ztp w (.bool (decide (l1=l2)))):=by
 obtain⟨A1,c1,rfl,hc1,hm1,ha1,hf1,hg1⟩:=h1
 obtain⟨A2,c2,rfl,hc2,hm2,ha2,hf2,hg2⟩:=h2
 unfold maxLen at hm1 hm2
 by_cases hl:l1.length=l2.length
 ·obtain⟨n,hn⟩:∃ n,n=l1.length:=⟨_,rfl⟩
  rw [← hn] at hc1 hg1
  rw [← hl,← hn] at hc2 hg2
  rw [← hn,← hl,← hn]
  have Hn:=Lh hn
  have Hl:=Lh hl
  clear hn hl ha1 ha2
  go_enter Tryz.func11,Tryz.ntmps11
  go_wp2
  go_loopw [5] (fun i wr=>∃ k m:Nat,k≤n∧i=.int .i64 k∧wr=w.drewN m∧l1.take k=l2.take k) (fun i _=>n-(intOf i).toNat)
  case atStart=>exact⟨0,0,by omega,rfl,rfl,rfl⟩
  case round =>
   obtain⟨k,m,hk,rfl,rfl,ht⟩:=hrel
   have Ht:=Lh ht
   clear ht
   by_cases hlt:k<n
   ·obtain⟨b1,o1,rfl,hb1,hx1⟩:=hg1 (by omega)
    obtain⟨b2,o2,rfl,hb2,hx2⟩:=hg2 (by omega)
    have hy1:=hx1 k hlt
    have hy2:=hx2 k hlt
    clear hx1 hx2
    go_wp2
    go_quiet (fail)
    go_wp2
    ·go_ret
     refine⟨?_,m+nq,by rw [World.drewN_drewN]⟩
     have hx:(gi l1 k != gi l2 k)=true:=by assumption
     have hx':¬ gi l1 k=gi l2 k:=by simpa using hx
     simp [ZpU hx']
    ·have hx:(gi l1 k != gi l2 k)=false:=by assumption
     have hx':gi l1 k=gi l2 k:=by simpa using hx
     refine⟨⟨k+1,m+nq,by omega,by go_num,rfl,?_⟩,by simp [intOf];omega⟩
     exact Zjh (by have:=Hn.out;omega) (by have:=Hn.out;have:=Hl.out;omega) Ht.out hx'
   ·go_wp2
    go_ret
    refine⟨?_,_,rfl⟩
    have hk':k=n:=by omega
    have e:l1=l2:=by
     have:=Ht.out
     rw [hk',Hn.out] at this
     rwa [List.take_length,Hl.out,List.take_length] at this
    simp [e]
 ·have hb:((l1.length:Int) != (l2.length:Int))=true:=by simp;omega
  have hne:¬ l1=l2:=fun h=>hl (by rw [h])
  have Hne:=Lh hne
  clear hg1 hg2 ha1 ha2 hf1 hf2 hne hl
  go_enter Tryz.func11,Tryz.ntmps11
  go_wp2
  go_ret
  exact⟨by simp [Hne.out],0,rfl⟩
theorem Zaq:(Tryz.prog.info? 5).map (fun i=>(i.zero,i.size,i.bytes))=some (some (.int .u8 0),1,1):=by kernel_rfl
theorem Zhh (v:Value) (l:List Int) (w:World) (h:Row w .u8 v l) (hl:l.length≤140737488355328) :
 Calls Tryz.prog 15 #[v] w (Ret w (fun v' w'=>Own w.heap.size w' 5 .u8 v' l)):=by
 go_enter Tryz.func15,Tryz.ntmps15
 go_wp2_with (at_builtin;refine wpList_app _ rfl _ _ w.heap.size 29 5 _ 1 .u8 rfl Tryz.underlying29 Zaq rfl (by omega) _ [] rfl (Own.nil _ _ _ _) v l rfl h (by simp;omega) (by simp) ?_)
 intro v' w' ho hg _
 go_wp2
 go_ret
 exact Ret.mk (by simpa using ho) ((Ext.refl _).grown hg (fun g hg=>by cases hg))
theorem Row.conv {w:World} {v:Value} {l:List Int} (h:Row w .u8 v l):(convert 29 9 v).run Tryz.prog w=.ok (.string (strOfNums l)) w:=by
 obtain⟨A,c,rfl,h2,h3,h4,h5,h6⟩:=h
 by_cases hl:0<l.length
 ·obtain⟨b,o,rfl,_,hc⟩:=h6 hl
  exact run_convert_bytes_arg w _ _ Tryz.underlying29 Tryz.underlying5 b o _ c l rfl hc _ Tryz.underlying9
 ·have hl:l=[]:=List.eq_nil_of_length_eq_zero (by omega)
  subst hl
  rw [run_convert_bytes_string w _ _ _ _ _ _ Tryz.underlying29 Tryz.underlying5 Tryz.underlying9]
  cases A <;> simp [Conv.bytesToString,loadCells,loadCellsFrom,strOfNums] <;> rfl
theorem ZeD {l m:List Int} (hl:Fit .u8 l) (hm:Fit .u8 m):((strOfNums l).toList==(strOfNums m).toList)=decide (l=m):=by
 rw [Lib.strOfNums_toList,Lib.strOfNums_toList]
 unfold Lib.bytesOf
 by_cases h:l=m
 ·simp [h]
 ·have:¬ l.map (fun n=>UInt8.ofNat n.toNat)=m.map (fun n=>UInt8.ofNat n.toNat):=by
   intro e2
   apply h
   have inv:∀ x:Int,0≤x∧x<256→((UInt8.ofNat x.toNat).toNat:Int)=x:=by
    intro x hx
    simp
    omega
   have back:∀ l:List Int,Fit .u8 l→(l.map (fun n=>UInt8.ofNat n.toNat)).map (fun u=>(u.toNat:Int))=l:=by
    intro l hl
    rw [List.map_map]
    conv=>rhs;rw [← List.map_id l]
    exact List.map_congr_left fun x hx=>inv x (hl.u8 hx)
   rw [← back l hl,← back m hm,e2]
  simp [h,this]
theorem Zb0 (v1 v2:Value) (l1 l2:List Int) (w:World) (h1:Row w .u8 v1 l1) (h2:Row w .u8 v2 l2) :
 Calls Tryz.prog 82 #[v1,v2] w fun e w'=>e=.returned (.bool (decide (l1=l2)))∧w=w':=by
 have e1:=h1.conv
 have e2:=h2.conv
 rw [← ZeD h1.fit h2.fit]
 obtain⟨A1,c1,rfl,hc1,hm1,ha1,hf1,hg1⟩:=h1
 obtain⟨A2,c2,rfl,hc2,hm2,ha2,hf2,hg2⟩:=h2
 clear ha1 hf1 hg1 ha2 hf2 hg2
 go_enter Tryz.func82,Tryz.ntmps82
 go_wp2
 go_ret
 exact⟨rfl,rfl⟩
end Go.Proofs.YtclamhhgldkhnaaGreatDoor
