/- Several texts of this proof, one behind the other. -/
import Derived.Test.YtclamhhgldkhnaaGreatDoorZwA
import Derived.OwnWalk
import Derived.Laws.MakeOwn
import Derived.Test.YtclamhhgldkhnaaGreatDoorZwC
import Derived.Test.YtclamhhgldkhnaaGreatDoorZwB
namespace Go.Proofs.YtclamhhgldkhnaaGreatDoor
open Go.RowKit
set_option linter.unusedVariables false
set_option maxHeartbeats 16000000
section
variable {w w' : World} {B : Nat} {e : TypeId} {k : IntKind} {v : Value} {l : List Int}
end
theorem Zaa {a w:World} {g:Nat} (h:a.grownBy w (some g)) (j:Nat) (u:Value):a.grownBy (w.setCell ⟨g,j,none⟩ u) (some g):=by
 refine⟨h.os,h.tape,h.output,by simpa [World.setCell] using h.size,fun i hi hne=>?_⟩
 rw [Below.heap_setCell w ⟨g,j,none⟩ u i (fun e=>hne (by rw [e]))]
 exact h.block i hi hne
theorem Own.kept {w w':World} {B:Nat} {e:TypeId} {k:IntKind} {v:Value} {l:List Int} (h:Own B w e k v l) {row:Option Nat} (hg:w.grownBy w' row) (hne:∀ g,v.ownBlock=some g→row≠some g):Own B w' e k v l:=by
 obtain⟨⟨h1,h2⟩,hf⟩:=h
 refine⟨⟨h1,?_⟩,hf⟩
 rcases h2 with h2 | ⟨g,cap,cur,hv,hb,hg',hr⟩
 ·exact .inl h2
 ·refine .inr ⟨g,cap,cur,hv,hb,(hg.block g (Zab hg') ?_).trans hg',hr⟩
  exact fun e=>hne g (by rw [hv];rfl) e.symm
theorem Row.kept {w w':World} {k:IntKind} {v:Value} {l:List Int} (h:Row w k v l) {row:Option Nat} (hg:w.grownBy w' row) (hne:∀ g,v.ownBlock=some g→row≠some g):Row w' k v l:=by
 obtain⟨A,c,h1,h2,h3,h4,h5,h6⟩:=h
 refine⟨A,c,h1,h2,h3,h4,h5,fun hl=>?_⟩
 obtain⟨b,o,ha,hb,hc⟩:=h6 hl
 refine⟨b,o,ha,Nat.lt_of_lt_of_le hb hg.size,fun j hj=>?_⟩
 have e:=hg.block b hb (fun e=>hne b (by rw [h1,ha];rfl) e.symm)
 exact(World.cell?_of_block (w:=w) (a:=⟨b,o+j,none⟩) e).trans (hc j hj)
theorem Zk2 (n:Int) (w:World) (hl:-9223372036854775808≤n) (hh:n≤9223372036854775807) :
 Calls Tryz.prog 120 #[.int .i64 n] w (Ret w (Znt w (uS n).1 (uS n).2)):=by
 by_cases h0:n<0
 ·have e:uS n=([],9):=by unfold uS;rw [if_pos (.inl h0)]
  rw [e]
  clear e
  go_enter Tryz.func120,Tryz.ntmps120
  go_wp2
  go_ret2
  exact Ret.mk ⟨_,rfl,Own.nil _ _ _ _⟩ (Ext.refl _)
 ·by_cases h1:9007199254740991<n
  ·have e:uS n=([],9):=by unfold uS;rw [if_pos (.inr h1)]
   rw [e]
   clear e
   go_enter Tryz.func120,Tryz.ntmps120
   go_wp2
   go_ret2
   exact Ret.mk ⟨_,rfl,Own.nil _ _ _ _⟩ (Ext.refl _)
  ·have e:uS n=(dg 1 10 n,0):=by unfold uS;rw [if_neg (by omega)]
   rw [e]
   clear e
   have hin:InB 1 9 n:=InB.start hl hh (.inr ⟨rfl,by omega⟩)
   go_enter Tryz.func120,Tryz.ntmps120
   go_wp2
   go_loopw [0,4] (fun x o wr=>∃ (f:Nat) (m:Int) (pre:List Int),x=.int .i64 m∧Ext w wr∧Own w.heap.size wr 5 .u8 o pre∧f≤9∧Hid (pre.length+f=9)∧pre.length≤9∧InB 1 f m∧Hid (dg 1 10 n=pre++dg 1 (f+1) m)) (fun x _ _=>mag x)
   case atStart=>exact⟨9,n,[],rfl,Ext.refl _,Own.nil _ _ _ _,by omega,rfl,by simp,hin,rfl⟩
   case round =>
    clear h0 h1 hin
    obtain⟨f,m,pre,rfl,he,ho,hf,HP,hpl,hb,HD⟩:=hrel
    have hm:=hb.bound hf
    have hm0:0≤m:=by have:=hb.2.2;omega
    by_cases hc:m<128
    ·have HC:Hid (m/128=ab 1 (m%128)):=by rw [Hid,ZkV];omega
     go_wp2_with (at_builtin;refine wpList_app _ rfl _ _ w.heap.size 29 5 _ 1 .u8 rfl Tryz.underlying29 Zaq rfl (by omega) _ pre rfl (ho.ext ((Ext.refl _).alloc _)) _ [_] rfl (Row.built1 _ _ _ _ (Zbp (by omega) (by omega))) (by simp;omega) (by have:=he.size;simp;omega) ?_;intro v2 w2 ho2 hg2 _)
     go_ret2
     refine Ret.mk ⟨_,rfl,?_⟩ ((he.alloc _).grown hg2 ho.low)
     rw [HD.out,Zc1 f HC.out]
     have e:m%128=m:=by omega
     rw [e]
     simpa using ho2
    ·have HC:Hid (¬ m/128=ab 1 (m%128)):=by rw [Hid,ZkV];omega
     have hf1:¬ f=0:=by
      rintro rfl
      exact HC.out hb.last
     obtain⟨g,rfl⟩:∃ g,f=g+1:=⟨f-1,by omega⟩
     go_wp2_with (at_builtin;refine wpList_app _ rfl _ _ w.heap.size 29 5 _ 1 .u8 rfl Tryz.underlying29 Zaq rfl (by omega) _ pre rfl (ho.ext ((Ext.refl _).alloc _)) _ [_] rfl (Row.built1 _ _ _ _ (Zbp (by omega) (by omega))) (by simp;omega) (by have:=he.size;simp;omega) ?_;intro v2 w2 ho2 hg2 _)
     go_roundw
     case rel =>
      refine⟨g,m/128,pre++[m%128+128],rfl,(he.alloc _).grown hg2 ho.low,ho2,by omega,?_,?_,hb.next,?_⟩
      ·have:=HP.out
       simp [Hid]
       omega
      ·have:=HP.out
       simp
       omega
      ·rw [Hid,HD.out,ZeP _ HC.out]
       simp
     case measure=>exact Znw hb HC.out
theorem Zkt (n:Int) (w:World) (hl:-9223372036854775808≤n) (hh:n≤9223372036854775807) :
 Calls Tryz.prog 119 #[.int .i64 n] w (Ret w (fun v' w'=>Own w.heap.size w' 5 .u8 v' (dg 2 10 n))):=by
 have hin:InB 2 9 n:=InB.start hl hh (.inl rfl)
 go_enter Tryz.func119,Tryz.ntmps119
 go_wp2
 go_loopw [0,3] (fun x o wr=>∃ (f:Nat) (m:Int) (pre:List Int),x=.int .i64 m∧Ext w wr∧Own w.heap.size wr 5 .u8 o pre∧f≤9∧Hid (pre.length+f=9)∧pre.length≤9∧InB 2 f m∧Hid (dg 2 10 n=pre++dg 2 (f+1) m)) (fun x _ _=>mag x)
 case atStart=>exact⟨9,n,[],rfl,Ext.refl _,Own.nil _ _ _ _,by omega,rfl,by simp,hin,rfl⟩
 case round =>
  clear hin
  obtain⟨f,m,pre,rfl,he,ho,hf,HP,hpl,hb,HD⟩:=hrel
  have hm:=hb.bound hf
  have ha:=ZqN
  have h256:m%128%256=m%128:=by omega
  by_cases hc:m/128=ab 2 (m%128)
  ·have HC:=Lh hc
   rw [ZqL] at hc
   by_cases hd:m%128<64
   ·have hz:(m/128==0)=true:=beq_iff_eq.2 (by omega)
    clear hc
    go_wp2_with (at_builtin;refine wpList_app _ rfl _ _ w.heap.size 29 5 _ 1 .u8 rfl Tryz.underlying29 Zaq rfl (by omega) _ pre rfl (ho.ext ((Ext.refl _).alloc _)) _ [_] rfl (Row.built1 _ _ _ _ (Zbp (by omega) (by omega))) (by simp;omega) (by have:=he.size;simp;omega) ?_;intro v2 w2 ho2 hg2 _)
    go_ret
    refine Ret.mk ?_ ((he.alloc _).grown hg2 ho.low)
    rw [HD.out,Zc1 f HC.out]
    simpa using ho2
   ·have hz:(m/128==0)=false:=beq_eq_false_iff_ne.2 (by omega)
    have hz1:(m/128==-1)=true:=beq_iff_eq.2 (by omega)
    clear hc
    go_wp2_with (at_builtin;refine wpList_app _ rfl _ _ w.heap.size 29 5 _ 1 .u8 rfl Tryz.underlying29 Zaq rfl (by omega) _ pre rfl (ho.ext ((Ext.refl _).alloc _)) _ [_] rfl (Row.built1 _ _ _ _ (Zbp (by omega) (by omega))) (by simp;omega) (by have:=he.size;simp;omega) ?_;intro v2 w2 ho2 hg2 _)
    go_ret
    refine Ret.mk ?_ ((he.alloc _).grown hg2 ho.low)
    rw [HD.out,Zc1 f HC.out]
    simpa using ho2
  ·have HC:=Lh hc
   have hf1:¬ f=0:=by
    rintro rfl
    exact HC.out hb.last
   obtain⟨g,rfl⟩:∃ g,f=g+1:=⟨f-1,by omega⟩
   rw [ZqL] at hc
   have fin:∀ (v2:Value) (w2:World),Own w.heap.size w2 5 .u8 v2 (pre++[m%128+128])→Ext w w2→∃ (f:Nat) (m':Int) (pre':List Int),Value.int .i64 (m/128)=.int .i64 m'∧Ext w w2∧Own w.heap.size w2 5 .u8 v2 pre'∧f≤9∧Hid (pre'.length+f=9)∧pre'.length≤9∧InB 2 f m'∧Hid (dg 2 10 n=pre'++dg 2 (f+1) m'):=by
    intro v2 w2 ho2 he2
    refine⟨g,m/128,pre++[m%128+128],rfl,he2,ho2,by omega,?_,?_,hb.next,?_⟩
    ·have:=HP.out
     simp [Hid]
     omega
    ·have:=HP.out
     simp
     omega
    ·rw [Hid,HD.out,ZeP _ HC.out]
     simp
   have hcases:(m/128==0)=false∧(m/128==-1)=false∨(m/128==0)=true∧(m/128==-1)=false∧64≤m%128∨(m/128==0)=false∧(m/128==-1)=true∧m%128<64:=by
    rw [beq_eq_false_iff_ne,beq_eq_false_iff_ne,beq_iff_eq,beq_iff_eq]
    omega
   have HF:=Lh fin
   clear hc fin
   rcases hcases with⟨q1,q2⟩ | ⟨q1,q2,q3⟩ | ⟨q1,q2,q3⟩
   all_goals
    go_wp2_with (at_builtin;refine wpList_app _ rfl _ _ w.heap.size 29 5 _ 1 .u8 rfl Tryz.underlying29 Zaq rfl (by omega) _ pre rfl (ho.ext ((Ext.refl _).alloc _)) _ [_] rfl (Row.built1 _ _ _ _ (Zbp (by omega) (by omega))) (by simp;omega) (by have:=he.size;simp;omega) ?_;intro v2 w2 ho2 hg2 _)
    go_roundw
    case rel=>exact HF.out _ _ ho2 ((he.alloc _).grown hg2 ho.low)
    case measure=>exact Znw hb HC.out
theorem ZbF (r:Int) (w:World) (h0:0≤r) (h1:r≤1114111) :
 Calls Tryz.prog 191 #[.int .i32 r] w fun e w'=>e=.returned (.int .u8 (128+r%64))∧w=w':=by
 have b1:=Zoc r h0 (by omega)
 have b2:=ZpD (r%64) (by omega) (by omega)
 have b3:r%64%256=r%64:=by omega
 go_enter Tryz.func191,Tryz.ntmps191
 go_wp2
 go_ret
 exact⟨rfl,rfl⟩
theorem Zqp (r:Int) (w:World) (h0:65536≤r) (h1:r≤1114111) :
 Calls Tryz.prog 189 #[.int .i32 r] w fun e w'=>e=.returned (.int .i64 6)∧w=w':=by
 go_enter Tryz.func189,Tryz.ntmps189
 go_wp2
 go_ret
 exact⟨rfl,rfl⟩
theorem Zpw (r:Int) (w:World) (h0:2048≤r) (h1:r≤65535) :
 Calls Tryz.prog 189 #[.int .i32 r] w fun e w'=>e=.returned (.int .i64 3)∧w=w':=by
 go_enter Tryz.func189,Tryz.ntmps189
 go_wp2
 go_ret
 exact⟨rfl,rfl⟩
theorem ZoU (r:Int) (w:World) (h0:128≤r) (h1:r≤2047) :
 Calls Tryz.prog 189 #[.int .i32 r] w fun e w'=>e=.returned (.int .i64 2)∧w=w':=by
 go_enter Tryz.func189,Tryz.ntmps189
 go_wp2
 go_ret
 exact⟨rfl,rfl⟩
theorem Zqv (r:Int) (w:World) (h0:1≤r) (h1:r≤127) :
 Calls Tryz.prog 189 #[.int .i32 r] w fun e w'=>e=.returned (.int .i64 1)∧w=w':=by
 have hb:(r==0)=false:=by simp;omega
 go_enter Tryz.func189,Tryz.ntmps189
 go_wp2
 go_ret
 exact⟨rfl,rfl⟩
theorem ZpF (w:World):Calls Tryz.prog 189 #[.int .i32 0] w fun e w'=>e=.returned (.int .i64 2)∧w=w':=by
 go_enter Tryz.func189,Tryz.ntmps189
 go_wp2
 go_ret
 exact⟨rfl,rfl⟩
theorem ZlF (r:Int) (w:World) (h0:0≤r) (h1:r≤1114111) :
 Calls Tryz.prog 189 #[.int .i32 r] w fun e w'=>e=.returned (.int .i64 (ch r).length)∧w=w':=by
 refine Zqj (P:=fun r l=>Calls Tryz.prog 189 #[.int .i32 r] w fun e w'=>e=.returned (.int .i64 l.length)∧w=w') r h0 h1 ?_ ?_ ?_ ?_
 ·intro a b;exact Zqv r w a b
 ·intro a b
  by_cases h:r=0
  ·subst h;exact ZpF w
  ·exact ZoU r w (by omega) b
 ·intro a b;exact Zpw r w a b
 ·intro a;exact Zqp r w a h1
theorem Zb6 {w w':World} {o:Obj} {row:Option Nat} (h:(w.alloc o).grownBy w' row):w.grownBy w' row :=
 ⟨h.os,h.tape,h.output,by have:=h.size;simp at this;omega,fun k hk hne=>(h.block k (by simp;omega) hne).trans (heap_alloc_old w o hk)⟩
theorem Zit {a b c:World} {r r1:Option Nat} (h:a.grownBy b r) (k:b.grownBy c r1) (hr:r1=r∨∃ g,a.heap.size≤g∧r1=some g):a.grownBy c r :=
 ⟨k.os.trans h.os,k.tape.trans h.tape,k.output.trans h.output,Nat.le_trans h.size k.size,fun i hi hne=>by
  rw [k.block i (Nat.lt_of_lt_of_le hi h.size) (by
   rcases hr with rfl | ⟨g,hg,rfl⟩
   ·exact hne
   ·intro e;injection e with e;omega)]
  exact h.block i hi hne⟩
def RoomAt (T:TypeId) (B:Nat) (w:World) (v:Value) (l:List Int) (n:Nat):Prop :=
 ∃ g cap cur,v=.slice (some ⟨g,0,none⟩) l.length cap∧B≤g∧w.heap[g]?=some (.cells cur T (0,0))∧l.length+n≤cap∧cap≤maxLen∧cur.size=cap∧cur.toList.take l.length=l.map (Value.int .u8)∧Fit .u8 l
def Has (T:Option TypeId) (B:Nat) (w:World) (v:Value) (l:List Int) (n:Nat):Prop :=
 match T with
 | none=>Own B w 5 .u8 v l∧l.length+n≤140737488355328
 | some T=>RoomAt T B w v l n
theorem RoomAt.row {T:TypeId} {B:Nat} {w:World} {v:Value} {l:List Int} {n:Nat} (h:RoomAt T B w v l n):Row w .u8 v l:=by
 obtain⟨g,cap,cur,rfl,hb,hg,hn,hm,hs,ht,hf⟩:=h
 refine⟨_,_,rfl,by omega,hm,(fun h=>by cases h),hf,fun _=>⟨g,0,rfl,Zab hg,fun j hj=>?_⟩⟩
 have hj':j<cur.size:=by omega
 have e1:(cur.toList.take l.length)[j]?=(l.map (Value.int .u8))[j]?:=by rw [ht]
 rw [List.getElem?_take_of_lt (by omega)] at e1
 simp [hj,hj'] at e1
 rw [cell_of_row w g (0+j) cur T (0,0) hg]
 simp [gi,hj,hj',e1]
theorem Has.row {T:Option TypeId} {B:Nat} {w:World} {v:Value} {l:List Int} {n:Nat} (h:Has T B w v l n):Row w .u8 v l:=by
 cases T with
 | none=>exact h.1.row
 | some T=>exact RoomAt.row h
theorem Has.kept {T:Option TypeId} {B:Nat} {w w':World} {v:Value} {l:List Int} {n:Nat} (h:Has T B w v l n) {row:Option Nat} (hg:w.grownBy w' row) (hne:∀ g,v.ownBlock=some g→row≠some g):Has T B w' v l n:=by
 cases T with
 | none =>
  refine⟨⟨h.1.1.kept hg ?_,h.1.2⟩,h.2⟩
  cases hv:v.ownBlock with
  | none=>exact .inl rfl
  | some g=>exact .inr (fun e=>hne g hv e.symm)
 | some T =>
  obtain⟨g,cap,cur,rfl,hb,hgg,hr⟩:=h
  exact⟨g,cap,cur,rfl,hb,(hg.block g (Zab hgg) (fun e=>hne g rfl e.symm)).trans hgg,hr⟩
theorem Has.alloc {T:Option TypeId} {B:Nat} {w:World} {v:Value} {l:List Int} {n:Nat} (h:Has T B w v l n) (o:Obj):Has T B (w.alloc o) v l n :=
 h.kept (World.grownBy_alloc w o none) (fun _ _=>by simp)
theorem Zsj {P:Program} (w:World) (B:Nat) (T:Option TypeId) (t ty:TypeId) (ht:P.underlying t=some (.slice 5))
 (hi:(P.info? 5).map (fun i=>(i.zero,i.size,i.bytes))=some (some (.int .u8 0),1,1)) (v:Value) (l:List Int) (n:Nat) (x:Value) (m:List Int) (ho:Has T B w v l (m.length+n)) (hr:Row w .u8 x m) (hm:0<m.length) (hB:B≤w.heap.size) :
 ∃ v' w',(Builtin.append_ #[t,t] ty #[v,x]).run P w=.ok v' w'∧Has T B w' v' (l++m) n∧w.grownBy w' v.ownBlock∧(v'.ownBlock=v.ownBlock∨v'.ownBlock=some w.heap.size):=by
 cases T with
 | none =>
  obtain⟨ho,hl⟩:=ho
  obtain⟨v',w',h1,h2,h3,h4⟩:=run_app (P:=P) w B t ty 5 (.int .u8 0) 1 .u8 ht hi rfl v l ho x m hr (by omega) (by omega) hB
  exact⟨v',w',h1,⟨h2,by rw [List.length_append];omega⟩,h3,h4⟩
 | some T =>
  obtain⟨i,hi1,hi2,hi3,hi4⟩:=info_parts hi
  obtain⟨g,cap,cur,rfl,hb,hg,hn,hcm,hs,htk,hf⟩:=ho
  obtain⟨A,c,rfl,h2,h3,h4,h5,h6⟩:=hr
  obtain⟨b,o,rfl,_,hc⟩:=h6 hm
  have hcells:∀ j u,(m.map (Value.int .u8))[j]?=some u→w.cell? ((⟨b,o,none⟩:Addr).add j)=some u:=by
   intro j u hu
   have hj:j<m.length:=by
    have:=(List.getElem?_eq_some_iff.1 hu).1
    simpa using this
   rw [Addr.add_lit,hc j hj]
   simp [hj] at hu
   simp [gi,hj,← hu]
  have hf1:=run_firstCells_some (P:=P) w i.size m.length ⟨b,o,none⟩ m.length c (m.map (Value.int .u8)) (by simp [hi3]) hcells
  have hst:=run_storeCells_at P g l.length T (m.map (Value.int .u8)) 0 cur w hg (by simp;omega) (ZkD .u8 m)
  simp only [Nat.add_zero] at hst
  have hroom:l.length+m.length≤cap:=by omega
  obtain⟨C,hC⟩:∃ C,C=(List.take l.length cur.toList++List.map (Value.int .u8) m++List.drop (l.length+(List.map (Value.int .u8) m).length) cur.toList).toArray:=⟨_,rfl⟩
  rw [← hC] at hst
  have hrun:(Builtin.append_ #[t,t] ty #[.slice (some ⟨g,0,none⟩) l.length cap,.slice (some ⟨b,o,none⟩) m.length c]).run P w=.ok (.slice (some ⟨g,0,none⟩) (l++m).length cap) (w.setRow g C):=by
   rw [hi3] at hf1
   simp [Builtin.append_,run_underlying ht,sizeOf,typeInfo,hi1,hi3,Builtin.lenOf,hroom,hf1,Addr.add_lit,hst]
  have hCs:C.size=cap:=by
   rw [hC]
   simp
   omega
  have hCt:C.toList.take (l++m).length=(l++m).map (Value.int .u8):=by
   rw [hC,List.toList_toArray,htk,List.length_append,List.map_append]
   have e:l.length+m.length=(l.map (Value.int .u8)++m.map (Value.int .u8)).length:=by simp
   rw [e,List.take_left]
  refine⟨_,_,hrun,⟨g,cap,C,rfl,hb,setRow_heap w g cur C T (0,0) hg,by rw [List.length_append];omega,hcm,hCs,hCt,hf.app h5⟩,⟨rfl,rfl,rfl,by simp,fun k _ hk=>setRow_other w g k C (fun e=>hk (by simp [Value.ownBlock,e]))⟩,.inl rfl⟩
theorem Zcs {P:Program} (w:World) {ops:Array Oper} {rest:List Oper} {o:Oper} {a:Act} {Q:Exit→Act→World→Prop} (hgd:Region.wanted o (yielded ops a.tmps)=true) (s y:Operand) (B:Nat) (T:Option TypeId) (t:TypeId)
 (hop:o.op=.call { callee:=.builtin .append,args:=#[s,y],argTypes:=#[t,t] }) (ht:P.underlying t=some (.slice 5))
 (hi:(P.info? 5).map (fun i=>(i.zero,i.size,i.bytes))=some (some (.int .u8 0),1,1))
 (v:Value) (l:List Int) (n:Nat) (hs:a.eval s=v) (x:Value) (m:List Int) (ho:Has T B w v l (m.length+n)) (hx:a.eval y=x) (hr:Row w .u8 x m) (hm:0<m.length) (hB:B≤w.heap.size)
 (h:∀ v' w',Has T B w' v' (l++m) n→w.grownBy w' v.ownBlock→(v'.ownBlock=v.ownBlock∨v'.ownBlock=some w.heap.size)→wpList P ops Q rest (a.put o.dst v') w') :
 wpList P ops Q (o :: rest) a w:=by
 refine wpList_step fun K hK=>?_
 rw [if_pos hgd]
 obtain⟨v',w',hrun,h2,h3,h4⟩:=Zsj (P:=P) w B T t o.type ht hi v l n x m ho hr hm hB
 unfold Oper.wp execOp
 simp only [hop,resolve,invoke,builtin,Sem.run_bind,Sem.run_pure,Result.andThen_ok,List.map_toArray,List.map_cons,List.map_nil,hs,hx,hrun]
 exact hK _ _ (h v' w' h2 h3 h4)
def Put (T:Option TypeId) (B:Nat) (w:World) (v:Value) (l:List Int) (n:Nat) (e:Ending) (w':World):Prop :=
 ∃ v',e=.returned v'∧Has T B w' v' l n∧w.grownBy w' v.ownBlock∧(v'.ownBlock=v.ownBlock∨∃ g,w.heap.size≤g∧v'.ownBlock=some g)
theorem Zt7 (T:Option TypeId) (v:Value) (l:List Int) (n:Nat) (r:Int) (B:Nat) (w:World) (ho:Has T B w v l (1+n)) (hB:B≤w.heap.size) (h0:1≤r) (h1:r≤127) :
 Calls Tryz.prog 159 #[v,.int .i32 r] w (Put T B w v (l++[r]) n):=by
 have hb:(r==0)=false:=by simp;omega
 have b3:r%256=r:=by omega
 go_enter Tryz.func159,Tryz.ntmps159
 go_wp2_with (first | (go_at_call 191;refine(ZbF _ _ (by omega) (by omega)).mono ?_;rintro e w1 ⟨rfl,rfl⟩) | (at_builtin;go_loud (refine Zcs _ rfl _ _ B T 29 rfl Tryz.underlying29 Zaq v _ n rfl _ [r] (Has.alloc ho _) rfl (Row.built _ _ _ [r] (by intro x hx;simp only [List.mem_cons,List.not_mem_nil,or_false] at hx;exact Zbp (by omega) (by omega)) (by simp)) (by simp) (by simp;omega) ?_)))
 intro v' w2 ho2 hg2 hb2
 go_wp2
 go_ret
 refine⟨_,rfl,ho2,Zb6 hg2,?_⟩
 rcases hb2 with h | h
 ·exact .inl h
 ·exact .inr ⟨_,by simp,h⟩
theorem ZtR (T:Option TypeId) (v:Value) (l:List Int) (n:Nat) (r:Int) (B:Nat) (w:World) (ho:Has T B w v l (2+n)) (hB:B≤w.heap.size) (h0:128≤r) (h1:r≤2047) :
 Calls Tryz.prog 159 #[v,.int .i32 r] w (Put T B w v (l++[192+r/64,128+r%64]) n):=by
 have b1:=Zlp (r/64) (by omega) (by omega)
 have b3:r/64%256=r/64:=by omega
 go_enter Tryz.func159,Tryz.ntmps159
 go_wp2_with (first | (go_at_call 191;refine(ZbF _ _ (by omega) (by omega)).mono ?_;rintro e w1 ⟨rfl,rfl⟩) | (at_builtin;go_loud (refine Zcs _ rfl _ _ B T 29 rfl Tryz.underlying29 Zaq v _ n rfl _ [192+r/64,128+r%64] (Has.alloc ho _) rfl (Row.built _ _ _ [192+r/64,128+r%64] (by intro x hx;simp only [List.mem_cons,List.not_mem_nil,or_false] at hx;exact Zbp (by omega) (by omega)) (by simp)) (by simp) (by simp;omega) ?_)))
 intro v' w2 ho2 hg2 hb2
 go_wp2
 go_ret
 refine⟨_,rfl,ho2,Zb6 hg2,?_⟩
 rcases hb2 with h | h
 ·exact .inl h
 ·exact .inr ⟨_,by simp,h⟩
theorem Ztz (T:Option TypeId) (v:Value) (l:List Int) (n:Nat) (r:Int) (B:Nat) (w:World) (ho:Has T B w v l (3+n)) (hB:B≤w.heap.size) (h0:2048≤r) (h1:r≤65535) :
 Calls Tryz.prog 159 #[v,.int .i32 r] w (Put T B w v (l++[224+r/4096,128+r/64%64,128+r%64]) n):=by
 have b1:=Zkp (r/4096) (by omega) (by omega)
 have b3:r/4096%256=r/4096:=by omega
 go_enter Tryz.func159,Tryz.ntmps159
 go_wp2_with (first | (go_at_call 191;refine(ZbF _ _ (by omega) (by omega)).mono ?_;rintro e w1 ⟨rfl,rfl⟩) | (at_builtin;go_loud (refine Zcs _ rfl _ _ B T 29 rfl Tryz.underlying29 Zaq v _ n rfl _ [224+r/4096,128+r/64%64,128+r%64] (Has.alloc ho _) rfl (Row.built _ _ _ [224+r/4096,128+r/64%64,128+r%64] (by intro x hx;simp only [List.mem_cons,List.not_mem_nil,or_false] at hx;exact Zbp (by omega) (by omega)) (by simp)) (by simp) (by simp;omega) ?_)))
 intro v' w2 ho2 hg2 hb2
 go_wp2
 go_ret
 refine⟨_,rfl,ho2,Zb6 hg2,?_⟩
 rcases hb2 with h | h
 ·exact .inl h
 ·exact .inr ⟨_,by simp,h⟩
theorem ZtW (T:Option TypeId) (v:Value) (l:List Int) (n:Nat) (B:Nat) (w:World) (ho:Has T B w v l (2+n)) (hB:B≤w.heap.size) :
 Calls Tryz.prog 159 #[v,.int .i32 0] w (Put T B w v (l++[192,128]) n):=by
 have b1:=Zlp 0 (by omega) (by omega)
 go_enter Tryz.func159,Tryz.ntmps159
 go_wp2_with (first | (go_at_call 191;refine(ZbF _ _ (by omega) (by omega)).mono ?_;rintro e w1 ⟨rfl,rfl⟩) | (at_builtin;go_loud (refine Zcs _ rfl _ _ B T 29 rfl Tryz.underlying29 Zaq v _ n rfl _ [192,128] (Has.alloc ho _) rfl (Row.built _ _ _ [192,128] (by intro x hx;simp only [List.mem_cons,List.not_mem_nil,or_false] at hx;exact Zbp (by omega) (by omega)) (by simp)) (by simp) (by simp;omega) ?_)))
 intro v' w2 ho2 hg2 hb2
 go_wp2
 go_ret
 refine⟨_,rfl,ho2,Zb6 hg2,?_⟩
 rcases hb2 with h | h
 ·exact .inl h
 ·exact .inr ⟨_,by simp,h⟩
theorem Zt5 (T:Option TypeId) (v:Value) (l:List Int) (n:Nat) (r:Int) (B:Nat) (w:World) (ho:Has T B w v l (6+n)) (hB:B≤w.heap.size) (h0:65536≤r) (h1:r≤1114111) :
 Calls Tryz.prog 159 #[v,.int .i32 r] w (Put T B w v (l++ch r) n):=by
 have ho6:Has T B w v l (3+(3+n)):=by rw [show 3+(3+n)=6+n by omega];exact ho
 obtain⟨s,hs⟩:∃ s,s=56320+(r-65536)%1024:=⟨_,rfl⟩
 have hs0:56320≤s:=by omega
 have hs1:s≤57343:=by omega
 have b0:=Zkf (r-65536) (by omega) (by omega)
 have b4:56320+(r-65536)%1024=s:=hs.symm
 have b1:=Zkp (s/4096) (by omega) (by omega)
 have b3:s/4096%256=s/4096:=by omega
 have HS:=Lh hs
 clear hs
 go_enter Tryz.func159,Tryz.ntmps159
 go_wp2_with (go_at_call 159;refine(Ztz T v l (3+n) (55296+(r-65536)/1024) B _ (by exact ho6) hB (by omega) (by omega)).mono ?_;rintro e w1 ⟨v1,rfl,ho1,hg1,hb1⟩)
 have hB1:=Nat.le_trans hB hg1.size
 go_wp2_with (first | (go_at_call 191;refine(ZbF _ _ (by omega) (by omega)).mono ?_;rintro e w1 ⟨rfl,rfl⟩) | (at_builtin;go_loud (refine Zcs _ rfl _ _ B T 29 rfl Tryz.underlying29 Zaq v1 _ n rfl _ [224+s/4096,128+s/64%64,128+s%64] (Has.alloc ho1 _) rfl (Row.built _ _ _ [224+s/4096,128+s/64%64,128+s%64] (by intro x hx;simp only [List.mem_cons,List.not_mem_nil,or_false] at hx;exact Zbp (by omega) (by omega)) (by simp)) (by simp) (by simp;omega) ?_)))
 intro v' w2 ho2 hg2 hb2
 go_wp2
 go_ret
 refine⟨_,rfl,?_,Zit hg1 (Zb6 hg2) hb1,?_⟩
 ·have e:l++ch r=l++[224+(55296+(r-65536)/1024)/4096,128+(55296+(r-65536)/1024)/64%64,128+(55296+(r-65536)/1024)%64,224+s/4096,128+s/64%64,128+s%64]:=by
   rw [ch6 (by omega),← HS.out]
   simp [th]
  rw [e]
  exact ho2
 ·show v'.ownBlock=v.ownBlock∨∃ g,w.heap.size≤g∧v'.ownBlock=some g
  rcases hb2 with h | h
  ·rw [h];exact hb1
  ·exact .inr ⟨_,by have:=hg1.size;simp;omega,h⟩
theorem Zfn (T:Option TypeId) (v:Value) (l:List Int) (n:Nat) (r:Int) (B:Nat) (w:World) (ho:Has T B w v l ((ch r).length+n)) (hB:B≤w.heap.size) (h0:0≤r) (h1:r≤1114111) :
 Calls Tryz.prog 159 #[v,.int .i32 r] w (Put T B w v (l++ch r) n):=by
 by_cases a1:1≤r∧r≤127
 ·rw [ch1 a1] at ho ⊢;exact Zt7 T v l n r B w ho hB a1.1 a1.2
 ·by_cases a2:r≤2047
  ·rw [ch2 a1 a2] at ho ⊢
   by_cases a0:r=0
   ·subst a0;exact ZtW T v l n B w ho hB
   ·exact ZtR T v l n r B w ho hB (by omega) a2
  ·by_cases a3:r≤65535
   ·rw [ch3 (by omega) a3] at ho ⊢;exact Ztz T v l n r B w ho hB (by omega) a3
   ·exact Zt5 T v l n r B w (by rw [ch6 (by omega)] at ho;exact ho) hB (by omega) h1
def At0 (w:World) (g:Nat) (y:Cst):Prop :=
 w.cell? ⟨g,0,none⟩=some (.int .i64 y.k)∧w.cell? ⟨g,1,none⟩=some (.string y.t)∧w.cell? ⟨g,2,none⟩=some (.int .i64 y.n)∧w.cell? ⟨g,3,none⟩=some (.int .i64 y.a)∧w.cell? ⟨g,4,none⟩=some (.int .i64 y.b)∧w.cell? ⟨g,5,none⟩=some (.int .i64 y.c)
theorem At0.of {w:World} {g:Nat} {y:Cst} {T:TypeId} (h:w.heap[g]?=some (.cells y.vals T (0,0))):At0 w g y:=by
 refine⟨?_,?_,?_,?_,?_,?_⟩
 all_goals
  rw [cell_of_row w g _ _ T (0,0) h]
  rfl
theorem At0.ext {w w':World} {g:Nat} {y:Cst} (h:At0 w g y) (he:Ext w w') (hg:g<w.heap.size):At0 w' g y:=by
 obtain⟨h0,h1,h2,h3,h4,h5⟩:=h
 exact⟨(he.cell (p:=⟨g,0,none⟩) hg).trans h0,(he.cell (p:=⟨g,1,none⟩) hg).trans h1,(he.cell (p:=⟨g,2,none⟩) hg).trans h2,(he.cell (p:=⟨g,3,none⟩) hg).trans h3,(he.cell (p:=⟨g,4,none⟩) hg).trans h4,(he.cell (p:=⟨g,5,none⟩) hg).trans h5⟩
theorem At0.grown {w w':World} {g:Nat} {y:Cst} {r:Option Nat} (h:At0 w g y) (hg:w.grownBy w' r) (hlt:g<w.heap.size) (hne:r≠some g):At0 w' g y:=by
 have e:=hg.block g hlt (fun e=>hne e.symm)
 obtain⟨h0,h1,h2,h3,h4,h5⟩:=h
 exact⟨(World.cell?_of_block (w:=w) (a:=⟨g,0,none⟩) e).trans h0,(World.cell?_of_block (w:=w) (a:=⟨g,1,none⟩) e).trans h1,(World.cell?_of_block (w:=w) (a:=⟨g,2,none⟩) e).trans h2,(World.cell?_of_block (w:=w) (a:=⟨g,3,none⟩) e).trans h3,(World.cell?_of_block (w:=w) (a:=⟨g,4,none⟩) e).trans h4,(World.cell?_of_block (w:=w) (a:=⟨g,5,none⟩) e).trans h5⟩
def OwnC (B:Nat) (w:World) (T:TypeId) (v:Value) (l:List Cst):Prop:=w.ownsRow B T 6 v l.length (l.flatMap fun x=>x.vals.toList)∧∀ x∈l,x.ok
theorem ZeA (x:Cst):x.vals.toList.length=6:=rfl
theorem Zdx (l:List Cst):(l.flatMap fun x=>x.vals.toList).length=l.length*6:=by
 induction l with
 | nil=>rfl
 | cons x l ih=>rw [List.flatMap_cons,List.length_append,ih,ZeA,List.length_cons];omega
theorem Zgu:∀ (l:List Cst) (j i:Nat),j<l.length→i<6→(l.flatMap fun x=>x.vals.toList)[j*6+i]?=(gc l j).vals[i]?:=by
 intro l
 induction l with
 | nil=>intro j i h;simp at h
 | cons x l ih =>
  intro j i hj hi
  rw [List.flatMap_cons]
  match j with
  | 0 =>
   rw [List.getElem?_append_left (by rw [ZeA];omega)]
   simp [gc]
  | j+1 =>
   rw [List.getElem?_append_right (by rw [ZeA];omega),ZeA,show (j+1)*6+i-6=j*6+i by omega,ih j i (by simpa using hj) hi]
   simp [gc]
theorem OwnC.row {B:Nat} {w:World} {T:TypeId} {v:Value} {l:List Cst} (h:OwnC B w T v l):RowC w v l:=by
 obtain⟨⟨h1,h2⟩,hf⟩:=h
 rcases h2 with⟨rfl,h0⟩ | ⟨g,cap,cur,rfl,hb,hg,hn,hm,hs,ht⟩
 ·exact⟨none,0,by rw [h0],by omega,by simp [maxLen],fun _=>rfl,hf,fun hp=>by omega⟩
 ·refine⟨_,_,rfl,hn,hm,(fun h=>by cases h),hf,fun _=>⟨g,0,rfl,Zab hg,fun j hj=>?_⟩⟩
  have hx:∀ i,i<6→w.cell? ⟨g,j*6+i,none⟩=(gc l j).vals[i]?:=fun i hi=>by
   have e1:=Zgu l j i hj hi
   rw [← ht,List.getElem?_take_of_lt (by omega)] at e1
   rw [cell_of_row w g _ cur T (0,0) hg,← e1]
   simp
  rw [Nat.zero_add]
  exact⟨hx 0 (by omega),hx 1 (by omega),hx 2 (by omega),hx 3 (by omega),hx 4 (by omega),hx 5 (by omega)⟩
theorem OwnC.ext {B:Nat} {w w':World} {T:TypeId} {v:Value} {l:List Cst} (h:OwnC B w T v l) (he:Ext w w'):OwnC B w' T v l:=by
 obtain⟨⟨h1,h2⟩,hf⟩:=h
 refine⟨⟨h1,?_⟩,hf⟩
 rcases h2 with h2 | ⟨g,cap,cur,hv,hb,hg,hr⟩
 ·exact .inl h2
 ·exact .inr ⟨g,cap,cur,hv,hb,(he.block g (Zab hg)).trans hg,hr⟩
theorem OwnC.kept {B:Nat} {w w':World} {T:TypeId} {v:Value} {l:List Cst} (h:OwnC B w T v l) {row:Option Nat} (hg:w.grownBy w' row) (hne:∀ g,v.ownBlock=some g→row≠some g):OwnC B w' T v l:=by
 obtain⟨⟨h1,h2⟩,hf⟩:=h
 refine⟨⟨h1,?_⟩,hf⟩
 rcases h2 with h2 | ⟨g,cap,cur,hv,hb,hg',hr⟩
 ·exact .inl h2
 ·refine .inr ⟨g,cap,cur,hv,hb,(hg.block g (Zab hg') ?_).trans hg',hr⟩
  exact fun e=>hne g (by rw [hv];rfl) e.symm
end Go.Proofs.YtclamhhgldkhnaaGreatDoor
namespace Go.Proofs.YtclamhhgldkhnaaGreatDoor
set_option linter.unusedVariables false
structure TyD where
 k:Int
 s:List UInt8
deriving DecidableEq
def t0D:TyD:=⟨0,[]⟩
structure Pr where
 ret:TyD
 args:List TyD
deriving DecidableEq
def Zdr (c:UInt8):Bool:=(decide (97≤c.toNat)&&decide (c.toNat≤122)) || (decide (65≤c.toNat)&&decide (c.toNat≤90)) || decide (c.toNat=95) || decide (c.toNat=36)
def Zgw (c:UInt8):Bool:=decide (48≤c.toNat)&&decide (c.toNat≤57)
def ZbL:List UInt8→Bool
 | []=>false
 | c :: r=>Zdr c&&(r.all fun c=>Zdr c || Zgw c)&&decide (r.length<64)
def okT (t:TyD):Bool:=if t.k=1∨t.k=2∨t.k=4∨t.k=5 then decide (t.s=[]) else if t.k=3∨t.k=6 then ZbL t.s else false
def Zdp (t:TyD):Int:=if okT t=true then 0 else 2
def okP (p:Pr):Bool:=(decide (p.ret=t0D) || okT p.ret)&&p.args.all okT
def Zap (p:Pr):Int:=if 16<p.args.length then 5 else if okP p=true then 0 else 2
def Zal (t:TyD):List UInt8 :=
 if t.k=1 then [73] else if t.k=2 then [74] else if t.k=3 then 76 :: (t.s++[59]) else if t.k=4 then [91,73] else if t.k=5 then [91,74] else if t.k=6 then 91 :: 76 :: (t.s++[59]) else [86]
def ZaN (p:Pr):List UInt8:=40 :: (p.args.flatMap Zal++41 :: Zal p.ret)
def Zbx (t:TyD):List UInt8 × Int:=if okT t=true then (Zal t,0) else ([],2)
def Zcj (p:Pr):List UInt8 × Int:=if Zap p=0 then (ZaN p,0) else ([],Zap p)
def semi:List UInt8→Nat
 | []=>0
 | c :: r=>if c=59 then 0 else semi r+1
theorem ZjZ:∀ l:List UInt8,semi l≤l.length
 | []=>Nat.le_refl _
 | c :: r=>by
  rw [semi]
  have:=ZjZ r
  split
  ·omega
  ·simp;omega
def Zba:List UInt8→TyD × Nat
 | []=>(t0D,0)
 | c :: r=>if c=73 then (⟨1,[]⟩,1) else if c=74 then (⟨2,[]⟩,1)
  else if c=76 then (if semi r<r.length∧ZbL (r.take (semi r))=true then (⟨3,r.take (semi r)⟩,semi r+2) else (t0D,0)) else (t0D,0)
def Zbw:List UInt8→TyD × Nat
 | []=>(t0D,0)
 | c :: r=>if c=91 then (if (Zba r).2=0 then (t0D,0) else (⟨(Zba r).1.k+3,(Zba r).1.s⟩,(Zba r).2+1)) else Zba (c :: r)
def Zcb (l:List UInt8):TyD × Int:=if (Zbw l).2=0∨(Zbw l).2<l.length then (t0D,50) else ((Zbw l).1,0)
def prs:Nat→List UInt8→Option (List TyD × List UInt8)
 | _,[]=>none
 | 0,c :: r=>if c=41 then some ([],r) else none
 | f+1,c :: r=>if c=41 then some ([],r) else if (Zbw (c :: r)).2=0 then none else (prs f ((c :: r).drop (Zbw (c :: r)).2)).map fun x=>((Zbw (c :: r)).1 :: x.1,x.2)
def ZaP (l:List UInt8):Pr × Int :=
 match l with
 | []=>(⟨t0D,[]⟩,50)
 | c :: r=>if c=40 then
  (match prs 16 r with
  | none=>(⟨t0D,[]⟩,50)
  | some (ts,q)=>if q=[86] then (⟨t0D,ts⟩,0) else if (Zcb q).2=0 then (⟨(Zcb q).1,ts⟩,0) else (⟨t0D,[]⟩,50))
  else (⟨t0D,[]⟩,50)
theorem ZmX:∀ {l:List UInt8} (r:List UInt8),(∀ c∈l,c≠59)→semi (l++59 :: r)=l.length:=by
 intro l
 induction l with
 | nil=>intro r _;simp [semi]
 | cons c l ih =>
  intro r h
  rw [List.cons_append,semi,if_neg (h c (List.mem_cons_self ..)),ih r (fun d hd=>h d (List.mem_cons_of_mem _ hd))]
  rfl
theorem Zi7 {c:UInt8} (h:Zdr c=true∨Zgw c=true):c≠59:=by
 rintro rfl
 revert h
 decide
theorem ZrG {l:List UInt8} (h:ZbL l=true):∀ c∈l,c≠59:=by
 match l with
 | []=>exact fun c hc=>by cases hc
 | d :: r =>
  simp only [ZbL,Bool.and_eq_true,List.all_eq_true,Bool.or_eq_true] at h
  intro c hc
  rcases List.mem_cons.1 hc with rfl | hc
  ·exact Zi7 (.inl h.1.1)
  ·exact Zi7 (h.1.2 c hc)
theorem Zfv {l:List UInt8} (h:ZbL l=true):0<l.length∧l.length≤64:=by
 match l with
 | []=>cases h
 | d :: r =>
  simp only [ZbL,Bool.and_eq_true,decide_eq_true_eq] at h
  simp
  omega
theorem ZrB {n:List UInt8} (h:ZbL n=true) (r:List UInt8):Zba (76 :: (n++59 :: r))=(⟨3,n⟩,n.length+2):=by
 rw [Zba,if_neg (by decide),if_neg (by decide),if_pos rfl,ZmX r (ZrG h),List.take_left,if_pos ⟨by simp,h⟩]
theorem Zik {t:TyD} (h:okT t=true) (r:List UInt8):Zbw (Zal t++r)=(t,(Zal t).length):=by
 obtain⟨k,s⟩:=t
 unfold okT at h
 simp only at h
 by_cases h1:k=1∨k=2∨k=4∨k=5
 ·rw [if_pos h1] at h
  obtain rfl:s=[]:=of_decide_eq_true h
  rcases h1 with rfl | rfl | rfl | rfl
  ·rfl
  ·rfl
  ·rfl
  ·rfl
 ·rw [if_neg h1] at h
  by_cases h2:k=3∨k=6
  ·rw [if_pos h2] at h
   have e:=ZrB h r
   rcases h2 with rfl | rfl
   ·have et:Zal ⟨3,s⟩=76 :: (s++[59]):=rfl
    rw [et,List.cons_append,List.append_assoc,Zbw,if_neg (by decide)]
    simpa using e
   ·have et:Zal ⟨6,s⟩=91 :: 76 :: (s++[59]):=rfl
    rw [et,List.cons_append,List.cons_append,List.append_assoc,Zbw,if_pos rfl]
    simp only [List.cons_append,List.nil_append]
    rw [e,if_neg (by simp)]
    simp
  ·rw [if_neg h2] at h
   cases h
theorem Zss:∀ {l:List UInt8},semi l<l.length→l=l.take (semi l)++59 :: l.drop (semi l+1):=by
 intro l
 induction l with
 | nil=>intro h;simp at h
 | cons c r ih =>
  intro h
  rw [semi] at h ⊢
  by_cases hc:c=59
  ·rw [if_pos hc,hc]
   rfl
  ·rw [if_neg hc] at h ⊢
   have:=ih (by simpa using h)
   rw [List.take_succ_cons,List.drop_succ_cons,List.cons_append,← this]
theorem ZeW {l:List UInt8} (h:(Zba l).2≠0):okT (Zba l).1=true∧((Zba l).1.k=1∨(Zba l).1.k=2∨(Zba l).1.k=3)∧l=Zal (Zba l).1++l.drop (Zba l).2∧(Zba l).2=(Zal (Zba l).1).length:=by
 match l with
 | []=>exact absurd rfl h
 | c :: r =>
  rw [Zba] at h ⊢
  by_cases h1:c=73
  ·rw [if_pos h1,h1]
   exact⟨rfl,.inl rfl,rfl,rfl⟩
  ·rw [if_neg h1] at h ⊢
   by_cases h2:c=74
   ·rw [if_pos h2,h2]
    exact⟨rfl,.inr (.inl rfl),rfl,rfl⟩
   ·rw [if_neg h2] at h ⊢
    by_cases h3:c=76
    ·rw [if_pos h3] at h ⊢
     by_cases h4:semi r<r.length∧ZbL (r.take (semi r))=true
     ·rw [if_pos h4,h3]
      refine⟨?_,.inr (.inr rfl),?_,?_⟩
      ·unfold okT
       rw [if_neg (by simp),if_pos (.inl rfl)]
       exact h4.2
      ·have et:Zal ⟨3,r.take (semi r)⟩=76 :: (r.take (semi r)++[59]):=rfl
       rw [et,List.drop_succ_cons,List.cons_append,List.append_assoc]
       exact congrArg _ (Zss h4.1)
      ·have et:Zal ⟨3,r.take (semi r)⟩=76 :: (r.take (semi r)++[59]):=rfl
       rw [et]
       have:=ZjZ r
       simp only [List.length_cons,List.length_append,List.length_take,List.length_nil]
       omega
     ·rw [if_neg h4] at h
      exact absurd rfl h
    ·rw [if_neg h3] at h
     exact absurd rfl h
theorem Zjk {l:List UInt8} (h:(Zbw l).2≠0):okT (Zbw l).1=true∧l=Zal (Zbw l).1++l.drop (Zbw l).2∧(Zbw l).2=(Zal (Zbw l).1).length:=by
 match l with
 | []=>exact absurd rfl h
 | c :: r =>
  rw [Zbw] at h ⊢
  by_cases h1:c=91
  ·rw [if_pos h1] at h ⊢
   by_cases h2:(Zba r).2=0
   ·rw [if_pos h2] at h
    exact absurd rfl h
   ·rw [if_neg h2,h1]
    obtain⟨g1,g2,g3,g4⟩:=ZeW h2
    obtain⟨X,hX⟩:∃ X,Zba r=X:=⟨_,rfl⟩
    rw [hX] at g1 g2 g3 g4 ⊢
    clear h h2 hX
    obtain⟨⟨k,s⟩,n⟩:=X
    simp only at g1 g2 g3 g4 ⊢
    rcases g2 with rfl | rfl | rfl
    ·have e:s=[]:=of_decide_eq_true g1
     subst e
     exact⟨rfl,by rw [List.drop_succ_cons];exact congrArg _ g3,by rw [g4];rfl⟩
    ·have e:s=[]:=of_decide_eq_true g1
     subst e
     exact⟨rfl,by rw [List.drop_succ_cons];exact congrArg _ g3,by rw [g4];rfl⟩
    ·exact⟨g1,by rw [List.drop_succ_cons];exact congrArg _ g3,by rw [g4];rfl⟩
  ·rw [if_neg h1] at h ⊢
   obtain⟨g1,g2,g3,g4⟩:=ZeW h
   exact⟨g1,g3,g4⟩
theorem Zji {t:TyD} (h:okT t=true):∃ c r,Zal t=c :: r∧c≠41:=by
 obtain⟨k,s⟩:=t
 unfold okT at h
 simp only at h
 by_cases h1:k=1∨k=2∨k=4∨k=5
 ·rcases h1 with rfl | rfl | rfl | rfl
  ·exact⟨73,[],rfl,by decide⟩
  ·exact⟨74,[],rfl,by decide⟩
  ·exact⟨91,_,rfl,by decide⟩
  ·exact⟨91,_,rfl,by decide⟩
 ·rw [if_neg h1] at h
  by_cases h2:k=3∨k=6
  ·rcases h2 with rfl | rfl
   ·exact⟨76,_,rfl,by decide⟩
   ·exact⟨91,_,rfl,by decide⟩
  ·rw [if_neg h2] at h
   cases h
theorem ZqA:∀ {f:Nat} {ts:List TyD},(∀ t∈ts,okT t=true)→ts.length≤f→∀ q,prs f (ts.flatMap Zal++41 :: q)=some (ts,q):=by
 intro f ts
 induction ts generalizing f with
 | nil =>
  intro _ _ q
  cases f <;> simp [prs]
 | cons t ts ih =>
  intro h hl q
  have ht:=h t (List.mem_cons_self ..)
  obtain⟨c,r,hc,hne⟩:=Zji ht
  match f,hl with
  | f+1,hl =>
   have e:=Zik ht (ts.flatMap Zal++41 :: q)
   rw [List.flatMap_cons,List.append_assoc]
   have e2:(Zal t++(ts.flatMap Zal++41 :: q)).drop (Zal t).length=ts.flatMap Zal++41 :: q:=List.drop_left
   have e3:0<(Zal t).length:=by rw [hc];simp
   generalize hL:Zal t++(ts.flatMap Zal++41 :: q)=L at e e2 ⊢
   have hL2:L=c :: (r++(ts.flatMap Zal++41 :: q)):=by rw [← hL,hc];rfl
   rw [hL2] at e e2 ⊢
   rw [prs,if_neg hne,e,if_neg (by simp only;omega)]
   simp only
   rw [e2,ih (fun u hu=>h u (List.mem_cons_of_mem _ hu)) (by simpa using hl) q]
   rfl
theorem ZpS:∀ {f:Nat} {l:List UInt8} {ts:List TyD} {q:List UInt8},prs f l=some (ts,q)→l=ts.flatMap Zal++41 :: q∧(∀ t∈ts,okT t=true)∧ts.length≤f:=by
 intro f
 induction f with
 | zero =>
  intro l ts q h
  match l with
  | []=>simp [prs] at h
  | c :: r =>
   rw [prs] at h
   split at h
   ·rename_i hc
    injection h with h
    injection h with h1 h2
    subst h1 h2
    exact⟨by rw [hc];rfl,(fun t ht=>by cases ht),Nat.le_refl _⟩
   ·cases h
 | succ f ih =>
  intro l ts q h
  match l with
  | []=>simp [prs] at h
  | c :: r =>
   rw [prs] at h
   split at h
   ·rename_i hc
    injection h with h
    injection h with h1 h2
    subst h1 h2
    exact⟨by rw [hc];rfl,(fun t ht=>by cases ht),Nat.zero_le _⟩
   ·split at h
    ·cases h
    ·rename_i hn
     obtain⟨g1,g2,g3⟩:=Zjk hn
     rw [Option.map_eq_some_iff] at h
     obtain⟨⟨us,q'⟩,hx,he⟩:=h
     injection he with h1 h2
     simp only at h1 h2
     subst h1 h2
     obtain⟨i1,i2,i3⟩:=ih hx
     refine⟨?_,?_,by simpa using i3⟩
     ·rw [List.flatMap_cons,List.append_assoc,← i1]
      exact g2
     ·intro t ht
      rcases List.mem_cons.1 ht with rfl | ht
      ·exact g1
      ·exact i2 t ht
theorem ZiI {t:TyD} (h:okT t=true):Zcb (Zal t)=(t,0):=by
 have e:=Zik h []
 rw [List.append_nil] at e
 obtain⟨c,r,hc,_⟩:=Zji h
 unfold Zcb
 rw [e,if_neg]
 rintro (h1 | h1)
 ·simp only at h1
  rw [hc] at h1
  simp at h1
 ·simp at h1
theorem Zif {l:List UInt8} (h:(Zcb l).2=0):okT (Zcb l).1=true∧Zal (Zcb l).1=l:=by
 unfold Zcb at h ⊢
 by_cases hc:(Zbw l).2=0∨(Zbw l).2<l.length
 ·rw [if_pos hc] at h
  cases h
 ·rw [if_neg hc]
  obtain⟨g1,g2,g3⟩:=Zjk (fun e=>hc (.inl e))
  refine⟨g1,?_⟩
  rw [List.drop_eq_nil_iff.2 (by omega),List.append_nil] at g2
  exact g2.symm
theorem Zoq (l:List UInt8):(Zcb l).2=0∨Zcb l=(t0D,50):=by
 unfold Zcb
 split
 ·exact .inr rfl
 ·exact .inl rfl
theorem Zof {t:TyD} (h:okT t=true):Zal t≠[86]:=by
 obtain⟨k,s⟩:=t
 unfold okT at h
 simp only at h
 by_cases h1:k=1∨k=2∨k=4∨k=5
 ·rcases h1 with rfl | rfl | rfl | rfl <;> simp [Zal]
 ·rw [if_neg h1] at h
  by_cases h2:k=3∨k=6
  ·rcases h2 with rfl | rfl <;> simp [Zal]
  ·rw [if_neg h2] at h
   cases h
theorem Zmg {p:Pr} (h:Zap p=0):ZaP (ZaN p)=(p,0):=by
 obtain⟨ret,args⟩:=p
 unfold Zap at h
 simp only at h
 by_cases h16:16<args.length
 ·rw [if_pos h16] at h
  cases h
 ·rw [if_neg h16] at h
  by_cases ho:okP ⟨ret,args⟩=true
  ·unfold okP at ho
   simp only [Bool.and_eq_true,Bool.or_eq_true,List.all_eq_true,decide_eq_true_eq] at ho
   obtain⟨h1,h2⟩:=ho
   unfold ZaN ZaP
   simp only
   rw [if_pos trivial,ZqA h2 (by omega)]
   simp only
   rcases h1 with rfl | h1
   ·rfl
   ·rw [if_neg (Zof h1),ZiI h1]
    rfl
  ·rw [if_neg ho] at h
   cases h
theorem ZlY {l:List UInt8} (h:(ZaP l).2=0):Zap (ZaP l).1=0∧ZaN (ZaP l).1=l:=by
 unfold ZaP at h ⊢
 match l with
 | []=>simp at h
 | c :: r =>
  simp only at h ⊢
  by_cases hc:c=40
  ·rw [if_pos hc] at h ⊢
   cases hp:prs 16 r with
   | none =>
    rw [hp] at h
    simp at h
   | some x =>
    obtain⟨ts,q⟩:=x
    rw [hp] at h
    simp only at h ⊢
    obtain⟨g1,g2,g3⟩:=ZpS hp
    have hall:ts.all okT=true:=List.all_eq_true.2 g2
    by_cases hq:q=[86]
    ·rw [if_pos hq]
     refine⟨?_,?_⟩
     ·unfold Zap okP
      rw [if_neg (by simp only;omega)]
      simp [hall]
     ·unfold ZaN
      rw [hc,g1,hq]
      rfl
    ·rw [if_neg hq] at h ⊢
     by_cases ht:(Zcb q).2=0
     ·rw [if_pos ht]
      obtain⟨i1,i2⟩:=Zif ht
      refine⟨?_,?_⟩
      ·unfold Zap okP
       rw [if_neg (by simp only;omega)]
       simp [hall,i1]
      ·unfold ZaN
       simp only
       rw [hc,g1,i2]
     ·rw [if_neg ht] at h
      cases h
  ·rw [if_neg hc] at h
   cases h
theorem ZlC (l:List UInt8):(ZaP l).2=0∨ZaP l=(⟨t0D,[]⟩,50):=by
 unfold ZaP
 match l with
 | []=>exact .inr rfl
 | c :: r =>
  simp only
  split
  ·split
   ·exact .inr rfl
   ·split
    ·exact .inl rfl
    ·split
     ·exact .inl rfl
     ·exact .inr rfl
  ·exact .inr rfl
end Go.Proofs.YtclamhhgldkhnaaGreatDoor
