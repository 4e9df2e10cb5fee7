/- Several texts of this proof, one behind the other. -/
import Derived.Test.YtclamhhgldkhnaaGreatDoorZwH
import Derived.LoopN
import Derived.Test.YtclamhhgldkhnaaGreatDoorZwG
import Derived.Deep.WholeRow
namespace Go.Proofs.YtclamhhgldkhnaaGreatDoor
open Go.RowKit
set_option linter.unusedVariables false
set_option maxHeartbeats 16000000
theorem Zef:(Tryz.prog.info? 3).map (fun i=>(i.zero,i.size,i.bytes))=some (some (.int .i64 0),1,8):=by kernel_rfl
theorem Zc7 {x:Int} (h0:-9223372036854775808≤x) (h1:x≤9223372036854775807):(Lit.int .i64 x).wf=true:=by
 simp [Lit.wf,IntKind.min,IntKind.max,IntKind.signed,IntKind.bits]
 omega
theorem ZaM {P:Program} {ops:Array Oper} {o:Oper} {a:Act} {w:World} {K:Act→World→Prop} {Q:Exit→Act→World→Prop} {E:Prop} (hgd:o.guard=none) (s y:Operand) (B:Nat) (t e:TypeId) (z:Value) (bytes:Nat) (k:IntKind)
 (hop:o.op=.call { callee:=.builtin .append,args:=#[s,y],argTypes:=#[t,t] }) (ht:P.underlying t=some (.slice e))
 (hi:(P.info? e).map (fun i=>(i.zero,i.size,i.bytes))=some (some z,1,bytes)) (hz:z.cells.size=1) (hb1:1≤bytes)
 (v:Value) (l:List Int) (hs:a.eval s=v) (ho:Own B w e k v l) (x:Value) (m:List Int) (hx:a.eval y=x) (hr:Row w k x m)
 (hb:(l.length+m.length)*bytes≤140737488355328) (hB:B≤w.heap.size)
 (h:∀ v' w',Own B w' e k v' (l++m)→w.grownBy w' v.ownBlock→(v'.ownBlock=v.ownBlock∨v'.ownBlock=some w.heap.size)→K (a.put o.dst v') w') :
 if Region.wanted o (yielded ops a.tmps)=true then Oper.wp P o a w K Q else E:=by
 have hw:Region.wanted o (yielded ops a.tmps)=true:=by simp [Region.wanted,hgd]
 rw [if_pos hw]
 obtain⟨v',w',hrun,h2,h3,h4⟩:=run_app (P:=P) w B t o.type e z bytes k ht hi hz v l ho x m hr hb hb1 hB
 unfold Oper.wp execOp
 simp only [hop,resolve,invoke,builtin,Sem.run_bind,Sem.run_pure,Result.andThen_ok,List.map_toArray,List.map_cons,List.map_nil,hs,hx,hrun]
 exact h v' w' h2 h3 h4
theorem ZaA {P:Program} {ops:Array Oper} {o:Oper} {a:Act} {w:World} {K:Act→World→Prop} {Q:Exit→Act→World→Prop} {E:Prop} (hgd:o.guard=none) (f:FuncId) (xs:Array Operand) (ats:Array TypeId)
 (hop:o.op=.call { callee:=.value (.func f),args:=xs,argTypes:=ats }) (args:Array Value) (hargs:#[]++xs.map a.eval++#[]=args) (hrun:(callFunc f args).run P w=.ok (.enter f args) w)
 (h:Calls P f args w fun e w'=>∃ v,e=.returned v∧K (a.put o.dst v) w'):if Region.wanted o (yielded ops a.tmps)=true then Oper.wp P o a w K Q else E:=by
 have hw:Region.wanted o (yielded ops a.tmps)=true:=by simp [Region.wanted,hgd]
 rw [if_pos hw]
 obtain⟨dst,op,ty,pos,after,guard⟩:=o
 subst hop
 unfold Oper.wp
 rw [execOp_call_go,hargs,hrun,Oper.upon_enter]
 refine h.mono ?_
 rintro e w' ⟨v,rfl,hv⟩
 exact hv
def XP (w:World) (h:Nat) (x:In) (v1 v2:Value):Prop:=w.heap[h]?=some (.cells (x.vals v1 v2) 178 (0,0))
section
variable {w w' : World} {h : Nat} {x : In} {v1 v2 : Value}
theorem XP.cell (H:XP w h x v1 v2) (j:Nat):w.cell? ⟨h,j,none⟩=(x.vals v1 v2)[j]?:=by rw [cell_of_row w h j _ _ (0,0) H]
theorem XP.cells (H:XP w h x v1 v2):w.cell? ⟨h,0,none⟩=some (.int .i64 x.a)∧w.cell? ⟨h,1,none⟩=some (.int .i64 x.o)∧w.cell? ⟨h,2,none⟩=some (.int .i64 x.n)∧w.cell? ⟨h,3,none⟩=some (.int .i64 x.m)∧w.cell? ⟨h,4,none⟩=some v1∧w.cell? ⟨h,5,none⟩=some v2 :=
 ⟨H.cell 0,H.cell 1,H.cell 2,H.cell 3,H.cell 4,H.cell 5⟩
theorem XP.free (H:XP w h x v1 v2) (j:Nat):w.frozen? ⟨h,j,none⟩=false:=by simp [World.frozen?,show w.heap[h]?=_ from H]
theorem XP.lt (H:XP w h x v1 v2):h<w.heap.size:=Zab H
theorem XP.set2 (H:XP w h x v1 v2) (n:Int):XP (w.setCell ⟨h,2,none⟩ (.int .i64 n)) h { x with n:=n } v1 v2:=by
 have h1:=heap_setCell_same w h 2 _ 178 (.int .i64 n) H
 unfold XP
 rw [h1]
 rfl
theorem XP.set3 (H:XP w h x v1 v2) (n:Int):XP (w.setCell ⟨h,3,none⟩ (.int .i64 n)) h { x with m:=n } v1 v2:=by
 have h1:=heap_setCell_same w h 3 _ 178 (.int .i64 n) H
 unfold XP
 rw [h1]
 rfl
theorem XP.set4 (H:XP w h x v1 v2) (l:List Int) (u:Value):XP (w.setCell ⟨h,4,none⟩ u) h { x with to:=l } u v2:=by
 have h1:=heap_setCell_same w h 4 _ 178 u H
 unfold XP
 rw [h1]
 rfl
theorem XP.set5 (H:XP w h x v1 v2) (l:List Int) (u:Value):XP (w.setCell ⟨h,5,none⟩ u) h { x with ks:=l } v1 u:=by
 have h1:=heap_setCell_same w h 5 _ 178 u H
 unfold XP
 rw [h1]
 rfl
end
theorem Zau {B:Nat} {w:World} {e:TypeId} {k:IntKind} {v:Value} {l:List Int} (H:Own B w e k v l) {g:Nat} {c:Array Value} {T:TypeId} {z:Nat × Nat} (hg:w.heap[g]?=some (.cells c T z)) (hT:T≠e):v.ownBlock≠some g:=by
 obtain⟨⟨h1,h2⟩,hf⟩:=H
 rcases h2 with⟨rfl,_⟩ | ⟨b,cap,cur,rfl,hb,hh,_⟩
 ·intro e;cases e
 ·intro e
  injection e with e
  subst e
  rw [hh] at hg
  injection hg with hg
  injection hg with h1 h2 h3
  exact hT h2.symm
theorem Zcx {w:World} {g h:Nat} {c d:Array Value} {T U:TypeId} {y z:Nat × Nat} (hg:w.heap[g]?=some (.cells c T y)) (hh:w.heap[h]?=some (.cells d U z)) (hT:T≠U):g≠h:=by
 rintro rfl
 rw [hg] at hh
 injection hh with hh
 injection hh with h1 h2 h3
 exact hT h2
structure ST (w0 w:World) (h r g c0:Nat) (x:In) (v1 v2 v:Value) (q:List Int × Bool):Prop where
 xb:XP w h x v1 v2
 o1:Own w0.heap.size w 3 .i64 v1 x.to
 o2:Own w0.heap.size w 3 .i64 v2 x.ks
 ne:∀ b,v1.ownBlock=some b→v2.ownBlock≠some b
 rb:w.heap[r]?=some (.cells #[.pointer (some ⟨g,0,none⟩)] 280 (0,0))
 pr:PR w g v x.a q.2
 row:Row w0 .u8 v q.1
 ext:Ext w0 w
 hg:w0.heap.size≤g
 hh:w0.heap.size≤h
 hr:w0.heap.size≤r
 rc:XP w c0 i0 (.slice none 0 0) (.slice none 0 0)
 hc:c0≠h
 hcc:w0.heap.size≤c0
section
variable {w0 w w' : World} {h r g c0 : Nat} {x : In} {v1 v2 v : Value} {q : List Int × Bool}
theorem ST.hg_ne (H:ST w0 w h r g c0 x v1 v2 v q):h≠g:=Zcx H.xb H.pr (by decide)
theorem ST.rg_ne (H:ST w0 w h r g c0 x v1 v2 v q):r≠g:=Zcx H.rb H.pr (by decide)
theorem ST.hr_ne (H:ST w0 w h r g c0 x v1 v2 v q):h≠r:=Zcx H.xb H.rb (by decide)
theorem ST.cg_ne (H:ST w0 w h r g c0 x v1 v2 v q):c0≠g:=Zcx H.rc H.pr (by decide)
theorem ST.le (H:ST w0 w h r g c0 x v1 v2 v q):w0.heap.size≤w.heap.size:=H.ext.size
theorem ST.later (H:ST w0 w h r g c0 x v1 v2 v q) (e:Ext w w'):ST w0 w' h r g c0 x v1 v2 v q :=
 ⟨(e.block h (Zab H.xb)).trans H.xb,H.o1.ext e,H.o2.ext e,H.ne,(e.block r (Zab H.rb)).trans H.rb,H.pr.ext e,H.row,H.ext.trans e,H.hg,H.hh,H.hr,(e.block c0 (Zab H.rc)).trans H.rc,H.hc,H.hcc⟩
theorem ST.drew (H:ST w0 w h r g c0 x v1 v2 v q):ST w0 w.drew h r g c0 x v1 v2 v q:=H.later (Ext.refl w).drew
theorem ST.alloc (H:ST w0 w h r g c0 x v1 v2 v q) (o:Obj):ST w0 (w.alloc o) h r g c0 x v1 v2 v q:=H.later ((Ext.refl w).alloc o)
theorem ST.rbcell (H:ST w0 w h r g c0 x v1 v2 v q):w.cell? ⟨r,0,none⟩=some (.pointer (some ⟨g,0,none⟩)):=by
 rw [cell_of_row w r 0 _ _ (0,0) H.rb]
 rfl
theorem ST.read (H:ST w0 w h r g c0 x v1 v2 v q) {rr:Int × List Int × Bool} {e:Ending} (hp:PRet w0 w g x.a rr e w'):e=.returned (.int .i64 rr.1)∧∃ v',ST w0 w' h r g c0 x v1 v2 v' rr.2:=by
 obtain⟨rfl,⟨v',hp,hr⟩,hgr⟩:=hp
 refine⟨rfl,v',?_⟩
 have hs:Ext w0 w':=H.ext.grown hgr (fun g' hg'=>by injection hg' with e;subst e;exact H.hg)
 refine⟨(hgr.block h (Zab H.xb) (fun e=>H.hg_ne (by injection e))).trans H.xb,H.o1.kept hgr ?_,H.o2.kept hgr ?_,H.ne,(hgr.block r (Zab H.rb) (fun e=>H.rg_ne (by injection e))).trans H.rb,hp,hr,hs,H.hg,H.hh,H.hr,(hgr.block c0 (Zab H.rc) (fun e=>H.cg_ne (by injection e))).trans H.rc,H.hc,H.hcc⟩
 ·intro b hb e
  injection e with e
  subst e
  exact Zau H.o1 H.pr (by decide) hb
 ·intro b hb e
  injection e with e
  subst e
  exact Zau H.o2 H.pr (by decide) hb
theorem ST.app1' (H:ST w0 w h r g c0 x v1 v2 v q) {u:Value} {l:List Int} (ho:Own w0.heap.size w' 3 .i64 u l) (hgr:w.grownBy w' v1.ownBlock) (hb:∀ b,u.ownBlock=some b→v2.ownBlock≠some b) :
 ST w0 (w'.setCell ⟨h,4,none⟩ u) h r g c0 { x with to:=l } u v2 v q∧w'.cell? ⟨h,4,none⟩=some v1∧w'.cell? ⟨r,0,none⟩=some (.pointer (some ⟨g,0,none⟩))∧w'.frozen? ⟨h,4,none⟩=false:=by
 have n1:v1.ownBlock≠some h:=Zau H.o1 H.xb (by decide)
 have n2:v1.ownBlock≠some g:=Zau H.o1 H.pr (by decide)
 have n3:v1.ownBlock≠some r:=Zau H.o1 H.rb (by decide)
 have n4:v1.ownBlock≠some c0:=Zau H.o1 H.rc (by decide)
 have rc':=(hgr.block c0 (Zab H.rc) (fun e=>n4 e.symm)).trans H.rc
 have xb':XP w' h x v1 v2:=(hgr.block h (Zab H.xb) (fun e=>n1 e.symm)).trans H.xb
 have rb':=(hgr.block r (Zab H.rb) (fun e=>n3 e.symm)).trans H.rb
 have pr':PR w' g v x.a q.2:=(hgr.block g (Zab H.pr) (fun e=>n2 e.symm)).trans H.pr
 have o2':Own w0.heap.size w' 3 .i64 v2 x.ks:=H.o2.kept hgr (fun b hb e=>H.ne b e hb)
 have e':Ext w0 w':=H.ext.grown hgr H.o1.low
 have hset:∀ i,i≠h→(w'.setCell ⟨h,4,none⟩ u).heap[i]?=w'.heap[i]?:=fun i hi=>Below.heap_setCell w' ⟨h,4,none⟩ u i hi
 have hgrow:w'.grownBy (w'.setCell ⟨h,4,none⟩ u) (some h):=Zaa (World.grownBy.refl w' _) 4 u
 refine⟨⟨xb'.set4 l u,ho.kept hgrow ?_,o2'.kept hgrow ?_,?_,(hset r (fun e=>H.hr_ne e.symm)).trans rb',(hset g (fun e=>H.hg_ne e.symm)).trans pr',H.row,e'.set_ H.hh u,H.hg,H.hh,H.hr,(hset c0 H.hc).trans rc',H.hc,H.hcc⟩,xb'.cells.2.2.2.2.1,?_,xb'.free 4⟩
 ·intro b hb e
  injection e with e
  subst e
  exact Zau ho xb' (by decide) hb
 ·intro b hb e
  injection e with e
  subst e
  exact Zau o2' xb' (by decide) hb
 ·exact hb
 ·rw [cell_of_row w' r 0 _ _ (0,0) rb']
  rfl
theorem ST.app1 (H:ST w0 w h r g c0 x v1 v2 v q) {u:Value} {l:List Int} (ho:Own w0.heap.size w' 3 .i64 u l) (hgr:w.grownBy w' v1.ownBlock) (hb:u.ownBlock=v1.ownBlock∨u.ownBlock=some w.heap.size) :
 ST w0 (w'.setCell ⟨h,4,none⟩ u) h r g c0 { x with to:=l } u v2 v q∧w'.cell? ⟨h,4,none⟩=some v1∧w'.cell? ⟨r,0,none⟩=some (.pointer (some ⟨g,0,none⟩))∧w'.frozen? ⟨h,4,none⟩=false :=
 H.app1' ho hgr fun b hu hv=>by
  rcases hb with hb | hb
  ·exact H.ne b (hb ▸ hu) hv
  ·rw [hb] at hu
   injection hu with hu
   subst hu
   have:=H.o2.high _ hv
   omega
theorem ST.app2 (H:ST w0 w h r g c0 x v1 v2 v q) {u:Value} {l:List Int} (ho:Own w0.heap.size w' 3 .i64 u l) (hgr:w.grownBy w' v2.ownBlock) (hb:u.ownBlock=v2.ownBlock∨u.ownBlock=some w.heap.size) :
 ST w0 (w'.setCell ⟨h,5,none⟩ u) h r g c0 { x with ks:=l } v1 u v q∧w'.cell? ⟨h,5,none⟩=some v2∧w'.cell? ⟨r,0,none⟩=some (.pointer (some ⟨g,0,none⟩))∧w'.frozen? ⟨h,5,none⟩=false:=by
 have n1:v2.ownBlock≠some h:=Zau H.o2 H.xb (by decide)
 have n2:v2.ownBlock≠some g:=Zau H.o2 H.pr (by decide)
 have n3:v2.ownBlock≠some r:=Zau H.o2 H.rb (by decide)
 have n4:v2.ownBlock≠some c0:=Zau H.o2 H.rc (by decide)
 have rc':=(hgr.block c0 (Zab H.rc) (fun e=>n4 e.symm)).trans H.rc
 have xb':XP w' h x v1 v2:=(hgr.block h (Zab H.xb) (fun e=>n1 e.symm)).trans H.xb
 have rb':=(hgr.block r (Zab H.rb) (fun e=>n3 e.symm)).trans H.rb
 have pr':PR w' g v x.a q.2:=(hgr.block g (Zab H.pr) (fun e=>n2 e.symm)).trans H.pr
 have o1':Own w0.heap.size w' 3 .i64 v1 x.to:=H.o1.kept hgr (fun b hb e=>H.ne b hb e)
 have e':Ext w0 w':=H.ext.grown hgr H.o2.low
 have hset:∀ i,i≠h→(w'.setCell ⟨h,5,none⟩ u).heap[i]?=w'.heap[i]?:=fun i hi=>Below.heap_setCell w' ⟨h,5,none⟩ u i hi
 have hgrow:w'.grownBy (w'.setCell ⟨h,5,none⟩ u) (some h):=Zaa (World.grownBy.refl w' _) 5 u
 refine⟨⟨xb'.set5 l u,o1'.kept hgrow ?_,ho.kept hgrow ?_,?_,(hset r (fun e=>H.hr_ne e.symm)).trans rb',(hset g (fun e=>H.hg_ne e.symm)).trans pr',H.row,e'.set_ H.hh u,H.hg,H.hh,H.hr,(hset c0 H.hc).trans rc',H.hc,H.hcc⟩,xb'.cells.2.2.2.2.2,?_,xb'.free 5⟩
 ·intro b hb e
  injection e with e
  subst e
  exact Zau o1' xb' (by decide) hb
 ·intro b hb e
  injection e with e
  subst e
  exact Zau ho xb' (by decide) hb
 ·intro b hu hv
  rcases hb with hb | hb
  ·exact H.ne b hu (hb ▸ hv)
  ·rw [hb] at hv
   injection hv with hv
   subst hv
   have:=H.o1.high _ hu
   omega
 ·rw [cell_of_row w' r 0 _ _ (0,0) rb']
  rfl
theorem ST.field (H:ST w0 w h r g c0 x v1 v2 v q) {y:In} {j:Nat} {u:Value} (hx:XP (w.setCell ⟨h,j,none⟩ u) h y v1 v2) (ha:y.a=x.a) (ht:y.to=x.to) (hk:y.ks=x.ks):ST w0 (w.setCell ⟨h,j,none⟩ u) h r g c0 y v1 v2 v q:=by
 have hset:∀ i,i≠h→(w.setCell ⟨h,j,none⟩ u).heap[i]?=w.heap[i]?:=fun i hi=>Below.heap_setCell w ⟨h,j,none⟩ u i hi
 have hgrow:w.grownBy (w.setCell ⟨h,j,none⟩ u) (some h):=Zaa (World.grownBy.refl w _) j u
 have k1:=H.o1.kept hgrow (fun b hb e=>by
  injection e with e
  subst e
  exact Zau H.o1 H.xb (by decide) hb)
 have k2:=H.o2.kept hgrow (fun b hb e=>by
  injection e with e
  subst e
  exact Zau H.o2 H.xb (by decide) hb)
 rw [← ht] at k1
 rw [← hk] at k2
 have k3:PR (w.setCell ⟨h,j,none⟩ u) g v x.a q.2:=(hset g (fun e=>H.hg_ne e.symm)).trans H.pr
 rw [← ha] at k3
 exact⟨hx,k1,k2,H.ne,(hset r (fun e=>H.hr_ne e.symm)).trans H.rb,k3,H.row,H.ext.set_ H.hh u,H.hg,H.hh,H.hr,(hset c0 H.hc).trans H.rc,H.hc,H.hcc⟩
end
theorem Own.one_ {B:Nat} (w:World) {e:TypeId} (k:IntKind) (t:Int) (ht:(Lit.int k t).wf=true) (hB:B≤w.heap.size):Own B (w.alloc (.cells #[.int k t] e)) e k (.slice (some ⟨w.heap.size,0,none⟩) 1 1) [t]:=by
 refine⟨⟨by simp,.inr ⟨w.heap.size,1,#[.int k t],rfl,hB,heap_alloc_new w _,Nat.le_refl _,by simp [maxLen],by simp,by simp⟩⟩,fun y hy=>?_⟩
 rw [List.mem_singleton.1 hy]
 exact ht
def InsAns (w0:World) (g:Nat) (r:In × List Int × Bool) (e:Ending) (w':World):Prop :=
 ∃ v1 v2 v,e=.returned (.agg (r.1.vals v1 v2))∧Own w0.heap.size w' 3 .i64 v1 r.1.to∧Own w0.heap.size w' 3 .i64 v2 r.1.ks∧PR w' g v r.1.a r.2.2∧Row w0 .u8 v r.2.1∧Ext w0 w'
theorem ST.out {w0 W:World} {h r g c0:Nat} {x:In} {v1 v2 v:Value} {q:List Int × Bool} (H:ST w0 W h r g c0 x v1 v2 v q) {w':World} (hgr:W.grownBy w' (some c0)):InsAns w0 g (x,q) (.returned (.agg (x.vals v1 v2))) w':=by
 refine⟨v1,v2,v,rfl,H.o1.kept hgr ?_,H.o2.kept hgr ?_,?_,H.row,H.ext.grown hgr (fun k hk=>by injection hk with hk;subst hk;exact H.hcc)⟩
 ·intro b hb e
  injection e with e
  subst e
  exact Zau H.o1 H.rc (by decide) hb
 ·intro b hb e
  injection e with e
  subst e
  exact Zau H.o2 H.rc (by decide) hb
 ·exact(hgr.block g (Zab H.pr) (fun e=>H.cg_ne (by injection e with e;exact e.symm))).trans H.pr
theorem Za0 {W:World} (c:Nat) (a0 a1 a2 a3 a4 a5:Value):W.grownBy ((((((W.setCell ⟨c,0,none⟩ a0).setCell ⟨c,1,none⟩ a1).setCell ⟨c,2,none⟩ a2).setCell ⟨c,3,none⟩ a3).setCell ⟨c,4,none⟩ a4).setCell ⟨c,5,none⟩ a5) (some c) :=
 Zaa (Zaa (Zaa (Zaa (Zaa (Zaa (World.grownBy.refl W _) 0 a0) 1 a1) 2 a2) 3 a3) 4 a4) 5 a5
def Left (w0:World) (h r g c0:Nat) (x:In) (q:List Int × Bool) (e:Ending) (w':World):Prop:=e=.returned (.tuple #[])∧∃ v1 v2 v,ST w0 w' h r g c0 x v1 v2 v q
set_option maxRecDepth 100000 in
theorem Zqs (w0 w:World) (h r g c0:Nat) (x:In) (v1 v2 v:Value) (q:List Int × Bool) (H:ST w0 w h r g c0 x v1 v2 v q) (ha:0≤x.a∧x.a<8192) (hl:x.to.length≤100000) :
 Calls Tryz.prog 267 #[.pointer (some ⟨h,0,none⟩),.pointer (some ⟨r,0,none⟩)] w
  (Left w0 h r g c0 { x with to:=x.to++[x.a+(rdN true 2 true q).1] } (rdN true 2 true q).2):=by
 have hb:=ZaS (st:=true) (en:=q.2) (s:=2) (sg:=true) (by unfold Siz;simp) (Za9 H.row)
 have hw:=fun W (e:Ext w W)=>Zdj w0 W g q.1 v x.a q.2 (H.pr.ext e) H.row (H.ext.trans e) H.hg ha
 obtain⟨z4,z5⟩:=H.xb.cells.2.2.2.2
 have y0:=H.rbcell
 obtain⟨q1,q2⟩:=q
 simp only at hw hb
 obtain⟨rr,hrr⟩:∃ rr,rdN true 2 true (q1,q2)=rr:=⟨_,rfl⟩
 rw [hrr] at hb ⊢
 simp only [hrr] at hw
 obtain⟨t,q'⟩:=rr
 simp only at hb hw ⊢
 have HW:=Lh hw
 have H0:=Lh H
 have hwf:=Zc7 (x:=x.a+t) (by omega) (by omega)
 clear hw hrr H
 go_enter Tryz.func267,Tryz.ntmps267
 go_wp2
 go_region_law (first
  | ((refine ZaA rfl 265 _ _ rfl #[.pointer (some ⟨g,0,none⟩)] (by simp [go_sem]) (by simp [go_sem]) ?_);((with_reducible refine(HW.out _ (Ext.refl w).drew).mono ?_);rintro e w1 hp1);obtain⟨rfl,u1,hs1⟩:=H0.out.drew.read hp1;refine⟨_,rfl,?_⟩;obtain⟨z41,z51⟩:=hs1.xb.cells.2.2.2.2;have y1:=hs1.rbcell;have z41a:=fun o=>(hs1.alloc o).xb.cells.2.2.2.2.1)
  | ((refine ZaM rfl _ _ w0.heap.size 161 3 _ 8 .i64 rfl Tryz.underlying161 Zef rfl (by omega) v1 x.to rfl (hs1.alloc _).o1 _ [x.a+t] rfl (Row.built1 _ _ _ _ hwf) (by simp only [List.length_singleton];omega) (by have:=hs1.le;simp;omega) ?_);intro v5 w5 ho5 hgr5 hb5;obtain⟨hs5,z45,y5,f45⟩:=(hs1.alloc _).app1 ho5 hgr5 hb5;obtain⟨A5,k5,rfl,-⟩:=ho5.row))
 all_goals
  go_end0
  rw [List.length_append] at hs5
  exact⟨rfl,_,_,_,hs5⟩
set_option maxRecDepth 100000 in
theorem Zpo (w0 w:World) (h r g c0:Nat) (x:In) (v1 v2 v:Value) (q:List Int × Bool) (H:ST w0 w h r g c0 x v1 v2 v q) (ha:0≤x.a∧x.a<8192) (hl:x.to.length≤100000) (hk:x.ks.length≤100000) :
 Calls Tryz.prog 268 #[.pointer (some ⟨h,0,none⟩),.pointer (some ⟨r,0,none⟩)] w
  (Left w0 h r g c0 { x with ks:=x.ks++[(rdN true 4 true q).1],to:=x.to++[x.a+(rdN true 2 true (rdN true 4 true q).2).1] } (rdN true 2 true (rdN true 4 true q).2).2):=by
 have hb:=ZaS (st:=true) (en:=q.2) (s:=4) (sg:=true) (by unfold Siz;simp) (Za9 H.row)
 have hw:∀ W,Ext w W→Calls Tryz.prog 264 #[.pointer (some ⟨g,0,none⟩),.int .i64 4] W (PRet w0 W g x.a (rdN true 4 true (q.1,q.2))):=fun W e=>ZbS w0 W g q.1 v x.a q.2 4 (H.pr.ext e) H.row (H.ext.trans e) H.hg (by unfold Siz;simp)
 obtain⟨z4,z5⟩:=H.xb.cells.2.2.2.2
 have y0:=H.rbcell
 obtain⟨q1,q2⟩:=q
 simp only at hw hb
 obtain⟨rr,hrr⟩:∃ rr,rdN true 4 true (q1,q2)=rr:=⟨_,rfl⟩
 rw [hrr] at hb ⊢
 simp only [hrr] at hw
 obtain⟨k,q'⟩:=rr
 simp only at hb hw ⊢
 have HW:=Lh hw
 have H0:=Lh H
 have hwf:=Zc7 (x:=k) (by omega) (by omega)
 clear hw hrr H
 obtain⟨rr,hrr⟩:∃ rr,rdN true 2 true q'=rr:=⟨_,rfl⟩
 rw [hrr]
 have HR:=Lh hrr
 clear hrr
 go_enter Tryz.func268,Tryz.ntmps268
 go_wp2
 go_region_law (first
  | ((refine ZaA rfl 264 _ _ rfl #[.pointer (some ⟨g,0,none⟩),.int .i64 4] (by simp [go_sem]) (by simp [go_sem]) ?_);((with_reducible refine(HW.out _ (Ext.refl w).drew).mono ?_);rintro e w1 hp1);obtain⟨rfl,u1,hs1⟩:=H0.out.drew.read hp1;refine⟨_,rfl,?_⟩;obtain⟨z41,z51⟩:=hs1.xb.cells.2.2.2.2;have y1:=hs1.rbcell;have z51a:=fun o=>(hs1.alloc o).xb.cells.2.2.2.2.2)
  | ((refine ZaM rfl _ _ w0.heap.size 161 3 _ 8 .i64 rfl Tryz.underlying161 Zef rfl (by omega) v2 x.ks rfl (hs1.alloc _).o2 _ [k] rfl (Row.built1 _ _ _ _ hwf) (by simp only [List.length_singleton];omega) (by have:=hs1.le;simp;omega) ?_);intro v5 w5 ho5 hgr5 hb5;obtain⟨hs5,z45,y5,f45⟩:=(hs1.alloc _).app2 ho5 hgr5 hb5;obtain⟨A5,k5,rfl,-⟩:=ho5.row))
 all_goals
  rw [List.length_append] at hs5
  simp only at hs5
  clear hp1 hb5 ho5 hgr5 z41 z51 y1 z51a z45 y5 f45 z4 z5 y0
  obtain⟨W,hW⟩:∃ W,W=w5.setCell ⟨h,5,none⟩ (.slice A5 (x.ks.length+1) k5):=⟨_,rfl⟩
  have hs5':ST w0 W h r g c0 { x with ks:=x.ks++[k] } v1 (.slice A5 (x.ks.length+1) k5) u1 q':=by rw [hW];exact hs5
  rw [← hW]
  have hb2:=ZaS (st:=true) (en:=q'.2) (s:=2) (sg:=true) (by unfold Siz;simp) (Za9 hs5'.row)
  have hw2:=fun W' (e:Ext W W')=>Zdj w0 W' g q'.1 u1 x.a q'.2 (hs5'.pr.ext e) hs5'.row (hs5'.ext.trans e) hs5'.hg ha
  rw [show (q'.1,q'.2)=q' from rfl,HR.out] at hb2
  simp only [show (q'.1,q'.2)=q' from rfl,HR.out] at hw2
  obtain⟨t,q''⟩:=rr
  simp only at hb2 hw2 ⊢
  have HW2:=Lh hw2
  have H2:=Lh hs5'
  have hwf2:=Zc7 (x:=x.a+t) (by omega) (by omega)
  obtain⟨z4,z5⟩:=hs5'.xb.cells.2.2.2.2
  have y0:=hs5'.rbcell
  clear hw2 hs5 hs5' hs1 hW
  go_wp2
  go_region_law (first
   | ((refine ZaA rfl 265 _ _ rfl #[.pointer (some ⟨g,0,none⟩)] (by simp [go_sem]) (by simp [go_sem]) ?_);((with_reducible refine(HW2.out _ (Ext.refl W).drew).mono ?_);rintro e w6 hp6);obtain⟨rfl,u6,hs6⟩:=H2.out.drew.read hp6;refine⟨_,rfl,?_⟩;obtain⟨z46,z56⟩:=hs6.xb.cells.2.2.2.2;have y6:=hs6.rbcell;have z46a:=fun o=>(hs6.alloc o).xb.cells.2.2.2.2.1)
   | ((refine ZaM rfl _ _ w0.heap.size 161 3 _ 8 .i64 rfl Tryz.underlying161 Zef rfl (by omega) v1 x.to rfl (hs6.alloc _).o1 _ [x.a+t] rfl (Row.built1 _ _ _ _ hwf2) (by simp only [List.length_singleton];omega) (by have:=hs6.le;simp;omega) ?_);intro v7 w7 ho7 hgr7 hb7;obtain⟨hs7,z47,y7,f47⟩:=(hs6.alloc _).app1 ho7 hgr7 hb7;obtain⟨A7,k7,rfl,-⟩:=ho7.row))
  all_goals
   go_end0
   rw [List.length_append] at hs7
   exact⟨rfl,_,_,_,hs7⟩
theorem ZqF {l:List Int} {en:Bool} (hb:∀ c∈l,B8 c):0≤(rdN true 2 false (l,en)).1∧(rdN true 2 false (l,en)).1≤65535:=by
 unfold rdN
 split
 ·simp
 ·match l with
  | []=>simp [pk]
  | [_]=>simp [pk]
  | p :: q :: l=>have:=Zn7 (hb p (by simp)) (hb q (by simp));simp [pk];omega
theorem ZoM {a:Int} {n:Nat} {q:List Int × Bool} (h:q.2=false):rdT true a (n+1) q=((a+(rdN true 2 true q).1) :: (rdT true a n (rdN true 2 true q).2).1,(rdT true a n (rdN true 2 true q).2).2):=by
 rw [rdT,if_neg (by simp [h])]
theorem Zqt {a:Int} {n:Nat} {q:List Int × Bool} (h:q.2=false):rdK true a (n+1) q=((rdN true 4 true q).1 :: (rdK true a n (rdN true 2 true (rdN true 4 true q).2).2).1,(a+(rdN true 2 true (rdN true 4 true q).2).1) :: (rdK true a n (rdN true 2 true (rdN true 4 true q).2).2).2.1,(rdK true a n (rdN true 2 true (rdN true 4 true q).2).2).2.2):=by
 rw [rdK,if_neg (by simp [h])]
def ComeT (a:Int) (Y:List Int × List Int × Bool) (k:Nat) (l:List Int) (q:List Int × Bool):Prop:=Y=(l++(rdT true a k q).1,(rdT true a k q).2)
def ComeK (a:Int) (Y:List Int × List Int × List Int × Bool) (k:Nat) (l m:List Int) (q:List Int × Bool):Prop:=Y=(l++(rdK true a k q).1,m++(rdK true a k q).2.1,(rdK true a k q).2.2)
theorem ComeT.next {a:Int} {Y:List Int × List Int × Bool} {k:Nat} {l:List Int} {q:List Int × Bool} (h:ComeT a Y (k+1) l q) (he:q.2=false):ComeT a Y k (l++[a+(rdN true 2 true q).1]) (rdN true 2 true q).2:=by
 unfold ComeT at *
 rw [ZoM he] at h
 simpa using h
theorem ComeK.next {a:Int} {Y:List Int × List Int × List Int × Bool} {k:Nat} {l m:List Int} {q:List Int × Bool} (h:ComeK a Y (k+1) l m q) (he:q.2=false) :
 ComeK a Y k (l++[(rdN true 4 true q).1]) (m++[a+(rdN true 2 true (rdN true 4 true q).2).1]) (rdN true 2 true (rdN true 4 true q).2).2:=by
 unfold ComeK at *
 rw [Zqt he] at h
 simpa using h
theorem ComeT.end_ {a:Int} {Y:List Int × List Int × Bool} {k:Nat} {l:List Int} {q:List Int × Bool} (h:ComeT a Y k l q) (he:k=0∨q.2=true):Y=(l,q):=by
 unfold ComeT at h
 rcases he with rfl | he
 ·simpa [rdT] using h
 ·rw [Za4 he] at h;simpa using h
theorem ComeK.end_ {a:Int} {Y:List Int × List Int × List Int × Bool} {k:Nat} {l m:List Int} {q:List Int × Bool} (h:ComeK a Y k l m q) (he:k=0∨q.2=true):Y=(l,m,q):=by
 unfold ComeK at h
 rcases he with rfl | he
 ·simpa [rdK] using h
 ·rw [ZbI he] at h;simpa using h
set_option maxRecDepth 100000 in
theorem ZjX (w0 w:World) (h r g c0:Nat) (x:In) (v1 v2 v:Value) (q:List Int × Bool) (H:ST w0 w h r g c0 x v1 v2 v q) (ha:0≤x.a∧x.a<8192) (hl:x.to.length≤20000) (Y:List Int × List Int × Bool) (hY:rdT true x.a (rdN true 2 false q).1.toNat (rdN true 2 false q).2=Y) :
 Calls Tryz.prog 266 #[.pointer (some ⟨g,0,none⟩),.func (.func 267) #[] #[.pointer (some ⟨h,0,none⟩),.pointer (some ⟨r,0,none⟩)]] w
  (Left w0 h r g c0 { x with to:=x.to++Y.1 } Y.2):=by
 have hb:=ZqF (en:=q.2) (Za9 H.row)
 have hw:Calls Tryz.prog 263 #[.pointer (some ⟨g,0,none⟩),.int .i64 2] w (PRet w0 w g x.a (rdN true 2 false (q.1,q.2))):=Zdb w0 w g q.1 v x.a q.2 2 H.pr H.row H.ext H.hg (by unfold Siz;simp)
 rw [show (q.1,q.2)=q from rfl] at hb hw
 obtain⟨rr,hrr⟩:∃ rr,rdN true 2 false q=rr:=⟨_,rfl⟩
 rw [hrr] at hb hw hY
 obtain⟨c,q'⟩:=rr
 simp only at hb hw hY
 obtain⟨n,rfl⟩:∃ n:Nat,c=(n:Int):=⟨c.toNat,by omega⟩
 rw [Int.toNat_natCast] at hY
 have HC:Hid (ComeT x.a Y n [] q'):=Lh (by unfold ComeT;rw [← hY];simp)
 have HW:=Lh hw
 have H0:=Lh H
 clear hw hrr H hY
 go_enter Tryz.func266,Tryz.ntmps266
 go_wp2_with (go_at_call 263;refine HW.out.mono ?_;rintro e w1 hp1;obtain⟨rfl,u1,hs1⟩:=H0.out.read hp1)
 go_loopw [4] (fun i wr=>∃ (k:Nat) (l:List Int) (v1 v2 v:Value) (p:List Int × Bool),i=.int .i64 k∧(x.to.length+l.length+k≤90000)∧Hid (ST w0 wr h r g c0 { x with to:=x.to++l } v1 v2 v p)∧Hid (ComeT x.a Y k l p)) (fun i _=>(intOf i).toNat)
 case atStart=>exact⟨n,[],v1,v2,u1,q',rfl,by simp;omega,Lh (by simpa using hs1),HC⟩
 case round =>
  obtain⟨k,l,v1,v2,v,p,rfl,hlen,HS,HCk⟩:=hrel
  by_cases hk0:k=0
  ·subst hk0
   have HE:=Lh (HCk.out.end_ (.inl rfl))
   go_wp2
   go_end0
   rw [HE.out]
   exact⟨rfl,v1,v2,v,HS.out⟩
  ·obtain⟨j,rfl⟩:∃ j,k=j+1:=⟨k-1,by omega⟩
   obtain⟨d0,d1,d2,f0,f1,f2⟩:=HS.out.pr.cells
   obtain⟨p1,p2⟩:=p
   cases p2
   ·have HN:=Lh (HCk.out.next rfl)
    go_wp2_with (go_at_call 267;refine(Zqs w0 _ h r g c0 _ v1 v2 v (p1,false) HS.out ha (by simp;omega)).mono ?_;rintro e w2 ⟨rfl,u1,u2,u,hs2⟩)
    go_roundw
    case rel=>exact⟨j,_,_,_,_,_,by go_num,by simp;omega,Lh (by simpa using hs2),HN⟩
    case measure=>simp [intOf]
   ·have HE:=Lh (HCk.out.end_ (.inr rfl))
    go_wp2
    go_end0
    rw [HE.out]
    exact⟨rfl,v1,v2,v,HS.out⟩
set_option maxRecDepth 100000 in
theorem Zke (w0 w:World) (h r g c0:Nat) (x:In) (v1 v2 v:Value) (q:List Int × Bool) (H:ST w0 w h r g c0 x v1 v2 v q) (ha:0≤x.a∧x.a<8192) (hl:x.to.length≤20000) (hk:x.ks.length≤20000) (Y:List Int × List Int × List Int × Bool) (hY:rdK true x.a (rdN true 2 false q).1.toNat (rdN true 2 false q).2=Y) :
 Calls Tryz.prog 266 #[.pointer (some ⟨g,0,none⟩),.func (.func 268) #[] #[.pointer (some ⟨h,0,none⟩),.pointer (some ⟨r,0,none⟩)]] w
  (Left w0 h r g c0 { x with ks:=x.ks++Y.1,to:=x.to++Y.2.1 } Y.2.2):=by
 have hb:=ZqF (en:=q.2) (Za9 H.row)
 have hw:Calls Tryz.prog 263 #[.pointer (some ⟨g,0,none⟩),.int .i64 2] w (PRet w0 w g x.a (rdN true 2 false (q.1,q.2))):=Zdb w0 w g q.1 v x.a q.2 2 H.pr H.row H.ext H.hg (by unfold Siz;simp)
 rw [show (q.1,q.2)=q from rfl] at hb hw
 obtain⟨rr,hrr⟩:∃ rr,rdN true 2 false q=rr:=⟨_,rfl⟩
 rw [hrr] at hb hw hY
 obtain⟨c,q'⟩:=rr
 simp only at hb hw hY
 obtain⟨n,rfl⟩:∃ n:Nat,c=(n:Int):=⟨c.toNat,by omega⟩
 rw [Int.toNat_natCast] at hY
 have HC:Hid (ComeK x.a Y n [] [] q'):=Lh (by unfold ComeK;rw [← hY];simp)
 have HW:=Lh hw
 have H0:=Lh H
 clear hw hrr H hY
 go_enter Tryz.func266,Tryz.ntmps266
 go_wp2_with (go_at_call 263;refine HW.out.mono ?_;rintro e w1 hp1;obtain⟨rfl,u1,hs1⟩:=H0.out.read hp1)
 go_loopw [4] (fun i wr=>∃ (k:Nat) (l m:List Int) (v1 v2 v:Value) (p:List Int × Bool),i=.int .i64 k∧(x.to.length+m.length+k≤90000∧x.ks.length+l.length+k≤90000)∧Hid (ST w0 wr h r g c0 { x with ks:=x.ks++l,to:=x.to++m } v1 v2 v p)∧Hid (ComeK x.a Y k l m p)) (fun i _=>(intOf i).toNat)
 case atStart=>exact⟨n,[],[],v1,v2,u1,q',rfl,by simp;omega,Lh (by simpa using hs1),HC⟩
 case round =>
  obtain⟨k,l,m,v1,v2,v,p,rfl,hlen,HS,HCk⟩:=hrel
  by_cases hk0:k=0
  ·subst hk0
   have HE:=Lh (HCk.out.end_ (.inl rfl))
   go_wp2
   go_end0
   rw [HE.out]
   exact⟨rfl,v1,v2,v,HS.out⟩
  ·obtain⟨j,rfl⟩:∃ j,k=j+1:=⟨k-1,by omega⟩
   obtain⟨d0,d1,d2,f0,f1,f2⟩:=HS.out.pr.cells
   obtain⟨p1,p2⟩:=p
   cases p2
   ·have HN:=Lh (HCk.out.next rfl)
    go_wp2_with (go_at_call 268;refine(Zpo w0 _ h r g c0 _ v1 v2 v (p1,false) HS.out ha (by simp;omega) (by simp;omega)).mono ?_;rintro e w2 ⟨rfl,u1,u2,u,hs2⟩)
    go_roundw
    case rel=>exact⟨j,_,_,_,_,_,_,by go_num,by simp;omega,Lh (by simpa using hs2),HN⟩
    case measure=>simp [intOf]
   ·have HE:=Lh (HCk.out.end_ (.inr rfl))
    go_wp2
    go_end0
    rw [HE.out]
    exact⟨rfl,v1,v2,v,HS.out⟩
theorem Zc6 {P:Program} {ops:Array Oper} {rest:List Oper} {o:Oper} {a:Act} {w:World} {Q:Exit→Act→World→Prop} (hg:o.guard=none) (t:TypeId) (hop:o.op=.alloc t) (z:Array Value) (n:Nat)
 (hi:(P.info? t).map (fun i=>(i.zero,i.size))=some (some (.agg z),n)) (hn:z.size=n)
 (h:wpList P ops Q rest (a.put o.dst (.pointer (some ⟨w.heap.size,0,none⟩))) (w.alloc (.cells z t))):wpList P ops Q (o :: rest) a w:=by
 refine wpList_plain hg fun K hK=>?_
 have hz:=(zero_of_info (P:=P) hi).1
 have e1:(Instr.alloc t true (.tuple #[])).run P w=.ok (.pointer (some ⟨w.heap.size,0,none⟩)) (w.alloc (.cells z t)):=by
  simp [Instr.alloc,hz,go_sem,Value.cells]
 unfold Oper.wp execOp
 simp only [hop,Sem.run_bind,e1,Result.andThen_ok,Sem.run_pure]
 exact hK _ _ h
theorem Zin {P:Program} {ops:Array Oper} {rest:List Oper} {o:Oper} {a:Act} {w:World} {Q:Exit→Act→World→Prop} (hg:o.guard=none) (f:FuncId)
 (hop:o.op=.call { callee:=.value (.func f),args:=#[],argTypes:=#[] }) (hrun:(callFunc f #[]).run P w=.ok (.enter f #[]) w)
 (h:Calls P f #[] w fun e w'=>∃ v,e=.returned v∧wpList P ops Q rest (a.put o.dst v) w'):wpList P ops Q (o :: rest) a w:=by
 refine wpList_plain hg fun K hK=>?_
 obtain⟨dst,op,ty,pos,after,guard⟩:=o
 subst hop
 unfold Oper.wp
 rw [execOp_call_go]
 have e0:(#[]++Array.map a.eval #[]++#[]:Array Value)=#[]:=by simp
 rw [e0,hrun,Oper.upon_enter]
 refine h.mono ?_
 rintro e w' ⟨v,rfl,hv⟩
 exact hK _ _ hv
theorem Ext.setRow_ {a w:World} (h:Ext a w) {g:Nat} (hg:a.heap.size≤g) (cs:Array Value):Ext a (w.setRow g cs) :=
 Below.trans h ⟨rfl,rfl,rfl,by simp [World.setRow],fun k hk=>setRow_other w g k cs (by omega)⟩
def nmL:List ByteArray:=[⟨#[110,111,112]⟩,
 ⟨#[105,99,111,110,115,116]⟩,
 ⟨#[108,99,111,110,115,116]⟩,
 ⟨#[108,100,99]⟩,
 ⟨#[110,117,108,108]⟩,
 ⟨#[105,108,111,97,100]⟩,
 ⟨#[108,108,111,97,100]⟩,
 ⟨#[97,108,111,97,100]⟩,
 ⟨#[105,115,116,111,114,101]⟩,
 ⟨#[108,115,116,111,114,101]⟩,
 ⟨#[97,115,116,111,114,101]⟩,
 ⟨#[105,105,110,99]⟩,
 ⟨#[112,111,112]⟩,
 ⟨#[112,111,112,50]⟩,
 ⟨#[100,117,112]⟩,
 ⟨#[100,117,112,120,49]⟩,
 ⟨#[100,117,112,50]⟩,
 ⟨#[115,119,97,112]⟩,
 ⟨#[105,97,100,100]⟩,
 ⟨#[105,115,117,98]⟩,
 ⟨#[105,109,117,108]⟩,
 ⟨#[105,100,105,118]⟩,
 ⟨#[105,114,101,109]⟩,
 ⟨#[105,97,110,100]⟩,
 ⟨#[105,111,114]⟩,
 ⟨#[105,120,111,114]⟩,
 ⟨#[105,115,104,108]⟩,
 ⟨#[105,115,104,114]⟩,
 ⟨#[105,117,115,104,114]⟩,
 ⟨#[105,110,101,103]⟩,
 ⟨#[108,97,100,100]⟩,
 ⟨#[108,115,117,98]⟩,
 ⟨#[108,109,117,108]⟩,
 ⟨#[108,100,105,118]⟩,
 ⟨#[108,114,101,109]⟩,
 ⟨#[108,97,110,100]⟩,
 ⟨#[108,111,114]⟩,
 ⟨#[108,120,111,114]⟩,
 ⟨#[108,110,101,103]⟩,
 ⟨#[108,99,109,112]⟩,
 ⟨#[105,50,108]⟩,
 ⟨#[108,50,105]⟩,
 ⟨#[105,102,101,113]⟩,
 ⟨#[105,102,110,101]⟩,
 ⟨#[105,102,108,116]⟩,
 ⟨#[105,102,103,101]⟩,
 ⟨#[105,102,103,116]⟩,
 ⟨#[105,102,108,101]⟩,
 ⟨#[105,99,109,112,101,113]⟩,
 ⟨#[105,99,109,112,110,101]⟩,
 ⟨#[105,99,109,112,108,116]⟩,
 ⟨#[105,99,109,112,103,101]⟩,
 ⟨#[105,99,109,112,103,116]⟩,
 ⟨#[105,99,109,112,108,101]⟩,
 ⟨#[97,99,109,112,101,113]⟩,
 ⟨#[97,99,109,112,110,101]⟩,
 ⟨#[105,102,110,117,108,108]⟩,
 ⟨#[105,102,110,111,110,110,117,108,108]⟩,
 ⟨#[103,111,116,111]⟩,
 ⟨#[116,115,119,105,116,99,104]⟩,
 ⟨#[108,115,119,105,116,99,104]⟩,
 ⟨#[103,101,116,115,116,97,116,105,99]⟩,
 ⟨#[112,117,116,115,116,97,116,105,99]⟩,
 ⟨#[103,101,116,102,105,101,108,100]⟩,
 ⟨#[112,117,116,102,105,101,108,100]⟩,
 ⟨#[110,101,119]⟩,
 ⟨#[110,101,119,105,110,116,115]⟩,
 ⟨#[110,101,119,108,111,110,103,115]⟩,
 ⟨#[110,101,119,114,101,102,115]⟩,
 ⟨#[108,101,110,103,116,104]⟩,
 ⟨#[105,97,103,101,116]⟩,
 ⟨#[108,97,103,101,116]⟩,
 ⟨#[97,97,103,101,116]⟩,
 ⟨#[105,97,112,117,116]⟩,
 ⟨#[108,97,112,117,116]⟩,
 ⟨#[97,97,112,117,116]⟩,
 ⟨#[99,97,115,116]⟩,
 ⟨#[105,115]⟩,
 ⟨#[116,104,114,111,119]⟩,
 ⟨#[99,97,108,108,115,116,97,116,105,99]⟩,
 ⟨#[99,97,108,108,118,105,114,116,117,97,108]⟩,
 ⟨#[99,97,108,108,105,110,116,101,114,102,97,99,101]⟩,
 ⟨#[99,97,108,108,115,112,101,99,105,97,108]⟩,
 ⟨#[105,114,101,116,117,114,110]⟩,
 ⟨#[108,114,101,116,117,114,110]⟩,
 ⟨#[97,114,101,116,117,114,110]⟩,
 ⟨#[114,101,116,117,114,110]⟩,
 ⟨#[105,111,117,116]⟩,
 ⟨#[108,111,117,116]⟩,
 ⟨#[105,105,110]⟩]
def LINES:Array Value:=#[.string ⟨#[110,111,112]⟩,.int .i64 0,.bool false,
 .string ⟨#[105,99,111,110,115,116]⟩,.int .i64 2,.bool false,
 .string ⟨#[108,99,111,110,115,116]⟩,.int .i64 2,.bool false,
 .string ⟨#[108,100,99]⟩,.int .i64 3,.bool false,
 .string ⟨#[110,117,108,108]⟩,.int .i64 0,.bool false,
 .string ⟨#[105,108,111,97,100]⟩,.int .i64 1,.bool false,
 .string ⟨#[108,108,111,97,100]⟩,.int .i64 1,.bool false,
 .string ⟨#[97,108,111,97,100]⟩,.int .i64 1,.bool false,
 .string ⟨#[105,115,116,111,114,101]⟩,.int .i64 1,.bool false,
 .string ⟨#[108,115,116,111,114,101]⟩,.int .i64 1,.bool false,
 .string ⟨#[97,115,116,111,114,101]⟩,.int .i64 1,.bool false,
 .string ⟨#[105,105,110,99]⟩,.int .i64 5,.bool false,
 .string ⟨#[112,111,112]⟩,.int .i64 0,.bool false,
 .string ⟨#[112,111,112,50]⟩,.int .i64 0,.bool false,
 .string ⟨#[100,117,112]⟩,.int .i64 0,.bool false,
 .string ⟨#[100,117,112,120,49]⟩,.int .i64 0,.bool false,
 .string ⟨#[100,117,112,50]⟩,.int .i64 0,.bool false,
 .string ⟨#[115,119,97,112]⟩,.int .i64 0,.bool false,
 .string ⟨#[105,97,100,100]⟩,.int .i64 0,.bool false,
 .string ⟨#[105,115,117,98]⟩,.int .i64 0,.bool false,
 .string ⟨#[105,109,117,108]⟩,.int .i64 0,.bool false,
 .string ⟨#[105,100,105,118]⟩,.int .i64 0,.bool false,
 .string ⟨#[105,114,101,109]⟩,.int .i64 0,.bool false,
 .string ⟨#[105,97,110,100]⟩,.int .i64 0,.bool false,
 .string ⟨#[105,111,114]⟩,.int .i64 0,.bool false,
 .string ⟨#[105,120,111,114]⟩,.int .i64 0,.bool false,
 .string ⟨#[105,115,104,108]⟩,.int .i64 0,.bool false,
 .string ⟨#[105,115,104,114]⟩,.int .i64 0,.bool false,
 .string ⟨#[105,117,115,104,114]⟩,.int .i64 0,.bool false,
 .string ⟨#[105,110,101,103]⟩,.int .i64 0,.bool false,
 .string ⟨#[108,97,100,100]⟩,.int .i64 0,.bool false,
 .string ⟨#[108,115,117,98]⟩,.int .i64 0,.bool false,
 .string ⟨#[108,109,117,108]⟩,.int .i64 0,.bool false,
 .string ⟨#[108,100,105,118]⟩,.int .i64 0,.bool false,
 .string ⟨#[108,114,101,109]⟩,.int .i64 0,.bool false,
 .string ⟨#[108,97,110,100]⟩,.int .i64 0,.bool false,
 .string ⟨#[108,111,114]⟩,.int .i64 0,.bool false,
 .string ⟨#[108,120,111,114]⟩,.int .i64 0,.bool false,
 .string ⟨#[108,110,101,103]⟩,.int .i64 0,.bool false,
 .string ⟨#[108,99,109,112]⟩,.int .i64 0,.bool false,
 .string ⟨#[105,50,108]⟩,.int .i64 0,.bool false,
 .string ⟨#[108,50,105]⟩,.int .i64 0,.bool false,
 .string ⟨#[105,102,101,113]⟩,.int .i64 4,.bool false,
 .string ⟨#[105,102,110,101]⟩,.int .i64 4,.bool false,
 .string ⟨#[105,102,108,116]⟩,.int .i64 4,.bool false,
 .string ⟨#[105,102,103,101]⟩,.int .i64 4,.bool false,
 .string ⟨#[105,102,103,116]⟩,.int .i64 4,.bool false,
 .string ⟨#[105,102,108,101]⟩,.int .i64 4,.bool false,
 .string ⟨#[105,99,109,112,101,113]⟩,.int .i64 4,.bool false,
 .string ⟨#[105,99,109,112,110,101]⟩,.int .i64 4,.bool false,
 .string ⟨#[105,99,109,112,108,116]⟩,.int .i64 4,.bool false,
 .string ⟨#[105,99,109,112,103,101]⟩,.int .i64 4,.bool false,
 .string ⟨#[105,99,109,112,103,116]⟩,.int .i64 4,.bool false,
 .string ⟨#[105,99,109,112,108,101]⟩,.int .i64 4,.bool false,
 .string ⟨#[97,99,109,112,101,113]⟩,.int .i64 4,.bool false,
 .string ⟨#[97,99,109,112,110,101]⟩,.int .i64 4,.bool false,
 .string ⟨#[105,102,110,117,108,108]⟩,.int .i64 4,.bool false,
 .string ⟨#[105,102,110,111,110,110,117,108,108]⟩,.int .i64 4,.bool false,
 .string ⟨#[103,111,116,111]⟩,.int .i64 4,.bool true,
 .string ⟨#[116,115,119,105,116,99,104]⟩,.int .i64 6,.bool true,
 .string ⟨#[108,115,119,105,116,99,104]⟩,.int .i64 7,.bool true,
 .string ⟨#[103,101,116,115,116,97,116,105,99]⟩,.int .i64 3,.bool false,
 .string ⟨#[112,117,116,115,116,97,116,105,99]⟩,.int .i64 3,.bool false,
 .string ⟨#[103,101,116,102,105,101,108,100]⟩,.int .i64 3,.bool false,
 .string ⟨#[112,117,116,102,105,101,108,100]⟩,.int .i64 3,.bool false,
 .string ⟨#[110,101,119]⟩,.int .i64 3,.bool false,
 .string ⟨#[110,101,119,105,110,116,115]⟩,.int .i64 0,.bool false,
 .string ⟨#[110,101,119,108,111,110,103,115]⟩,.int .i64 0,.bool false,
 .string ⟨#[110,101,119,114,101,102,115]⟩,.int .i64 3,.bool false,
 .string ⟨#[108,101,110,103,116,104]⟩,.int .i64 0,.bool false,
 .string ⟨#[105,97,103,101,116]⟩,.int .i64 0,.bool false,
 .string ⟨#[108,97,103,101,116]⟩,.int .i64 0,.bool false,
 .string ⟨#[97,97,103,101,116]⟩,.int .i64 0,.bool false,
 .string ⟨#[105,97,112,117,116]⟩,.int .i64 0,.bool false,
 .string ⟨#[108,97,112,117,116]⟩,.int .i64 0,.bool false,
 .string ⟨#[97,97,112,117,116]⟩,.int .i64 0,.bool false,
 .string ⟨#[99,97,115,116]⟩,.int .i64 3,.bool false,
 .string ⟨#[105,115]⟩,.int .i64 3,.bool false,
 .string ⟨#[116,104,114,111,119]⟩,.int .i64 0,.bool true,
 .string ⟨#[99,97,108,108,115,116,97,116,105,99]⟩,.int .i64 3,.bool false,
 .string ⟨#[99,97,108,108,118,105,114,116,117,97,108]⟩,.int .i64 3,.bool false,
 .string ⟨#[99,97,108,108,105,110,116,101,114,102,97,99,101]⟩,.int .i64 3,.bool false,
 .string ⟨#[99,97,108,108,115,112,101,99,105,97,108]⟩,.int .i64 3,.bool false,
 .string ⟨#[105,114,101,116,117,114,110]⟩,.int .i64 0,.bool true,
 .string ⟨#[108,114,101,116,117,114,110]⟩,.int .i64 0,.bool true,
 .string ⟨#[97,114,101,116,117,114,110]⟩,.int .i64 0,.bool true,
 .string ⟨#[114,101,116,117,114,110]⟩,.int .i64 0,.bool true,
 .string ⟨#[105,111,117,116]⟩,.int .i64 0,.bool false,
 .string ⟨#[108,111,117,116]⟩,.int .i64 0,.bool false,
 .string ⟨#[105,105,110]⟩,.int .i64 0,.bool false]
def Zfl (o:Int):ByteArray:=if 0≤o∧o≤89 then nmL.getD o.toNat ⟨#[]⟩ else ⟨#[]⟩
def inOp (o:Int):Bool:=decide (0≤o∧o≤89)
theorem ZoX:(List.range 90).map (fun k=>LINES.extract (k*3) (k*3+3))=(List.range 90).map (fun k=>#[Value.string (Zfl (k:Nat)),.int .i64 (Zad (k:Nat)),.bool (Zbe (k:Nat))]):=by kernel_rfl
theorem ZlL (o:Int) (h0:0≤o) (h1:o≤89):LINES.extract (o.toNat*3) (o.toNat*3+3)=#[.string (Zfl o),.int .i64 (Zad o),.bool (Zbe o)]:=by
 obtain⟨k,rfl⟩:∃ k:Nat,o=(k:Int):=⟨o.toNat,by omega⟩
 have hk:k<90:=by omega
 have h:=congrArg (fun l=>l[k]?) ZoX
 rw [List.getElem?_map,List.getElem?_map,List.getElem?_range hk] at h
 rw [Int.toNat_natCast]
 exact Option.some.inj h
def Z270:Array Value:=((List.replicate 90 [Value.string ⟨#[]⟩,.int .i64 0,.bool false]).flatten).toArray
theorem Zon (w:World):Calls Tryz.prog 255 #[] w fun e w'=>e=.returned (.agg LINES)∧Ext w w':=by
 go_enter Tryz.func255,Tryz.ntmps255
 refine wp_seq (wp_region_list ?_)
 refine Zc6 rfl _ rfl Z270 270 (by kernel_rfl) (by kernel_rfl) ?_
 refine wpList_nil ?_
 refine wp_seq (wp_region_list ?_)
 iterate 91 refine wpList_build rfl _ _ rfl (by kernel_rfl) ?_
 refine wpList_store_row rfl _ _ _ rfl w.heap.size LINES (by kernel_rfl) (by kernel_rfl) 272 Z270 (heap_alloc_new w _) (by kernel_rfl) (by kernel_rfl) (by kernel_rfl) ?_
 refine wpList_nil ?_
 refine wp_ret ?_
 refine bodyPost_ret (v:=.agg LINES) (results_cell_row (p:=0) (ty:=272) (by kernel_rfl) _ _ w.heap.size 272 LINES (0,0) (.array 90 257) (by kernel_rfl) (setRow_heap _ _ Z270 _ _ _ (heap_alloc_new w _)) (by kernel_rfl) rfl (by kernel_rfl)) rfl ⟨rfl,?_⟩
 exact((Ext.refl w).alloc _).setRow_ (Nat.le_refl _) _
theorem Zgg (w:World) (o:Int) (h0:0≤o) (h1:o≤89) :
 (Instr.index 272 (.agg LINES) (.int .i64 o)).run Tryz.prog w=.ok (.agg #[.string (Zfl o),.int .i64 (Zad o),.bool (Zbe o)]) w:=by
 have hp:=ZlL o h0 h1
 have hz:0≤o∧o<90:=by omega
 simp [Instr.index,go_sem]
 rw [if_pos hz,hp]
end Go.Proofs.YtclamhhgldkhnaaGreatDoor
