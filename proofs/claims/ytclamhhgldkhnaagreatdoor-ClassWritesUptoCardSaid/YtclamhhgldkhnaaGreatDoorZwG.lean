/- Several texts of this proof, one behind the other. -/
import Derived.Test.YtclamhhgldkhnaaGreatDoorZwF
import Derived.Test.YtclamhhgldkhnaaGreatDoorZwC
import Derived.Test.YtclamhhgldkhnaaGreatDoorZwE
import Derived.Test.YtclamhhgldkhnaaGreatDoorProg
import Derived.Laws.StructEq
import Derived.RegionTactic
import Derived.Test.YtclamhhgldkhnaaGreatDoorZwA
import Derived.LoopN
import Derived.BigQuiet
import Derived.Deep.QuietTactic
namespace Go.Proofs.YtclamhhgldkhnaaGreatDoor
open Go.RowKit
set_option linter.unusedVariables false
set_option maxHeartbeats 16000000
theorem Zdo (t:TyD):(Zal t).length≤t.s.length+3:=by
 unfold Zal
 repeat' split
 all_goals simp
theorem flat_len (l:List TyD) (h:∀ t∈l,t.ok):(l.flatMap Zal).length≤l.length*140737488351235:=by
 induction l with
 | nil=>simp
 | cons t r ih =>
  have h1:=(h t (List.mem_cons_self ..)).2
  have h2:=Zdo t
  have h3:=ih (fun u hu=>h u (List.mem_cons_of_mem _ hu))
  simp only [List.flatMap_cons,List.length_append,List.length_cons]
  omega
theorem Zja {p:Pr} (h:¬ Zap p=0):Zcj p=([],Zap p):=by rw [Zcj,if_neg h]
theorem Zg1 {p:Pr} (h:Zap p=0):Zcj p=(ZaN p,0):=by rw [Zcj,if_pos h]
theorem ZeX (v:Value) (p:Pr) (w:World) (h:RowT w v p.args) (hret:p.ret.s.length≤140737488351232) :
 Calls Tryz.prog 122 #[.agg (p.vals v)] w fun e w'=>e=.returned (.tuple #[.string (bs (Zcj p).1),.int .i64 (Zcj p).2])∧Ext w w':=by
 have hc':=h
 have hcc:∀ W,Ext w W→Calls Tryz.prog 79 #[.agg (p.vals v)] W fun e w'=>e=.returned (.int .i64 (Zap p))∧Ext W w':=fun W hx=>Zcp v p W (h.ext hx) hret
 unfold Pr.vals at hcc ⊢
 obtain⟨A,c,rfl,hc,hm,ha,hf,hg⟩:=h
 unfold maxLen at hm
 have HC:=Lh hcc
 clear hcc
 by_cases h0:Zap p=0
 ·rw [Zg1 h0]
  have h16:¬ 16<p.args.length:=by
   intro h
   rw [ZcY h] at h0
   cases h0
  obtain⟨n,hn⟩:∃ n,n=p.args.length:=⟨_,rfl⟩
  rw [← hn] at hc hg h16 HC ⊢
  have Hn:=Lh hn
  have H0:=Lh h0
  have hf:=Lh hf
  clear hn ha h0 hc'
  go_enter Tryz.func122,Tryz.ntmps122
  go_wp2_with fail
  refine(HC.out _ ((Ext.refl w).alloc _)).mono ?_
  rw [H0.out]
  rintro e w2 ⟨rfl,x1⟩
  have z3:w2.cell? ⟨w.heap.size,2,none⟩=some (.slice A n c):=by
   rw [x1.cell (p:=⟨w.heap.size,2,none⟩) (by simp),cell_of_row _ _ _ _ _ _ (heap_alloc_new _ _)]
   rfl
  have z5:w2.cell? ⟨w.heap.size,0,none⟩=some (.int .i64 p.ret.k):=by
   rw [x1.cell (p:=⟨w.heap.size,0,none⟩) (by simp),cell_of_row _ _ _ _ _ _ (heap_alloc_new _ _)]
   rfl
  have z6:w2.cell? ⟨w.heap.size,1,none⟩=some (.string (bs p.ret.s)):=by
   rw [x1.cell (p:=⟨w.heap.size,1,none⟩) (by simp),cell_of_row _ _ _ _ _ _ (heap_alloc_new _ _)]
   rfl
  have hlt2:w.heap.size<w2.heap.size:=by have:=x1.size;simp at this;omega
  have X2:Ext w w2:=((Ext.refl w).alloc _).trans x1
  go_wp2
  clear x1
  have X2:=Lh X2
  go_loopw [5,6] (fun s i wr=>∃ k:Nat,k≤n∧i=.int .i64 k∧s=.string (bs (40 :: (p.args.take k).flatMap Zal))∧Ext w2 wr) (fun _ i _=>n-(intOf i).toNat)
  case atStart=>exact⟨0,by omega,rfl,rfl,Ext.refl _⟩
  case round =>
   obtain⟨k,hk,rfl,rfl,hx⟩:=hrel
   have y3:=(hx.cell (p:=⟨w.heap.size,2,none⟩) hlt2).trans z3
   by_cases hlt:k<n
   ·obtain⟨b1,o1,rfl,hb1,hx1⟩:=hg (by omega)
    obtain⟨y0,y1⟩:=(hx1 k hlt).ext (X2.out.trans hx) hb1
    clear hx1
    have hok:=hf.out _ (ZfE (l:=p.args) (j:=k) (by have:=Hn.out;omega))
    have htx:=fun W=>Zd6 (gtD p.args k) W hok.2
    unfold TyD.vals at htx
    have HT:=Lh htx
    have hl1:=Zdo (gtD p.args k)
    have hl2:=flat_len (p.args.take k) (fun t ht=>hf.out t (List.mem_of_mem_take ht))
    have hl3:(p.args.take k).length≤k:=by simp;omega
    have hl4:=hok.2
    have e1:(40:UInt8) :: (p.args.take (k+1)).flatMap Zal=(40 :: (p.args.take k).flatMap Zal)++Zal (gtD p.args k):=by
     rw [Zcw (by have:=Hn.out;omega),List.flatMap_append]
     simp
    have E1:=Lh e1
    clear e1 htx hok
    obtain⟨a,hA⟩:∃ a,a=(40:UInt8) :: (p.args.take k).flatMap Zal:=⟨_,rfl⟩
    obtain⟨d,hD⟩:∃ d,d=Zal (gtD p.args k):=⟨_,rfl⟩
    have hadd:∀ W,(Op.stringOp .add (bs a) (bs d)).run Tryz.prog W=.ok (.string (bs (a++d))) W:=fun W=>Zc5 (bs a) (bs d) a d rfl rfl (by
     rw [hA,hD]
     have:(p.args.take k).length*140737488351235≤16*140737488351235:=Nat.mul_le_mul_right _ (by omega)
     simp only [List.length_cons]
     omega) W
    rw [← hA,← hD] at E1
    rw [← hA]
    rw [← hD] at HT
    have HA:=Lh hA
    clear hA hD hl1 hl2 hl3 hl4
    go_wp2_with fail
    refine(HT.out _).mono ?_
    rintro e w3 ⟨rfl,x3⟩
    go_wp2
    exact⟨⟨k+1,by omega,by go_num,by rw [E1.out],hx.trans x3⟩,by simp [intOf];omega⟩
   ·obtain rfl:k=n:=by omega
    have y5:=(hx.cell (p:=⟨w.heap.size,0,none⟩) hlt2).trans z5
    have y6:=(hx.cell (p:=⟨w.heap.size,1,none⟩) hlt2).trans z6
    have htx:=fun W=>Zd6 p.ret W hret
    unfold TyD.vals at htx
    have hl1:=Zdo p.ret
    have hl2:=flat_len (p.args.take k) (fun t ht=>hf.out t (List.mem_of_mem_take ht))
    have hl3:(p.args.take k).length≤k:=by simp;omega
    obtain⟨a,hA⟩:∃ a,a=(40:UInt8) :: (p.args.take k).flatMap Zal:=⟨_,rfl⟩
    obtain⟨d,hD⟩:∃ d,d=Zal p.ret:=⟨_,rfl⟩
    have hb:a.length≤16*140737488351235+1:=by
     rw [hA]
     have:(p.args.take k).length*140737488351235≤16*140737488351235:=Nat.mul_le_mul_right _ (by omega)
     simp only [List.length_cons]
     omega
    have hadd1:∀ W,(Op.stringOp .add (bs a) ⟨#[41]⟩).run Tryz.prog W=.ok (.string (bs (a++[41]))) W:=fun W=>Zc5 (bs a) ⟨#[41]⟩ a [41] rfl rfl (by simp only [List.length_cons,List.length_nil];omega) W
    have hadd2:∀ W,(Op.stringOp .add (bs (a++[41])) (bs d)).run Tryz.prog W=.ok (.string (bs (a++[41]++d))) W:=fun W=>Zc5 (bs (a++[41])) (bs d) (a++[41]) d rfl rfl (by
     rw [hD,List.length_append]
     simp only [List.length_cons,List.length_nil]
     omega) W
    have e2:ZaN p=a++41 :: d:=by
     rw [hA,hD,ZaN,show p.args.take k=p.args by rw [Hn.out,List.take_length]]
     simp
    rw [← hA]
    rw [← hD] at htx
    have HT:=Lh htx
    have E2:=Lh e2
    clear hA hD hl1 hl2 hl3 htx e2 hb
    go_wp2_with fail
    refine(HT.out _).mono ?_
    rintro e w3 ⟨rfl,x3⟩
    go_wp2
    go_ret2
    rw [E2.out]
    exact⟨rfl,X2.out.trans (hx.trans x3)⟩
 ·rw [Zja h0]
  obtain⟨n,hn⟩:∃ n,n=p.args.length:=⟨_,rfl⟩
  have hcd:=HC.out
  clear HC
  rw [← hn] at hc hg hcd ⊢
  obtain⟨e0,he0⟩:∃ e0,e0=Zap p:=⟨_,rfl⟩
  rw [← he0] at h0 hcd ⊢
  have HC:=Lh hcd
  have hb:(e0==0)=false:=by simpa using h0
  have Hn:=Lh hn
  clear hg ha hf he0 h0 hc' hcd hn
  go_enter Tryz.func122,Tryz.ntmps122
  go_wp2_with fail
  refine(HC.out _ ((Ext.refl w).alloc _)).mono ?_
  rintro e w2 ⟨rfl,x1⟩
  go_wp2
  go_ret2
  exact⟨rfl,((Ext.refl w).alloc _).trans x1⟩
theorem Zd7 {w w1:World} {o p:Obj} (h:Ext ((w.alloc o).alloc p) w1):w1.heap[w.heap.size]?=some o∧w1.heap[w.heap.size+1]?=some p∧w.heap.size+1<w1.heap.size∧Ext w w1:=by
 have h2:(w.alloc o).heap.size=w.heap.size+1:=by simp
 have h3:((w.alloc o).alloc p).heap.size=w.heap.size+2:=by simp
 have h1:=heap_alloc_new (w.alloc o) p
 rw [h2] at h1
 have hs:=h.size
 refine⟨?_,?_,by omega,(Zbi w o p).trans h⟩
 ·rw [h.block w.heap.size (by omega),heap_alloc_old _ _ (by omega),heap_alloc_new]
 ·rw [h.block (w.heap.size+1) (by omega),h1]
end Go.Proofs.YtclamhhgldkhnaaGreatDoor
namespace Go.Proofs.YtclamhhgldkhnaaGreatDoor
set_option linter.unusedVariables false
theorem wr {n:Int} (h0:-9223372036854775808≤n) (h1:n≤9223372036854775807):IntKind.i64.wrap n=n:=by rw [IntKind.wrap_i64];omega
def pk (s:Nat) (sg:Bool) (l:List Int):Int :=
 match s,sg,l with
 | 1,false,p :: _=>p
 | 1,true,p :: _=>s1 p
 | 2,false,p :: q :: _=>u2 p q
 | 2,true,p :: q :: _=>s2 (u2 p q)
 | 4,true,b :: c :: d :: e :: _=>s4 (u4 b c d e)
 | _,_,_=>0
def Siz (s:Nat) (sg:Bool):Prop:=(s=1∧sg=false)∨(s=1∧sg=true)∨(s=2∧sg=false)∨(s=2∧sg=true)∨(s=4∧sg=true)
theorem Siz.le {s:Nat} {sg:Bool} (h:Siz s sg):1≤s∧s≤4:=by unfold Siz at h;omega
def tBs (sg:Bool) (l:List Int) (s:Int):Int × List Int × Int:=match sg with | true=>tB 8 4 l s | false=>tB 7 3 l s
theorem ZkQ {most wy:Int} {l:List Int} {s:Nat} (h1:1≤s) (h2:(s:Int)≤most) (h:l.length<s):tB most wy l s=(0,[],3):=by
 unfold tB
 rw [if_neg (by omega),if_pos (by omega)]
theorem Zi2 {sg:Bool} {l:List Int} {s:Nat} (h1:1≤s) (h2:s≤4) (h:l.length<s):tBs sg l s=(0,[],3):=by
 unfold tBs
 cases sg
 ·exact ZkQ h1 (by omega) h
 ·exact ZkQ h1 (by omega) h
theorem ab3 (x:Int):ab 3 x=0:=rfl
theorem ab4 {x:Int} (h:B8 x):ab 4 x=if x<128 then 0 else -1:=by
 unfold B8 at h
 unfold ab
 simp
 split <;> omega
theorem ZkT {sg:Bool} {l:List Int} {s:Nat} (hs:Siz s sg) (hb:∀ c∈l,B8 c) (h:s≤l.length):tBs sg l s=(pk s sg l,l.drop s,0):=by
 rcases hs with⟨rfl,rfl⟩ | ⟨rfl,rfl⟩ | ⟨rfl,rfl⟩ | ⟨rfl,rfl⟩ | ⟨rfl,rfl⟩
 ·match l,h,hb with
  | p :: l,h,hb =>
   have h0:=hb p (by simp)
   unfold B8 at h0
   simp only [tBs,tB,pk]
   rw [if_neg (by omega),if_neg (by simp at h ⊢;omega)]
   simp [bf,ab3,gi]
   rw [wr (by omega) (by omega)]
 ·match l,h,hb with
  | p :: l,h,hb =>
   have h0:=hb p (by simp)
   have h0':=h0
   unfold B8 at h0
   simp only [tBs,tB,pk]
   rw [if_neg (by omega),if_neg (by simp at h ⊢;omega)]
   simp [bf,ab4 h0',gi,s1]
   split
   ·rw [wr (by omega) (by omega)];omega
   ·rw [wr (by omega) (by omega)];omega
 ·match l,h,hb with
  | p :: q :: l,h,hb =>
   have h0:=hb p (by simp)
   have h1:=hb q (by simp)
   unfold B8 at h0 h1
   simp only [tBs,tB,pk]
   rw [if_neg (by omega),if_neg (by simp at h ⊢;omega)]
   simp [bf,ab3,gi,u2]
   rw [wr (n:=p) (by omega) (by omega),wr (by omega) (by omega)]
 ·match l,h,hb with
  | p :: q :: l,h,hb =>
   have h0:=hb p (by simp)
   have h1:=hb q (by simp)
   have h0':=h0
   unfold B8 at h0 h1
   simp only [tBs,tB,pk]
   rw [if_neg (by omega),if_neg (by simp at h ⊢;omega)]
   simp [bf,ab4 h0',gi]
   unfold s2 u2
   split
   ·rw [wr (n:=0*256+p) (by omega) (by omega),wr (by omega) (by omega),if_pos (by omega)]
    omega
   ·rw [wr (n:=-1*256+p) (by omega) (by omega),wr (by omega) (by omega),if_neg (by omega)]
    omega
 ·match l,h,hb with
  | b :: c :: d :: e :: l,h,hb =>
   have h0:=hb b (by simp)
   have h1:=hb c (by simp)
   have h2:=hb d (by simp)
   have h3:=hb e (by simp)
   have h0':=h0
   unfold B8 at h0 h1 h2 h3
   simp only [tBs,tB,pk]
   rw [if_neg (by omega),if_neg (by simp at h ⊢;omega)]
   simp [bf,ab4 h0',gi]
   unfold s4 u4
   split
   ·rw [wr (n:=0*256+b) (by omega) (by omega),wr (n:=(0*256+b)*256+c) (by omega) (by omega),wr (n:=((0*256+b)*256+c)*256+d) (by omega) (by omega),wr (by omega) (by omega),if_pos (by omega)]
    omega
   ·rw [wr (n:=-1*256+b) (by omega) (by omega),wr (n:=(-1*256+b)*256+c) (by omega) (by omega),wr (n:=((-1*256+b)*256+c)*256+d) (by omega) (by omega),wr (by omega) (by omega),if_neg (by omega)]
    omega
def rdN (st:Bool) (s:Nat) (sg:Bool) (q:List Int × Bool):Int × List Int × Bool :=
 if (st=true∧q.2=true)∨q.1.length<s then (0,q.1,true) else (pk s sg q.1,q.1.drop s,q.2)
theorem Zdu {st:Bool} {s:Nat} {sg:Bool} {q:List Int × Bool} (h:q.2=true):(rdN st s sg q).2.2=true:=by
 unfold rdN
 split
 ·rfl
 ·exact h
theorem Zax {st:Bool} {s:Nat} {sg:Bool} {l:List Int} (e:Bool) (h:l.length<s):rdN st s sg (l,e)=(0,l,true):=by
 unfold rdN
 rw [if_pos (.inr h)]
theorem Zbc {st:Bool} {s:Nat} {sg:Bool} {l:List Int} (h:s≤l.length):rdN st s sg (l,false)=(pk s sg l,l.drop s,false):=by
 unfold rdN
 rw [if_neg (by simp;omega)]
def rdT (st:Bool) (a:Int):Nat→List Int × Bool→List Int × List Int × Bool
 | 0,q=>([],q)
 | n+1,q=>if q.2=true then ([],q) else
  let r:=rdN st 2 true q
  let y:=rdT st a n r.2
  ((a+r.1) :: y.1,y.2)
def rdK (st:Bool) (a:Int):Nat→List Int × Bool→List Int × List Int × List Int × Bool
 | 0,q=>([],[],q)
 | n+1,q=>if q.2=true then ([],[],q) else
  let r:=rdN st 4 true q
  let p:=rdN st 2 true r.2
  let y:=rdK st a n p.2
  (r.1 :: y.1,(a+p.1) :: y.2.1,y.2.2)
def insM (st:Bool) (a o:Int) (q:List Int × Bool):In × List Int × Bool :=
 let z:=Zad o
 if z=1 then let r:=rdN st 1 false q;(⟨a,o,r.1,0,[],[]⟩,r.2)
 else if z=2 then let r:=rdN st 2 true q;(⟨a,o,r.1,0,[],[]⟩,r.2)
 else if z=3 then let r:=rdN st 2 false q;(⟨a,o,r.1,0,[],[]⟩,r.2)
 else if z=4 then let r:=rdN st 2 true q;(⟨a,o,0,0,[a+r.1],[]⟩,r.2)
 else if z=5 then let r:=rdN st 1 false q;let p:=rdN st 1 true r.2;(⟨a,o,r.1,p.1,[],[]⟩,p.2)
 else if z=6 then
  let r:=rdN st 2 true q;let p:=rdN st 4 true r.2;let c:=rdN st 2 false p.2;let y:=rdT st a c.1.toNat c.2
  (⟨a,o,p.1,0,(a+r.1) :: y.1,[]⟩,y.2)
 else if z=7 then
  let r:=rdN st 2 true q;let c:=rdN st 2 false r.2;let y:=rdK st a c.1.toNat c.2
  (⟨a,o,0,0,(a+r.1) :: y.2.1,y.1⟩,y.2.2)
 else (⟨a,o,0,0,[],[]⟩,q)
theorem Za4 {st:Bool} {a:Int}:∀ {n:Nat} {q:List Int × Bool},q.2=true→rdT st a n q=([],q)
 | 0,q,h=>rfl
 | n+1,q,h=>by rw [rdT,if_pos h]
theorem ZbI {st:Bool} {a:Int}:∀ {n:Nat} {q:List Int × Bool},q.2=true→rdK st a n q=([],[],q)
 | 0,q,h=>rfl
 | n+1,q,h=>by rw [rdK,if_pos h]
theorem ZkG {st:Bool} {a:Int}:∀ {n:Nat} {l:List Int},match ZhL a n l with | some x=>rdT st a n (l,false)=(x.1,x.2,false) | none=>(rdT st a n (l,false)).2.2=true
 | 0,l=>rfl
 | n+1,l=>by
  by_cases h:2≤l.length
  ·match l,h with
   | p :: q :: l,h =>
    have ih:=ZkG (st:=st) (a:=a) (n:=n) (l:=l)
    rw [rdT,if_neg (by simp),Zbc (by simp),ZhL]
    simp only [List.drop_succ_cons,List.drop_zero,pk]
    cases hx:ZhL a n l with
    | none=>rw [hx] at ih;exact ih
    | some x=>rw [hx] at ih;simp only at ih;simp [ih]
  ·have e:ZhL a (n+1) l=none:=by
    match l with
    | []=>rfl
    | [_]=>rfl
    | _ :: _ :: l=>simp at h
   rw [e]
   simp only
   rw [rdT,if_neg (by simp),Zax _ (by omega)]
   simp only
   rw [Za4 (q:=(l,true)) rfl]
theorem Zlm {st:Bool} {a:Int}:∀ {n:Nat} {l:List Int},match ZhD a n l with | some x=>rdK st a n (l,false)=(x.1,x.2.1,x.2.2,false) | none=>(rdK st a n (l,false)).2.2.2=true
 | 0,l=>rfl
 | n+1,l=>by
  by_cases h:6≤l.length
  ·match l,h with
   | b :: c :: d :: e :: p :: q :: l,h =>
    have ih:=Zlm (st:=st) (a:=a) (n:=n) (l:=l)
    rw [rdK,if_neg (by simp),Zbc (by simp)]
    simp only [List.drop_succ_cons,List.drop_zero]
    rw [Zbc (by simp),ZhD]
    simp only [List.drop_succ_cons,List.drop_zero,pk]
    cases hx:ZhD a n l with
    | none=>rw [hx] at ih;exact ih
    | some x=>rw [hx] at ih;simp only at ih;simp [ih]
  ·have e:ZhD a (n+1) l=none:=by
    match l with
    | []=>rfl
    | [_]=>rfl
    | [_,_]=>rfl
    | [_,_,_]=>rfl
    | [_,_,_,_]=>rfl
    | [_,_,_,_,_]=>rfl
    | _ :: _ :: _ :: _ :: _ :: _ :: l=>simp at h
   rw [e]
   simp only
   rw [rdK,if_neg (by simp)]
   simp only
   by_cases h4:l.length<4
   ·rw [Zax _ h4]
    have:=Zdu (st:=st) (s:=2) (sg:=true) (q:=(l,true)) rfl
    rw [ZbI this]
    exact this
   ·rw [Zbc (s:=4) (by omega),Zax (s:=2) _ (by simp;omega)]
    simp only
    rw [ZbI (q:=(l.drop 4,true)) rfl]
theorem Zer {st:Bool} {a o:Int} {l:List Int}:match body a o l with | some x=>insM st a o (l,false)=(x.1,x.2,false) | none=>(insM st a o (l,false)).2.2=true:=by
 unfold body insM
 simp only
 obtain⟨z,hz⟩:∃ z,z=Zad o:=⟨_,rfl⟩
 have hz7:=Zb2 o
 rw [← hz] at hz7 ⊢
 have hc:z=0∨z=1∨z=2∨z=3∨z=4∨z=5∨z=6∨z=7:=by omega
 clear hz hz7
 rcases hc with rfl | rfl | rfl | rfl | rfl | rfl | rfl | rfl
 ·simp
 ·match l with
  | []=>simp [Zax]
  | p :: l=>simp [Zbc,pk]
 ·match l with
  | []=>simp [Zax]
  | [_]=>simp [Zax]
  | p :: q :: l=>simp [Zbc,pk]
 ·match l with
  | []=>simp [Zax]
  | [_]=>simp [Zax]
  | p :: q :: l=>simp [Zbc,pk]
 ·match l with
  | []=>simp [Zax]
  | [_]=>simp [Zax]
  | p :: q :: l=>simp [Zbc,pk]
 ·match l with
  | []=>simp [Zax]
  | [_]=>simp [Zbc,Zax]
  | p :: q :: l=>simp [Zbc,pk]
 ·simp only [if_neg (show ¬ (6:Int)=1 by omega),if_neg (show ¬ (6:Int)=2 by omega),if_neg (show ¬ (6:Int)=3 by omega),if_neg (show ¬ (6:Int)=4 by omega),if_neg (show ¬ (6:Int)=5 by omega),if_pos]
  by_cases h:8≤l.length
  ·match l,h with
   | p :: q :: b :: c :: d :: e :: f :: g :: r,h =>
    have ih:=ZkG (st:=st) (a:=a) (n:=(u2 f g).toNat) (l:=r)
    rw [Zbc (by simp)]
    simp only [List.drop_succ_cons,List.drop_zero]
    rw [Zbc (by simp)]
    simp only [List.drop_succ_cons,List.drop_zero]
    rw [Zbc (by simp)]
    simp only [List.drop_succ_cons,List.drop_zero,pk]
    cases hx:ZhL a (u2 f g).toNat r with
    | none=>rw [hx] at ih;exact ih
    | some x=>rw [hx] at ih;simp only at ih;simp [ih]
  ·have key:(rdN st 2 false (rdN st 4 true (rdN st 2 true (l,false)).2).2).2.2=true:=by
    by_cases h2:l.length<2
    ·rw [Zax _ h2];exact Zdu (Zdu rfl)
    ·rw [Zbc (by omega)]
     by_cases h4:l.length<6
     ·rw [Zax (s:=4) _ (by simp;omega)];exact Zdu rfl
     ·rw [Zbc (s:=4) (by simp;omega),Zax (s:=2) _ (by simp;omega)]
   match l,h with
   | [],_=>simp only;rw [Za4 key];exact key
   | [_],_=>simp only;rw [Za4 key];exact key
   | [_,_],_=>simp only;rw [Za4 key];exact key
   | [_,_,_],_=>simp only;rw [Za4 key];exact key
   | [_,_,_,_],_=>simp only;rw [Za4 key];exact key
   | [_,_,_,_,_],_=>simp only;rw [Za4 key];exact key
   | [_,_,_,_,_,_],_=>simp only;rw [Za4 key];exact key
   | [_,_,_,_,_,_,_],_=>simp only;rw [Za4 key];exact key
   | _ :: _ :: _ :: _ :: _ :: _ :: _ :: _ :: r,h=>simp at h
 ·simp only [if_neg (show ¬ (7:Int)=1 by omega),if_neg (show ¬ (7:Int)=2 by omega),if_neg (show ¬ (7:Int)=3 by omega),if_neg (show ¬ (7:Int)=4 by omega),if_neg (show ¬ (7:Int)=5 by omega),if_neg (show ¬ (7:Int)=6 by omega),if_pos]
  by_cases h:4≤l.length
  ·match l,h with
   | p :: q :: f :: g :: r,h =>
    have ih:=Zlm (st:=st) (a:=a) (n:=(u2 f g).toNat) (l:=r)
    rw [Zbc (by simp)]
    simp only [List.drop_succ_cons,List.drop_zero]
    rw [Zbc (by simp)]
    simp only [List.drop_succ_cons,List.drop_zero,pk]
    cases hx:ZhD a (u2 f g).toNat r with
    | none=>rw [hx] at ih;exact ih
    | some x=>rw [hx] at ih;simp only at ih;simp [ih]
  ·have key:(rdN st 2 false (rdN st 2 true (l,false)).2).2.2=true:=by
    by_cases h2:l.length<2
    ·rw [Zax _ h2];exact Zdu rfl
    ·rw [Zbc (by omega),Zax _ (by simp;omega)]
   match l,h with
   | [],_=>simp only;rw [ZbI key];exact key
   | [_],_=>simp only;rw [ZbI key];exact key
   | [_,_],_=>simp only;rw [ZbI key];exact key
   | [_,_,_],_=>simp only;rw [ZbI key];exact key
   | _ :: _ :: _ :: _ :: r,h=>simp at h
end Go.Proofs.YtclamhhgldkhnaaGreatDoor
namespace Go.Proofs.YtclamhhgldkhnaaGreatDoor
open Go.RowKit
set_option linter.unusedVariables false
def In.vals (x:In) (v1 v2:Value):Array Value:=#[.int .i64 x.a,.int .i64 x.o,.int .i64 x.n,.int .i64 x.m,v1,v2]
theorem Zbn (o:Int) (w:World):Calls Tryz.prog 206 #[.int .i64 o] w fun e w'=>e=.returned (.int .i64 (Zad o))∧w'=w:=by
 have H:(o≤0)∨(o=1)∨(o=2)∨(o=3)∨(o=4)∨(5≤o∧o≤10)∨(o=11)∨(12≤o∧o≤41)∨(42≤o∧o≤58)∨(o=59)∨(o=60)∨(61≤o∧o≤65)∨(66≤o∧o≤67)∨(o=68)∨(69≤o∧o≤75)∨(o=76)∨(o=77)∨(o=78)∨(79≤o∧o≤82)∨(83≤o):=by omega
 rcases H with h | rfl | rfl | rfl | rfl | ⟨h,h'⟩ | rfl | ⟨h,h'⟩ | ⟨h,h'⟩ | rfl | rfl | ⟨h,h'⟩ | ⟨h,h'⟩ | rfl | ⟨h,h'⟩ | rfl | rfl | rfl | ⟨h,h'⟩ | h
 ·have hv:Zad o=0:=by
   unfold Zad
   repeat' split
   all_goals omega
  rw [hv]
  have g0:o<5:=by omega
  have g1:o<61:=by omega
  have g2:o<79:=by omega
  have g3:o<42:=by omega
  have l0:o≤10:=by omega
  have l1:o≤65:=by omega
  have l2:o≤82:=by omega
  have l3:o≤58:=by omega
  have q0:(o==1)=false:=by rw [beq_eq_false_iff_ne];omega
  have q1:(o==2)=false:=by rw [beq_eq_false_iff_ne];omega
  have q2:(o==3)=false:=by rw [beq_eq_false_iff_ne];omega
  have q3:(o==68)=false:=by rw [beq_eq_false_iff_ne];omega
  have q4:(o==76)=false:=by rw [beq_eq_false_iff_ne];omega
  have q5:(o==77)=false:=by rw [beq_eq_false_iff_ne];omega
  have q6:(o==11)=false:=by rw [beq_eq_false_iff_ne];omega
  have q7:(o==59)=false:=by rw [beq_eq_false_iff_ne];omega
  have q8:(o==60)=false:=by rw [beq_eq_false_iff_ne];omega
  clear hv h
  go_enter Tryz.func206,Tryz.ntmps206
  go_wp2
  go_ret
  exact⟨rfl,rfl⟩
 ·go_enter Tryz.func206,Tryz.ntmps206
  go_wp2
  go_ret
  exact⟨rfl,rfl⟩
 ·go_enter Tryz.func206,Tryz.ntmps206
  go_wp2
  go_ret
  exact⟨rfl,rfl⟩
 ·go_enter Tryz.func206,Tryz.ntmps206
  go_wp2
  go_ret
  exact⟨rfl,rfl⟩
 ·go_enter Tryz.func206,Tryz.ntmps206
  go_wp2
  go_ret
  exact⟨rfl,rfl⟩
 ·have hv:Zad o=1:=by
   unfold Zad
   repeat' split
   all_goals omega
  rw [hv]
  have g0:(5:Int)≤o:=by omega
  have g1:o<61:=by omega
  have g2:o<79:=by omega
  have g3:o<42:=by omega
  have l0:o≤10:=by omega
  have l1:o≤65:=by omega
  have l2:o≤82:=by omega
  have l3:o≤58:=by omega
  have q0:(o==1)=false:=by rw [beq_eq_false_iff_ne];omega
  have q1:(o==2)=false:=by rw [beq_eq_false_iff_ne];omega
  have q2:(o==3)=false:=by rw [beq_eq_false_iff_ne];omega
  have q3:(o==68)=false:=by rw [beq_eq_false_iff_ne];omega
  have q4:(o==76)=false:=by rw [beq_eq_false_iff_ne];omega
  have q5:(o==77)=false:=by rw [beq_eq_false_iff_ne];omega
  have q6:(o==11)=false:=by rw [beq_eq_false_iff_ne];omega
  have q7:(o==59)=false:=by rw [beq_eq_false_iff_ne];omega
  have q8:(o==60)=false:=by rw [beq_eq_false_iff_ne];omega
  clear hv h h'
  go_enter Tryz.func206,Tryz.ntmps206
  go_wp2
  go_ret
  exact⟨rfl,rfl⟩
 ·go_enter Tryz.func206,Tryz.ntmps206
  go_wp2
  go_ret
  exact⟨rfl,rfl⟩
 ·have hv:Zad o=0:=by
   unfold Zad
   repeat' split
   all_goals omega
  rw [hv]
  have g0:(5:Int)≤o:=by omega
  have g1:o<61:=by omega
  have g2:o<79:=by omega
  have g3:o<42:=by omega
  have l0:¬ o≤10:=by omega
  have l1:o≤65:=by omega
  have l2:o≤82:=by omega
  have l3:o≤58:=by omega
  have q0:(o==1)=false:=by rw [beq_eq_false_iff_ne];omega
  have q1:(o==2)=false:=by rw [beq_eq_false_iff_ne];omega
  have q2:(o==3)=false:=by rw [beq_eq_false_iff_ne];omega
  have q3:(o==68)=false:=by rw [beq_eq_false_iff_ne];omega
  have q4:(o==76)=false:=by rw [beq_eq_false_iff_ne];omega
  have q5:(o==77)=false:=by rw [beq_eq_false_iff_ne];omega
  have q6:(o==11)=false:=by rw [beq_eq_false_iff_ne];omega
  have q7:(o==59)=false:=by rw [beq_eq_false_iff_ne];omega
  have q8:(o==60)=false:=by rw [beq_eq_false_iff_ne];omega
  clear hv h h'
  go_enter Tryz.func206,Tryz.ntmps206
  go_wp2
  go_ret
  exact⟨rfl,rfl⟩
 ·have hv:Zad o=4:=by
   unfold Zad
   repeat' split
   all_goals omega
  rw [hv]
  have g0:(5:Int)≤o:=by omega
  have g1:o<61:=by omega
  have g2:o<79:=by omega
  have g3:(42:Int)≤o:=by omega
  have l0:¬ o≤10:=by omega
  have l1:o≤65:=by omega
  have l2:o≤82:=by omega
  have l3:o≤58:=by omega
  have q0:(o==1)=false:=by rw [beq_eq_false_iff_ne];omega
  have q1:(o==2)=false:=by rw [beq_eq_false_iff_ne];omega
  have q2:(o==3)=false:=by rw [beq_eq_false_iff_ne];omega
  have q3:(o==68)=false:=by rw [beq_eq_false_iff_ne];omega
  have q4:(o==76)=false:=by rw [beq_eq_false_iff_ne];omega
  have q5:(o==77)=false:=by rw [beq_eq_false_iff_ne];omega
  have q6:(o==11)=false:=by rw [beq_eq_false_iff_ne];omega
  have q7:(o==59)=false:=by rw [beq_eq_false_iff_ne];omega
  have q8:(o==60)=false:=by rw [beq_eq_false_iff_ne];omega
  clear hv h h'
  go_enter Tryz.func206,Tryz.ntmps206
  go_wp2
  go_ret
  exact⟨rfl,rfl⟩
 ·go_enter Tryz.func206,Tryz.ntmps206
  go_wp2
  go_ret
  exact⟨rfl,rfl⟩
 ·go_enter Tryz.func206,Tryz.ntmps206
  go_wp2
  go_ret
  exact⟨rfl,rfl⟩
 ·have hv:Zad o=3:=by
   unfold Zad
   repeat' split
   all_goals omega
  rw [hv]
  have g0:(5:Int)≤o:=by omega
  have g1:(61:Int)≤o:=by omega
  have g2:o<79:=by omega
  have g3:(42:Int)≤o:=by omega
  have l0:¬ o≤10:=by omega
  have l1:o≤65:=by omega
  have l2:o≤82:=by omega
  have l3:¬ o≤58:=by omega
  have q0:(o==1)=false:=by rw [beq_eq_false_iff_ne];omega
  have q1:(o==2)=false:=by rw [beq_eq_false_iff_ne];omega
  have q2:(o==3)=false:=by rw [beq_eq_false_iff_ne];omega
  have q3:(o==68)=false:=by rw [beq_eq_false_iff_ne];omega
  have q4:(o==76)=false:=by rw [beq_eq_false_iff_ne];omega
  have q5:(o==77)=false:=by rw [beq_eq_false_iff_ne];omega
  have q6:(o==11)=false:=by rw [beq_eq_false_iff_ne];omega
  have q7:(o==59)=false:=by rw [beq_eq_false_iff_ne];omega
  have q8:(o==60)=false:=by rw [beq_eq_false_iff_ne];omega
  clear hv h h'
  go_enter Tryz.func206,Tryz.ntmps206
  go_wp2
  go_ret
  exact⟨rfl,rfl⟩
 ·have hv:Zad o=0:=by
   unfold Zad
   repeat' split
   all_goals omega
  rw [hv]
  have g0:(5:Int)≤o:=by omega
  have g1:(61:Int)≤o:=by omega
  have g2:o<79:=by omega
  have g3:(42:Int)≤o:=by omega
  have l0:¬ o≤10:=by omega
  have l1:¬ o≤65:=by omega
  have l2:o≤82:=by omega
  have l3:¬ o≤58:=by omega
  have q0:(o==1)=false:=by rw [beq_eq_false_iff_ne];omega
  have q1:(o==2)=false:=by rw [beq_eq_false_iff_ne];omega
  have q2:(o==3)=false:=by rw [beq_eq_false_iff_ne];omega
  have q3:(o==68)=false:=by rw [beq_eq_false_iff_ne];omega
  have q4:(o==76)=false:=by rw [beq_eq_false_iff_ne];omega
  have q5:(o==77)=false:=by rw [beq_eq_false_iff_ne];omega
  have q6:(o==11)=false:=by rw [beq_eq_false_iff_ne];omega
  have q7:(o==59)=false:=by rw [beq_eq_false_iff_ne];omega
  have q8:(o==60)=false:=by rw [beq_eq_false_iff_ne];omega
  clear hv h h'
  go_enter Tryz.func206,Tryz.ntmps206
  go_wp2
  go_ret
  exact⟨rfl,rfl⟩
 ·go_enter Tryz.func206,Tryz.ntmps206
  go_wp2
  go_ret
  exact⟨rfl,rfl⟩
 ·have hv:Zad o=0:=by
   unfold Zad
   repeat' split
   all_goals omega
  rw [hv]
  have g0:(5:Int)≤o:=by omega
  have g1:(61:Int)≤o:=by omega
  have g2:o<79:=by omega
  have g3:(42:Int)≤o:=by omega
  have l0:¬ o≤10:=by omega
  have l1:¬ o≤65:=by omega
  have l2:o≤82:=by omega
  have l3:¬ o≤58:=by omega
  have q0:(o==1)=false:=by rw [beq_eq_false_iff_ne];omega
  have q1:(o==2)=false:=by rw [beq_eq_false_iff_ne];omega
  have q2:(o==3)=false:=by rw [beq_eq_false_iff_ne];omega
  have q3:(o==68)=false:=by rw [beq_eq_false_iff_ne];omega
  have q4:(o==76)=false:=by rw [beq_eq_false_iff_ne];omega
  have q5:(o==77)=false:=by rw [beq_eq_false_iff_ne];omega
  have q6:(o==11)=false:=by rw [beq_eq_false_iff_ne];omega
  have q7:(o==59)=false:=by rw [beq_eq_false_iff_ne];omega
  have q8:(o==60)=false:=by rw [beq_eq_false_iff_ne];omega
  clear hv h h'
  go_enter Tryz.func206,Tryz.ntmps206
  go_wp2
  go_ret
  exact⟨rfl,rfl⟩
 ·go_enter Tryz.func206,Tryz.ntmps206
  go_wp2
  go_ret
  exact⟨rfl,rfl⟩
 ·go_enter Tryz.func206,Tryz.ntmps206
  go_wp2
  go_ret
  exact⟨rfl,rfl⟩
 ·go_enter Tryz.func206,Tryz.ntmps206
  go_wp2
  go_ret
  exact⟨rfl,rfl⟩
 ·have hv:Zad o=3:=by
   unfold Zad
   repeat' split
   all_goals omega
  rw [hv]
  have g0:(5:Int)≤o:=by omega
  have g1:(61:Int)≤o:=by omega
  have g2:(79:Int)≤o:=by omega
  have g3:(42:Int)≤o:=by omega
  have l0:¬ o≤10:=by omega
  have l1:¬ o≤65:=by omega
  have l2:o≤82:=by omega
  have l3:¬ o≤58:=by omega
  have q0:(o==1)=false:=by rw [beq_eq_false_iff_ne];omega
  have q1:(o==2)=false:=by rw [beq_eq_false_iff_ne];omega
  have q2:(o==3)=false:=by rw [beq_eq_false_iff_ne];omega
  have q3:(o==68)=false:=by rw [beq_eq_false_iff_ne];omega
  have q4:(o==76)=false:=by rw [beq_eq_false_iff_ne];omega
  have q5:(o==77)=false:=by rw [beq_eq_false_iff_ne];omega
  have q6:(o==11)=false:=by rw [beq_eq_false_iff_ne];omega
  have q7:(o==59)=false:=by rw [beq_eq_false_iff_ne];omega
  have q8:(o==60)=false:=by rw [beq_eq_false_iff_ne];omega
  clear hv h h'
  go_enter Tryz.func206,Tryz.ntmps206
  go_wp2
  go_ret
  exact⟨rfl,rfl⟩
 ·have hv:Zad o=0:=by
   unfold Zad
   repeat' split
   all_goals omega
  rw [hv]
  have g0:(5:Int)≤o:=by omega
  have g1:(61:Int)≤o:=by omega
  have g2:(79:Int)≤o:=by omega
  have g3:(42:Int)≤o:=by omega
  have l0:¬ o≤10:=by omega
  have l1:¬ o≤65:=by omega
  have l2:¬ o≤82:=by omega
  have l3:¬ o≤58:=by omega
  have q0:(o==1)=false:=by rw [beq_eq_false_iff_ne];omega
  have q1:(o==2)=false:=by rw [beq_eq_false_iff_ne];omega
  have q2:(o==3)=false:=by rw [beq_eq_false_iff_ne];omega
  have q3:(o==68)=false:=by rw [beq_eq_false_iff_ne];omega
  have q4:(o==76)=false:=by rw [beq_eq_false_iff_ne];omega
  have q5:(o==77)=false:=by rw [beq_eq_false_iff_ne];omega
  have q6:(o==11)=false:=by rw [beq_eq_false_iff_ne];omega
  have q7:(o==59)=false:=by rw [beq_eq_false_iff_ne];omega
  have q8:(o==60)=false:=by rw [beq_eq_false_iff_ne];omega
  clear hv h
  go_enter Tryz.func206,Tryz.ntmps206
  go_wp2
  go_ret
  exact⟨rfl,rfl⟩
theorem ZjT (o:Int) (w:World):Calls Tryz.prog 171 #[.int .i64 o] w fun e w'=>e=.returned (.bool (Zbe o))∧w'=w:=by
 have H:(o≤57)∨(58≤o∧o≤60)∨(61≤o∧o≤77)∨(o=78)∨(79≤o∧o≤82)∨(83≤o∧o≤86)∨(87≤o):=by omega
 rcases H with h | ⟨h,h'⟩ | ⟨h,h'⟩ | rfl | ⟨h,h'⟩ | ⟨h,h'⟩ | h
 ·have hv:Zbe o=false:=by
   unfold Zbe
   simp
   omega
  rw [hv]
  have g0:o<58:=by omega
  have g1:o<83:=by omega
  have l0:o≤60:=by omega
  have l1:o≤86:=by omega
  have q0:(o==78)=false:=by rw [beq_eq_false_iff_ne];omega
  clear hv h
  go_enter Tryz.func171,Tryz.ntmps171
  go_wp2
  go_ret
  exact⟨rfl,rfl⟩
 ·have hv:Zbe o=true:=by
   unfold Zbe
   simp
   omega
  rw [hv]
  have g0:(58:Int)≤o:=by omega
  have g1:o<83:=by omega
  have l0:o≤60:=by omega
  have l1:o≤86:=by omega
  have q0:(o==78)=false:=by rw [beq_eq_false_iff_ne];omega
  clear hv h h'
  go_enter Tryz.func171,Tryz.ntmps171
  go_wp2
  go_ret
  exact⟨rfl,rfl⟩
 ·have hv:Zbe o=false:=by
   unfold Zbe
   simp
   omega
  rw [hv]
  have g0:(58:Int)≤o:=by omega
  have g1:o<83:=by omega
  have l0:¬ o≤60:=by omega
  have l1:o≤86:=by omega
  have q0:(o==78)=false:=by rw [beq_eq_false_iff_ne];omega
  clear hv h h'
  go_enter Tryz.func171,Tryz.ntmps171
  go_wp2
  go_ret
  exact⟨rfl,rfl⟩
 ·go_enter Tryz.func171,Tryz.ntmps171
  go_wp2
  go_ret
  exact⟨rfl,rfl⟩
 ·have hv:Zbe o=false:=by
   unfold Zbe
   simp
   omega
  rw [hv]
  have g0:(58:Int)≤o:=by omega
  have g1:o<83:=by omega
  have l0:¬ o≤60:=by omega
  have l1:o≤86:=by omega
  have q0:(o==78)=false:=by rw [beq_eq_false_iff_ne];omega
  clear hv h h'
  go_enter Tryz.func171,Tryz.ntmps171
  go_wp2
  go_ret
  exact⟨rfl,rfl⟩
 ·have hv:Zbe o=true:=by
   unfold Zbe
   simp
   omega
  rw [hv]
  have g0:(58:Int)≤o:=by omega
  have g1:(83:Int)≤o:=by omega
  have l0:¬ o≤60:=by omega
  have l1:o≤86:=by omega
  have q0:(o==78)=false:=by rw [beq_eq_false_iff_ne];omega
  clear hv h h'
  go_enter Tryz.func171,Tryz.ntmps171
  go_wp2
  go_ret
  exact⟨rfl,rfl⟩
 ·have hv:Zbe o=false:=by
   unfold Zbe
   simp
   omega
  rw [hv]
  have g0:(58:Int)≤o:=by omega
  have g1:(83:Int)≤o:=by omega
  have l0:¬ o≤60:=by omega
  have l1:¬ o≤86:=by omega
  have q0:(o==78)=false:=by rw [beq_eq_false_iff_ne];omega
  clear hv h
  go_enter Tryz.func171,Tryz.ntmps171
  go_wp2
  go_ret
  exact⟨rfl,rfl⟩
theorem Zck (n:Int) (w:World):Calls Tryz.prog 238 #[.int .i64 n] w fun e w'=>e=.returned (.bool (ZbO n))∧w'=w:=by
 have H:(-2147483648≤n∧n<2147483648)∨n < -2147483648∨(-2147483648≤n∧¬ n<2147483648):=by omega
 rcases H with⟨h,h'⟩ | h | ⟨h,h'⟩
 ·rw [show ZbO n=true by unfold ZbO;simp;omega]
  go_enter Tryz.func238,Tryz.ntmps238
  go_wp2
  go_ret
  exact⟨rfl,rfl⟩
 ·rw [show ZbO n=false by unfold ZbO;simp;omega]
  go_enter Tryz.func238,Tryz.ntmps238
  go_wp2
  go_ret
  exact⟨rfl,rfl⟩
 ·rw [show ZbO n=false by unfold ZbO;simp;omega]
  go_enter Tryz.func238,Tryz.ntmps238
  go_wp2
  go_ret
  exact⟨rfl,rfl⟩
theorem ZbE (x:In) (A1 A2:Option Addr) (n1 c1 n2 c2:Nat) (t:Int) (w:World) (ha:0≤x.a∧x.a<8192) :
 Calls Tryz.prog 237 #[.agg (x.vals (.slice A1 n1 c1) (.slice A2 n2 c2)),.int .i64 t] w fun e w'=>e=.returned (.bool (Zbh x.a t))∧Ext w w':=by
 unfold In.vals
 have H:(0≤t∧t<8192)∨t<0∨(0≤t∧¬ t<8192):=by omega
 rcases H with⟨h,h'⟩ | h | ⟨h,h'⟩
 ·rw [show Zbh x.a t=true by unfold Zbh;simp;omega]
  have h1:-32768≤t-x.a:=by omega
  have h2:t-x.a≤32767:=by omega
  go_enter Tryz.func237,Tryz.ntmps237
  go_wp2
  go_ret
  exact⟨rfl,(Ext.refl w).alloc _⟩
 ·rw [show Zbh x.a t=false by unfold Zbh;simp;omega]
  go_enter Tryz.func237,Tryz.ntmps237
  go_wp2
  go_ret
  exact⟨rfl,(Ext.refl w).alloc _⟩
 ·rw [show Zbh x.a t=false by unfold Zbh;simp;omega]
  go_enter Tryz.func237,Tryz.ntmps237
  go_wp2
  go_ret
  exact⟨rfl,(Ext.refl w).alloc _⟩
theorem Zdw {l:List Int} {k:Nat} (h:k<l.length):l.take (k+1)=l.take k++[gi l k]:=by
 rw [List.take_succ_eq_append_getElem h]
 simp [gi,h]
theorem Zag {b c:Bool} (h:b=c):Ending.returned (.bool b)=.returned (.bool c):=by rw [h]
end Go.Proofs.YtclamhhgldkhnaaGreatDoor
