/- Several texts of this proof, one behind the other. -/
import Derived.Test.YtclamhhgldkhnaaGreatDoorZwO
import Derived.Test.YtclamhhgldkhnaaGreatDoorZwB
import Derived.LoopN
import Derived.Test.YtclamhhgldkhnaaGreatDoorZwC
import Derived.Test.YtclamhhgldkhnaaGreatDoorZwD
import Derived.RegionCalls
import Derived.Deep.RegionWith
import Derived.Deep.RegionHeld3
import Derived.OwnWalk
namespace Go.Proofs.YtclamhhgldkhnaaGreatDoor
open Go.RowKit
set_option linter.unusedVariables false
set_option maxHeartbeats 16000000
def Zrv (b:List Int) (v':Value) (w':World):Prop :=
 (stop b=b.length∧v'=.tuple #[.string ⟨(utf (chs b)).toArray⟩,.int .i64 0,.int .i64 0])∨(stop b<b.length∧v'=.tuple #[.string ⟨#[]⟩,.int .i64 (stop b),.int .i64 20])
def Upto (b:List Int) (k:Nat) (pre:List Int):Prop :=
 k≤b.length∧(mu pre).length=k∧(∀ c∈pre,Sc c)∧chs b=pre++chs (b.drop k)
theorem Upto.le {b:List Int} {k:Nat} {pre:List Int} (h:Upto b k pre):k≤b.length:=h.1
theorem Upto.len {b:List Int} {k:Nat} {pre:List Int} (h:Upto b k pre):(mu pre).length=k:=h.2.1
theorem Upto.sc {b:List Int} {k:Nat} {pre:List Int} (h:Upto b k pre):∀ c∈pre,Sc c:=h.2.2.1
theorem Upto.all {b:List Int} {k:Nat} {pre:List Int} (h:Upto b k pre):chs b=pre++chs (b.drop k):=h.2.2.2
theorem Upto.start (b:List Int):Upto b 0 []:=⟨Nat.zero_le _,rfl,(fun c hc=>by cases hc),rfl⟩
theorem Upto.next {b:List Int} {k:Nat} {pre:List Int} (h:Upto b k pre) (hf:Fit .u8 b) {c:Int} {m:Nat} (hn:ZaK (b.drop k)=(c,m)) (hm:m≠0):Upto b (k+m) (pre++[c])∧Sc c:=by
 have hn':(ZaK (b.drop k)).2≠0:=by rw [hn];exact hm
 obtain⟨s1,s2,s3⟩:=ZcW (hf.drop k) hn'
 have s4:=ZfL (hf.drop k) hn'
 have e:=Zh2 hn'
 rw [hn] at s1 s2 s4 e
 dsimp only at s1 s2 s4 e
 rw [List.length_drop] at s2
 have:=h.le
 refine⟨⟨by omega,by rw [Zgo,List.length_append,h.len,s4],fun d hd=>?_,?_⟩,s1⟩
 ·rcases List.mem_append.1 hd with hd | hd
  ·exact h.sc d hd
  ·rw [List.mem_singleton.1 hd];exact s1
 ·rw [h.all,e,List.drop_drop]
  simp
theorem Upto.fail {b:List Int} {k:Nat} {pre:List Int} (h:Upto b k pre) (hk:k<b.length) (hn:(ZaK (b.drop k)).2=0):stop b=k∧stop b<b.length:=by
 have e:=h.all
 rw [ZkK hn,List.append_nil] at e
 have:stop b=k:=by unfold stop;rw [e,h.len]
 exact⟨this,by omega⟩
theorem Upto.done {b:List Int} {k:Nat} {pre:List Int} (h:Upto b k pre) (hk:¬ k<b.length):stop b=b.length∧chs b=pre:=by
 have e:=h.all
 rw [List.drop_eq_nil_iff.2 (by omega),ZjR,List.append_nil] at e
 have:=h.le
 exact⟨by unfold stop;rw [e,h.len];omega,e⟩
theorem Upto.small {b:List Int} {k:Nat} {pre:List Int} (h:Upto b k pre):(utf pre).length≤k:=by
 have:=(Zq3 h.sc).1
 rw [h.len] at this
 exact this
set_option maxRecDepth 100000 in
theorem Zjx (v:Value) (b:List Int) (w:World) (h:Row w .u8 v b) (hl:b.length+4≤140737488355328) :
 Calls Tryz.prog 239 #[v] w (Ret w (Zrv b)):=by
 have hf:=h.fit
 have hk:=h
 obtain⟨A,c,rfl,hbc,hcm,-,-,-⟩:=hk
 unfold maxLen at hcm
 have HF:=Lh hf
 clear hf
 obtain⟨n,hn⟩:∃ n,b.length=n:=⟨_,rfl⟩
 have hbld:BldP w.heap.size w.heap.size [] (w.alloc (.cells #[.pointer none,.slice none 0 0] 96)):=Lib.fresh_isBuilder 96 5 w
 rw [hn] at hbc hl
 have HN:=Lh hn
 rw [HN.out] at h ⊢
 clear hn
 go_enter Tryz.func239,Tryz.ntmps239
 go_wp2
 go_loopw [3] (fun at' wr=>∃ (k:Nat) (pre:List Int),at'=.int .i64 k∧k≤n∧Ext w wr∧BldP w.heap.size w.heap.size (utf pre) wr∧Hid (Upto b k pre)) (fun at' _=>n-(intOf at').toNat)
 case atStart=>exact⟨0,[],rfl,by omega,(Ext.refl w).alloc _,hbld,Lh (Upto.start b)⟩
 case round =>
  obtain⟨k,pre,rfl,hkn,hx,hB,HU⟩:=hrel
  have hwr:w.heap.size≤wr.heap.size:=hx.size
  by_cases hlt:k<n
  ·obtain⟨v3,ht1,ht2,ht⟩:=ZbT h k (by rw [HN.out];exact hkn)
   obtain⟨c1,hc1⟩:∃ c1,(ZaK (b.drop k)).1=c1:=⟨_,rfl⟩
   obtain⟨m,hm⟩:∃ m,(ZaK (b.drop k)).2=m:=⟨_,rfl⟩
   have hne:ZaK (b.drop k)=(c1,m):=by rw [← hc1,← hm]
   have HC:=Lh hne
   clear hc1 hm hne
   have hsm:(utf pre).length≤k:=HU.out.small
   by_cases hm0:m=0
   ·subst hm0
    go_wp2_with fail
    refine(Zku v3 (b.drop k) _ (by exact ht.ext hx)).mono ?_
    rw [HC.out]
    rintro e w2 ⟨rfl,he2⟩
    have hs:=HU.out.fail (by rw [HN.out];exact hlt) (by rw [HC.out])
    have HS:=Lh hs
    clear hs
    go_wp2
    go_ret3
    exact Ret.mk (.inr ⟨HS.out.2,by rw [HS.out.1];rfl⟩) (hx.trans he2)
   ·have hmb:((m:Int)==0)=false:=by simp;omega
    obtain⟨hu2,hsc⟩:=HU.out.next HF.out HC.out hm0
    have HU2:=Lh hu2
    have hkm:k+m≤n:=by have:=hu2.le;have:=HN.out;omega
    have hc0:=hsc.lo
    have hc9:=hsc.hi
    have hm1:1≤m:=by omega
    clear hu2 hm0 hsc
    go_wp2_with fail
    refine(Zku v3 (b.drop k) _ (by exact ht.ext hx)).mono ?_
    rw [HC.out]
    rintro e w2 ⟨rfl,he2⟩
    have hB2:BldP w.heap.size w.heap.size (utf pre) w2:=ZpR hB he2
    have x2:Ext w w2:=hx.trans he2
    go_wp2_with fail
    refine(ZhO w.heap.size w.heap.size (utf pre) c1 _ hB2 hc0 hc9 (by omega) x2.size).mono ?_
    rintro e w3 ⟨⟨nn,rfl⟩,hB3,hb3⟩
    have x3:Ext w w3:=Below.trans x2 hb3
    go_wp2
    go_roundw
    case rel=>exact⟨k+m,pre++[c1],by go_num,hkm,x3,by rw [Zpn];exact hB3,HU2⟩
    case measure=>simp [intOf];omega
  ·have hs:=HU.out.done (by rw [HN.out];exact hlt)
   have HS:=Lh hs
   clear hs
   go_wp2_with fail
   refine(Tryz.Builder_String_any w.heap.size w.heap.size (utf pre) _ hB hwr).mono ?_
   rintro e w2 ⟨rfl,hb2⟩
   go_wp2
   go_ret3
   exact Ret.mk (.inl ⟨by rw [HS.out.1,HN.out],by rw [HS.out.2];rfl⟩) (Below.trans hx hb2)
def decT (p:List Int):ByteArray × Int:=if stop p=p.length then (⟨(utf (chs p)).toArray⟩,0) else (.empty,20)
def rdTP (l:List Int) (e:Int):ByteArray × List Int × Int :=
 if ¬ (rdU l e).2.2=0 then (.empty,(rdU l e).2.1,(rdU l e).2.2)
 else if ((rdU l e).2.1.length:Int)<(rdU l e).1 then (.empty,(rdU l e).2.1,3)
 else ((decT ((rdU l e).2.1.take (rdU l e).1.toNat)).1,(rdU l e).2.1.drop (rdU l e).1.toNat,(decT ((rdU l e).2.1.take (rdU l e).1.toNat)).2)
theorem Zq6 {l:List Int} (h:(tU l).2.2=0):0≤(tU l).1∧(tU l).1≤9007199254740991:=by
 have h1:=(ZmL h).1
 unfold uS at h1
 by_cases hc:(tU l).1<0∨9007199254740991<(tU l).1
 ·rw [if_pos hc] at h1
  have:=congrArg Prod.snd h1
  simp at this
 ·omega
theorem Zsn {l:List Int} {e:Int} (h:(rdU l e).2.2=0):0≤(rdU l e).1∧(rdU l e).1≤9007199254740991:=by
 unfold rdU at h ⊢
 split
 ·rename_i h0
  rw [if_pos h0] at h
  exact Zq6 h
 ·exact⟨Int.le_refl _,by simp⟩
def encC (x:Cst):List Int :=
 x.k :: (if x.k=1 then dg 1 10 (encZ x.t.data.toList).length++encZ x.t.data.toList else if x.k=2∨x.k=3 then dg 2 10 x.n else if x.k=4 then dg 1 10 x.a else dg 1 10 x.a++dg 1 10 x.b++dg 1 10 x.c)
def Za1 (l:List Cst) (k:Nat):List Int:=dg 1 10 l.length++((l.take k).drop 1).flatMap encC
def Zbd (l:List Cst):List Int:=Za1 l l.length
theorem ZfK (l:List Cst):Za1 l 1=dg 1 10 l.length:=by
 unfold Za1
 rw [List.drop_eq_nil_iff.2 (by rw [List.length_take];omega)]
 simp
theorem ZeV {l:List Cst} {k:Nat} (h1:1≤k) (h:k<l.length):Za1 l (k+1)=Za1 l k++encC (gc l k):=by
 unfold Za1
 rw [ZcF h,List.drop_append_of_le_length (by rw [List.length_take];omega),List.flatMap_append,List.append_assoc]
 simp
theorem Zhv {l:List Cst} {k m:Nat} (h1:1≤k) (h:k≤m):(Za1 l k).length≤(Za1 l m).length:=by
 induction m with
 | zero=>omega
 | succ m ih =>
  by_cases hk:k=m+1
  ·rw [hk];exact Nat.le_refl _
  ·have h2:=ih (by omega)
   by_cases hm:m<l.length
   ·rw [ZeV (by omega) hm,List.length_append]
    omega
   ·have e:Za1 l (m+1)=Za1 l m:=by
     unfold Za1
     rw [List.take_of_length_le (by omega),List.take_of_length_le (by omega)]
    rw [e]
    exact h2
theorem Zbt (n:Int) (w:World) (h0:0≤n) (h1:n≤9007199254740991) :
 Calls Tryz.prog 117 #[.int .i64 n] w (Ret w (fun v w'=>Own w.heap.size w' 5 .u8 v (dg 1 10 n))):=by
 have HU:=Lh (ZlH h0 h1)
 go_enter Tryz.func117,Tryz.ntmps117
 go_wp2_with fail
 refine(Zk2 n _ (by omega) (by omega)).mono ?_
 rw [HU.out]
 rintro e w1 ⟨v1,rfl,⟨b1,rfl,ho1⟩,he1⟩
 go_wp2
 go_ret
 exact Ret.mk ho1 he1
def ZkC (w:World) (l:List Cst) (v:Value) (w':World):Prop :=
 (ZaD l=0∧∃ b,v=.tuple #[b,.int .i64 0]∧Own w.heap.size w' 5 .u8 b (Zbd l))∨(¬ ZaD l=0∧v=.tuple #[.slice none 0 0,.int .i64 (ZaD l)])
theorem Zb8 {l:List Cst} (h:ZaD l=0):l.length≤4096∧0<l.length∧Ziq l:=by
 by_cases h1:4096<l.length
 ·rw [ZdL h1] at h;cases h
 ·by_cases h2:l=[]
  ·rw [h2,checkC_nil] at h;cases h
  ·refine⟨by omega,List.length_pos_iff.2 h2,?_⟩
   by_cases h3:Ziq l
   ·exact h3
   ·rw [Zb9 (by omega) h3] at h;cases h
theorem Row.one (w:World) (T:TypeId) (g:Nat) (x:Int) (hx:(Lit.int .u8 x).wf=true) (hg:g=w.heap.size):Row (w.alloc (.cells #[.int .u8 x] T)) .u8 (.slice (some ⟨g,0,none⟩) 1 1) [x]:=by
 subst hg
 exact Row.built1 w .u8 T x hx
theorem ZaY {w wr w3:World} {B:Nat} {e T:TypeId} {k:IntKind} {v:Value} {p:List Int} {y:Cst} {o:Obj} (ho:Own B wr e k v p) (hx:Ext w wr) (hB:w.heap.size≤B) (hg:((wr.alloc (.cells y.vals T)).alloc o).grownBy w3 v.ownBlock) :
 At0 w3 wr.heap.size y∧wr.heap.size<w3.heap.size∧Ext w w3:=by
 have hs:=hg.size
 simp at hs
 refine⟨At0.of (T:=T) ?_,by omega,((hx.alloc _).alloc _).grown hg (fun g hgb=>Nat.le_trans hB (ho.low g hgb))⟩
 rw [hg.block wr.heap.size (by simp;omega) (fun e=>by have:=ho.high _ e.symm;omega)]
 rw [heap_alloc_old _ _ (by simp),heap_alloc_new]
theorem Zd4 {v v':Value} {g:Nat} {w:World} (h:v.ownBlock≠some g) (hb:v'.ownBlock=v.ownBlock∨v'.ownBlock=some w.heap.size) (hlt:g<w.heap.size):v'.ownBlock≠some g:=by
 rcases hb with hb | hb
 ·rw [hb];exact h
 ·rw [hb];intro e;injection e with e;omega
theorem Zkw {B:Nat} {w w0:World} {e:TypeId} {k:IntKind} {v v':Value} {p:List Int} (ho:Own B w e k v p) (hb:v'.ownBlock=v.ownBlock∨v'.ownBlock=some w0.heap.size) (hlt:w.heap.size<w0.heap.size):v'.ownBlock≠some w.heap.size :=
 Zd4 (fun e=>by have:=ho.high _ e;omega) hb hlt
theorem ZcH {P:Program} {ops:Array Oper} {o:Oper} {a:Act} {w:World} {K:Act→World→Prop} {Q:Exit→Act→World→Prop} {E:Prop} (hgd:o.guard=none) (s y:Operand) (B:Nat) (t e:TypeId) (z:Value) (bytes:Nat) (k:IntKind)
 (hop:o.op=.call { callee:=.builtin .append,args:=#[s,y],argTypes:=#[t,t] }) (ht:P.underlying t=some (.slice e))
 (hi:(P.info? e).map (fun i=>(i.zero,i.size,i.bytes))=some (some z,1,bytes)) (hz:z.cells.size=1) (hb1:1≤bytes)
 (v:Value) (l:List Int) (hs:a.eval s=v) (ho:Own B w e k v l) (x:Value) (m:List Int) (hx:a.eval y=x) (hr:Row w k x m)
 (hb:(l.length+m.length)*bytes≤140737488355328) (hB:B≤w.heap.size)
 (h:∀ v' w',Own B w' e k v' (l++m)→w.grownBy w' v.ownBlock→(v'.ownBlock=v.ownBlock∨v'.ownBlock=some w.heap.size)→K (a.put o.dst v') w') :
 if Region.wanted o (yielded ops a.tmps)=true then Oper.wp P o a w K Q else E:=by
 have hw:Region.wanted o (yielded ops a.tmps)=true:=by simp [Region.wanted,hgd]
 rw [if_pos hw]
 obtain⟨v',w',hrun,h2,h3,h4⟩:=run_app (P:=P) w B t o.type e z bytes k ht hi hz v l ho x m hr hb hb1 hB
 unfold Oper.wp execOp
 simp only [hop,resolve,invoke,builtin,Sem.run_bind,Sem.run_pure,Result.andThen_ok,List.map_toArray,List.map_cons,List.map_nil,hs,hx,hrun]
 exact h v' w' h2 h3 h4
set_option maxRecDepth 100000 in
theorem Zir (v:Value) (l:List Cst) (w:World) (h:RowC w v l) (hT:Tabs w) (hR:Room l) (hZ:ZaD l=0→(Zbd l).length≤140737488355328) :
 Calls Tryz.prog 65 #[v] w (Ret w (ZkC w l)):=by
 have hrow:=h
 obtain⟨A,cp,rfl,h2,h3,h4,h5,h6⟩:=h
 unfold maxLen at h3
 by_cases hC:ZaD l=0
 ·obtain⟨hl,hl0,hall⟩:=Zb8 hC
  have hz:=hZ hC
  have HC:=Lh hC
  obtain⟨bl,o,rfl,hbl,hc⟩:=h6 (by omega)
  obtain⟨n,hn⟩:∃ n,n=l.length:=⟨_,rfl⟩
  have HN:=Lh hn
  rw [← hn] at hrow hl hl0 hc
  rw [← hn]
  clear hn h2 h4 h6 hC
  go_enter Tryz.func65,Tryz.ntmps65
  go_wp2_with fail
  refine(ZcO _ l _ (by exact hrow) hT hR).mono ?_
  rw [HC.out]
  rintro e w1 ⟨rfl,x1⟩
  go_wp2_with fail
  refine(Zbt n _ (by omega) (by omega)).mono ?_
  rintro e w2 ⟨v2,rfl,ho2,x2⟩
  have ho:Own w.heap.size w2 5 .u8 v2 (Za1 l 1):=by
   rw [ZfK,← HN.out]
   exact ho2.base x1.size
  have x:Ext w w2:=x1.trans x2
  clear ho2 x1 x2
  go_wp2
  go_loopw [5,6] (fun v i wr=>∃ k:Nat,i=.int .i64 k∧1≤k∧k≤n∧Own w.heap.size wr 5 .u8 v (Za1 l k)∧Ext w wr) (fun _ i _=>n-(intOf i).toNat)
  case atStart=>exact⟨1,rfl,by omega,by omega,ho,x⟩
  case round =>
   clear ho x
   obtain⟨k,rfl,hk1,hkn,ho,hx⟩:=hrel
   by_cases hlt:k<n
   ·have hmay:=hall.2 k hk1 (by rw [← HN.out];exact hlt)
    have hok:=ZhQ h5 k
    have hE:=Lh (ZeV hk1 (show k<l.length by rw [← HN.out];exact hlt))
    have hL:=Zhv (l:=l) (k:=k+1) (m:=l.length) (by omega) (by rw [← HN.out];omega)
    have hrm:=hR.at_ (j:=k) (by rw [← HN.out];exact hlt)
    obtain⟨y,hy⟩:∃ y,gc l k=y:=⟨_,rfl⟩
    have at6:=(hc k hlt).ext hx hbl
    rw [hy] at hmay hok hE hrm at6
    have HY:=Lh hy
    obtain⟨kk,t,n1,a,b,c⟩:=y
    obtain⟨a0,a1,a2,a3,a4,a5⟩:=at6
    simp only at a0 a1 a2 a3 a4 a5 hrm
    obtain⟨-,ok_n,ok_a,ok_b,ok_c⟩:=hok
    simp only at ok_n ok_a ok_b ok_c
    have hm:=of_decide_eq_true hmay
    unfold MayC at hm
    simp only at hm
    clear hy hmay hc
    rcases hm with⟨rfl,hm⟩ | ⟨rfl,hm⟩ | ⟨rfl,hm⟩ | ⟨rfl,hm⟩ | ⟨hk56,hm⟩
    ·obtain⟨rfl,rfl,rfl,rfl,hvv⟩:=hm
     have hbd:(Za1 l k).length+(encC ⟨1,t,0,0,0,0⟩).length≤140737488355328:=by
      have h1:=hE.out
      have h2:(Za1 l l.length).length≤140737488355328:=hz
      rw [h1,List.length_append] at hL
      omega
     simp [encC] at hbd
     go_wp2_with (at_builtin;go_loud (refine wpList_app _ rfl _ _ w.heap.size 29 5 _ 1 .u8 rfl Tryz.underlying29 Zaq rfl (by omega) _ (Za1 l k) rfl (ho.ext (((Ext.refl _).alloc _).alloc _)) _ [1] rfl (Row.one _ _ _ 1 (Zbp (by omega) (by omega)) (by simp)) (by simp only [List.length_singleton];omega) (by have:=hx.size;simp;omega) ?_);intro v3 w3 ho3 hg3 _;obtain⟨at0,hg0,x3⟩:=ZaY (y:=⟨1,t,0,0,0,0⟩) ho hx (Nat.le_refl _) hg3;obtain⟨z0,z1,z2,z3,z4,z5⟩:=at0;simp only at z0 z1 z2 z3 z4 z5)
     clear hg3 ho a0 a1 a2 a3 a4 a5
     go_wp2_with fail
     refine(ZdV t _ (hT.ext x3) hrm.1 hrm.2).mono ?_
     rintro e w4 ⟨v4,rfl,ha,x4⟩
     rcases ha with⟨hv,v5,rfl,ho5⟩ | ⟨hv,_⟩
     ·obtain⟨A5,c5,hv5,_⟩:=ho5.row
      subst hv5
      have HV:=Lh hv
      clear hv
      go_wp2_with fail
      refine(Zbt _ _ (by omega) (by omega)).mono ?_
      rintro e w6 ⟨v6,rfl,ho6,x6⟩
      go_wp2_with (first
       | (at_builtin;refine wpList_app _ rfl _ _ w.heap.size 29 5 _ 1 .u8 rfl Tryz.underlying29 Zaq rfl (by omega) v3 _ rfl (ho3.ext (x4.trans x6)) v6 (dg 1 10 (encZ t.data.toList).length) rfl ho6.row (by rw [List.length_append,List.length_singleton];omega) (by have:=((x3.trans x4).trans x6).size;omega) ?_;intro v7 w7 ho7 hg7 hb7)
       | (at_builtin;go_loud (refine wpList_app _ rfl _ _ w.heap.size 29 5 _ 1 .u8 rfl Tryz.underlying29 Zaq rfl (by omega) v7 _ rfl ho7 (.slice A5 _ c5) (encZ t.data.toList) rfl ((ho5.row.ext x6).kept hg7 (fun g hgb=>fun e=>by have:=ho5.low _ hgb;have:=ho3.high _ e;omega)) (by rw [List.length_append,List.length_append,List.length_singleton];omega) (by have:=((x3.trans x4).trans x6).size;have:=hg7.size;omega) ?_);intro v8 w8 ho8 hg8 _;have x8:Ext w w8:=(((x3.trans x4).trans x6).grown hg7 ho3.low).grown hg8 ho7.low))
      clear hg7 hg8 ho3 ho5 ho6 ho7 x3 x4 x6
      go_roundw
      case rel =>
       refine⟨k+1,by go_num,by omega,by omega,?_,x8⟩
       rw [hE.out,encC]
       simpa using ho8
      case measure=>simp [intOf];omega
     ·exact absurd (hv.symm.trans hvv) (by simp)
    ·have hbd:(Za1 l k).length+(encC ⟨2,t,n1,a,b,c⟩).length≤140737488355328:=by
      have h1:=hE.out
      have h2:(Za1 l l.length).length≤140737488355328:=hz
      rw [h1,List.length_append] at hL
      omega
     simp [encC] at hbd
     clear hm
     go_wp2_with (at_builtin;go_loud (refine wpList_app _ rfl _ _ w.heap.size 29 5 _ 1 .u8 rfl Tryz.underlying29 Zaq rfl (by omega) _ (Za1 l k) rfl (ho.ext (((Ext.refl _).alloc _).alloc _)) _ [2] rfl (Row.one _ _ _ 2 (Zbp (by omega) (by omega)) (by simp)) (by simp only [List.length_singleton];omega) (by have:=hx.size;simp;omega) ?_);intro v3 w3 ho3 hg3 _;obtain⟨at0,hg0,x3⟩:=ZaY (y:=⟨2,t,n1,a,b,c⟩) ho hx (Nat.le_refl _) hg3;obtain⟨z0,z1,z2,z3,z4,z5⟩:=at0;simp only at z0 z1 z2 z3 z4 z5)
     clear hg3 ho a0 a1 a2 a3 a4 a5
     go_wp2_with fail
     refine(Zkt n1 _ ok_n.1 ok_n.2).mono ?_
     rintro e w4 ⟨v4,rfl,ho4,x4⟩
     go_wp2_with (at_builtin;go_loud (refine wpList_app _ rfl _ _ w.heap.size 29 5 _ 1 .u8 rfl Tryz.underlying29 Zaq rfl (by omega) v3 _ rfl (ho3.ext x4) v4 (dg 2 10 n1) rfl ho4.row (by rw [List.length_append,List.length_singleton];omega) (by have:=(x3.trans x4).size;omega) ?_);intro v5 w5 ho5 hg5 _;have x5:Ext w w5:=(x3.trans x4).grown hg5 ho3.low)
     clear hg5 ho3 ho4 x3 x4
     go_roundw
     case rel =>
      refine⟨k+1,by go_num,by omega,by omega,?_,x5⟩
      rw [hE.out,encC]
      simpa using ho5
     case measure=>simp [intOf];omega
    ·have hbd:(Za1 l k).length+(encC ⟨3,t,n1,a,b,c⟩).length≤140737488355328:=by
      have h1:=hE.out
      have h2:(Za1 l l.length).length≤140737488355328:=hz
      rw [h1,List.length_append] at hL
      omega
     simp [encC] at hbd
     clear hm
     go_wp2_with (at_builtin;go_loud (refine wpList_app _ rfl _ _ w.heap.size 29 5 _ 1 .u8 rfl Tryz.underlying29 Zaq rfl (by omega) _ (Za1 l k) rfl (ho.ext (((Ext.refl _).alloc _).alloc _)) _ [3] rfl (Row.one _ _ _ 3 (Zbp (by omega) (by omega)) (by simp)) (by simp only [List.length_singleton];omega) (by have:=hx.size;simp;omega) ?_);intro v3 w3 ho3 hg3 _;obtain⟨at0,hg0,x3⟩:=ZaY (y:=⟨3,t,n1,a,b,c⟩) ho hx (Nat.le_refl _) hg3;obtain⟨z0,z1,z2,z3,z4,z5⟩:=at0;simp only at z0 z1 z2 z3 z4 z5)
     clear hg3 ho a0 a1 a2 a3 a4 a5
     go_wp2_with fail
     refine(Zkt n1 _ ok_n.1 ok_n.2).mono ?_
     rintro e w4 ⟨v4,rfl,ho4,x4⟩
     go_wp2_with (at_builtin;go_loud (refine wpList_app _ rfl _ _ w.heap.size 29 5 _ 1 .u8 rfl Tryz.underlying29 Zaq rfl (by omega) v3 _ rfl (ho3.ext x4) v4 (dg 2 10 n1) rfl ho4.row (by rw [List.length_append,List.length_singleton];omega) (by have:=(x3.trans x4).size;omega) ?_);intro v5 w5 ho5 hg5 _;have x5:Ext w w5:=(x3.trans x4).grown hg5 ho3.low)
     clear hg5 ho3 ho4 x3 x4
     go_roundw
     case rel =>
      refine⟨k+1,by go_num,by omega,by omega,?_,x5⟩
      rw [hE.out,encC]
      simpa using ho5
     case measure=>simp [intOf];omega
    ·have hbd:(Za1 l k).length+(encC ⟨4,t,n1,a,b,c⟩).length≤140737488355328:=by
      have h1:=hE.out
      have h2:(Za1 l l.length).length≤140737488355328:=hz
      rw [h1,List.length_append] at hL
      omega
     simp [encC] at hbd
     obtain⟨j4,hj4,hj41,hj42,-⟩:=Zjb hm.2.2.2.2
     have ha0:0≤a:=by omega
     have ha1:a≤4096:=by have:=HN.out;omega
     clear hm hj4
     go_wp2_with (at_builtin;go_loud (refine wpList_app _ rfl _ _ w.heap.size 29 5 _ 1 .u8 rfl Tryz.underlying29 Zaq rfl (by omega) _ (Za1 l k) rfl (ho.ext (((Ext.refl _).alloc _).alloc _)) _ [4] rfl (Row.one _ _ _ 4 (Zbp (by omega) (by omega)) (by simp)) (by simp only [List.length_singleton];omega) (by have:=hx.size;simp;omega) ?_);intro v3 w3 ho3 hg3 _;obtain⟨at0,hg0,x3⟩:=ZaY (y:=⟨4,t,n1,a,b,c⟩) ho hx (Nat.le_refl _) hg3;obtain⟨z0,z1,z2,z3,z4,z5⟩:=at0;simp only at z0 z1 z2 z3 z4 z5)
     clear hg3 ho a0 a1 a2 a3 a4 a5
     go_wp2_with fail
     refine(Zbt a _ (by omega) (by omega)).mono ?_
     rintro e w4 ⟨v4,rfl,ho4,x4⟩
     go_wp2_with (at_builtin;go_loud (refine wpList_app _ rfl _ _ w.heap.size 29 5 _ 1 .u8 rfl Tryz.underlying29 Zaq rfl (by omega) v3 _ rfl (ho3.ext x4) v4 (dg 1 10 a) rfl ho4.row (by rw [List.length_append,List.length_singleton];omega) (by have:=(x3.trans x4).size;omega) ?_);intro v5 w5 ho5 hg5 _;have x5:Ext w w5:=(x3.trans x4).grown hg5 ho3.low)
     clear hg5 ho3 ho4 x3 x4
     go_roundw
     case rel =>
      refine⟨k+1,by go_num,by omega,by omega,?_,x5⟩
      rw [hE.out,encC]
      simpa using ho5
     case measure=>simp [intOf];omega
    ·obtain⟨j4,hj4,hj41,hj42,-⟩:=Zjb hm.2.2.1
     obtain⟨j5,hj5,hj51,hj52,-⟩:=Zjb hm.2.2.2.1
     obtain⟨j6,hj6,hj61,hj62,-⟩:=Zjb hm.2.2.2.2
     have ha0:0≤a:=by omega
     have ha1:a≤4096:=by have:=HN.out;omega
     have hb0:0≤b:=by omega
     have hb1:b≤4096:=by have:=HN.out;omega
     have hc0:0≤c:=by omega
     have hc1:c≤4096:=by have:=HN.out;omega
     clear hm hj4 hj5 hj6
     rcases hk56 with rfl | rfl
     ·have hbd:(Za1 l k).length+(encC ⟨5,t,n1,a,b,c⟩).length≤140737488355328:=by
       have h1:=hE.out
       have h2:(Za1 l l.length).length≤140737488355328:=hz
       rw [h1,List.length_append] at hL
       omega
      simp [encC] at hbd
      go_wp2_with (at_builtin;go_loud (refine wpList_app _ rfl _ _ w.heap.size 29 5 _ 1 .u8 rfl Tryz.underlying29 Zaq rfl (by omega) _ (Za1 l k) rfl (ho.ext (((Ext.refl _).alloc _).alloc _)) _ [5] rfl (Row.one _ _ _ 5 (Zbp (by omega) (by omega)) (by simp)) (by simp only [List.length_singleton];omega) (by have:=hx.size;simp;omega) ?_);intro v3 w3 ho3 hg3 hb3;have ne3:=Zkw ho hb3 (by simp;omega);obtain⟨at0,hg0,x3⟩:=ZaY (y:=⟨5,t,n1,a,b,c⟩) ho hx (Nat.le_refl _) hg3;have at0':=at0;obtain⟨z0,z1,z2,z3,z4,z5⟩:=at0;simp only at z0 z1 z2 z3 z4 z5)
      clear hg3 hb3 ho a0 a1 a2 a3 a4 a5
      have hgz3:=hg0
      have at3:=at0'
      have xx3:=x3
      clear at0' hg0 x3
      go_wp2_with fail
      go_region_held3 (fun w'=>w'.cell? ⟨wr.heap.size,3,none⟩=some (.int .i64 a)∧w'.cell? ⟨wr.heap.size,4,none⟩=some (.int .i64 b)∧w'.cell? ⟨wr.heap.size,5,none⟩=some (.int .i64 c)) (first | go_keep | (refine⟨?_,?_,?_⟩ <;> assumption)) (first
       | (go_at_call 117;((with_reducible refine(Zbt a _ (by omega) (by omega)).mono ?_);rintro e w4 ⟨v4,rfl,ho4,x4'⟩);have x4:=((Ext.refl w3).drew).trans x4';have at4:=at3.ext x4 hgz3;have hgz4:wr.heap.size<w4.heap.size:=Nat.lt_of_lt_of_le hgz3 x4.size;obtain⟨-,-,-,z43,z44,z45⟩:=id at4;simp only at z43 z44 z45)
       | ((refine ZcH rfl _ _ w.heap.size 29 5 _ 1 .u8 rfl Tryz.underlying29 Zaq rfl (by omega) v3 _ rfl (ho3.ext x4) v4 (dg 1 10 a) rfl ho4.row (by simp only [List.length_append,List.length_singleton];omega) (by have:=(xx3.trans x4).size;omega) ?_);intro v5 w5 ho5 hgr5 hb5;have ne5:=Zd4 ne3 hb5 hgz4;have at5:=at4.grown hgr5 hgz4 ne3;have hgz5:wr.heap.size<w5.heap.size:=Nat.lt_of_lt_of_le hgz4 hgr5.size;have xx5:Ext w w5:=(xx3.trans x4).grown hgr5 ho3.low;obtain⟨-,-,-,z53,z54,z55⟩:=id at5;simp only at z53 z54 z55)
       | (go_at_call 117;((with_reducible refine(Zbt b _ (by omega) (by omega)).mono ?_);rintro e w6 ⟨v6,rfl,ho6,x6⟩);have at6:=at5.ext x6 hgz5;have hgz6:wr.heap.size<w6.heap.size:=Nat.lt_of_lt_of_le hgz5 x6.size;obtain⟨-,-,-,z63,z64,z65⟩:=id at6;simp only at z63 z64 z65)
       | ((refine ZcH rfl _ _ w.heap.size 29 5 _ 1 .u8 rfl Tryz.underlying29 Zaq rfl (by omega) v5 _ rfl (ho5.ext x6) v6 (dg 1 10 b) rfl ho6.row (by simp only [List.length_append,List.length_singleton];omega) (by have:=(xx5.trans x6).size;omega) ?_);intro v7 w7 ho7 hgr7 hb7;have ne7:=Zd4 ne5 hb7 hgz6;have at7:=at6.grown hgr7 hgz6 ne5;have hgz7:wr.heap.size<w7.heap.size:=Nat.lt_of_lt_of_le hgz6 hgr7.size;have xx7:Ext w w7:=(xx5.trans x6).grown hgr7 ho5.low;obtain⟨-,-,-,z73,z74,z75⟩:=id at7;simp only at z73 z74 z75)
       | (go_at_call 117;((with_reducible refine(Zbt c _ (by omega) (by omega)).mono ?_);rintro e w8 ⟨v8,rfl,ho8,x8⟩);have at8:=at7.ext x8 hgz7;have hgz8:wr.heap.size<w8.heap.size:=Nat.lt_of_lt_of_le hgz7 x8.size;obtain⟨-,-,-,z83,z84,z85⟩:=id at8;simp only at z83 z84 z85)
       | ((refine ZcH rfl _ _ w.heap.size 29 5 _ 1 .u8 rfl Tryz.underlying29 Zaq rfl (by omega) v7 _ rfl (ho7.ext x8) v8 (dg 1 10 c) rfl ho8.row (by simp only [List.length_append,List.length_singleton];omega) (by have:=(xx7.trans x8).size;omega) ?_);intro v9 w9 ho9 hgr9 hb9;have ne9:=Zd4 ne7 hb9 hgz8;have at9:=at8.grown hgr9 hgz8 ne7;have hgz9:wr.heap.size<w9.heap.size:=Nat.lt_of_lt_of_le hgz8 hgr9.size;have xx9:Ext w w9:=(xx7.trans x8).grown hgr9 ho7.low;obtain⟨-,-,-,z93,z94,z95⟩:=id at9;simp only at z93 z94 z95))
      all_goals
       go_wp2
       go_roundw
       case rel =>
        refine⟨k+1,by go_num,by omega,by omega,?_,xx9⟩
        rw [hE.out,encC]
        simpa using ho9
       case measure=>simp [intOf];omega
     ·have hbd:(Za1 l k).length+(encC ⟨6,t,n1,a,b,c⟩).length≤140737488355328:=by
       have h1:=hE.out
       have h2:(Za1 l l.length).length≤140737488355328:=hz
       rw [h1,List.length_append] at hL
       omega
      simp [encC] at hbd
      go_wp2_with (at_builtin;go_loud (refine wpList_app _ rfl _ _ w.heap.size 29 5 _ 1 .u8 rfl Tryz.underlying29 Zaq rfl (by omega) _ (Za1 l k) rfl (ho.ext (((Ext.refl _).alloc _).alloc _)) _ [6] rfl (Row.one _ _ _ 6 (Zbp (by omega) (by omega)) (by simp)) (by simp only [List.length_singleton];omega) (by have:=hx.size;simp;omega) ?_);intro v3 w3 ho3 hg3 hb3;have ne3:=Zkw ho hb3 (by simp;omega);obtain⟨at0,hg0,x3⟩:=ZaY (y:=⟨6,t,n1,a,b,c⟩) ho hx (Nat.le_refl _) hg3;have at0':=at0;obtain⟨z0,z1,z2,z3,z4,z5⟩:=at0;simp only at z0 z1 z2 z3 z4 z5)
      clear hg3 hb3 ho a0 a1 a2 a3 a4 a5
      have hgz3:=hg0
      have at3:=at0'
      have xx3:=x3
      clear at0' hg0 x3
      go_wp2_with fail
      go_region_held3 (fun w'=>w'.cell? ⟨wr.heap.size,3,none⟩=some (.int .i64 a)∧w'.cell? ⟨wr.heap.size,4,none⟩=some (.int .i64 b)∧w'.cell? ⟨wr.heap.size,5,none⟩=some (.int .i64 c)) (first | go_keep | (refine⟨?_,?_,?_⟩ <;> assumption)) (first
       | (go_at_call 117;((with_reducible refine(Zbt a _ (by omega) (by omega)).mono ?_);rintro e w4 ⟨v4,rfl,ho4,x4'⟩);have x4:=((Ext.refl w3).drew).trans x4';have at4:=at3.ext x4 hgz3;have hgz4:wr.heap.size<w4.heap.size:=Nat.lt_of_lt_of_le hgz3 x4.size;obtain⟨-,-,-,z43,z44,z45⟩:=id at4;simp only at z43 z44 z45)
       | ((refine ZcH rfl _ _ w.heap.size 29 5 _ 1 .u8 rfl Tryz.underlying29 Zaq rfl (by omega) v3 _ rfl (ho3.ext x4) v4 (dg 1 10 a) rfl ho4.row (by simp only [List.length_append,List.length_singleton];omega) (by have:=(xx3.trans x4).size;omega) ?_);intro v5 w5 ho5 hgr5 hb5;have ne5:=Zd4 ne3 hb5 hgz4;have at5:=at4.grown hgr5 hgz4 ne3;have hgz5:wr.heap.size<w5.heap.size:=Nat.lt_of_lt_of_le hgz4 hgr5.size;have xx5:Ext w w5:=(xx3.trans x4).grown hgr5 ho3.low;obtain⟨-,-,-,z53,z54,z55⟩:=id at5;simp only at z53 z54 z55)
       | (go_at_call 117;((with_reducible refine(Zbt b _ (by omega) (by omega)).mono ?_);rintro e w6 ⟨v6,rfl,ho6,x6⟩);have at6:=at5.ext x6 hgz5;have hgz6:wr.heap.size<w6.heap.size:=Nat.lt_of_lt_of_le hgz5 x6.size;obtain⟨-,-,-,z63,z64,z65⟩:=id at6;simp only at z63 z64 z65)
       | ((refine ZcH rfl _ _ w.heap.size 29 5 _ 1 .u8 rfl Tryz.underlying29 Zaq rfl (by omega) v5 _ rfl (ho5.ext x6) v6 (dg 1 10 b) rfl ho6.row (by simp only [List.length_append,List.length_singleton];omega) (by have:=(xx5.trans x6).size;omega) ?_);intro v7 w7 ho7 hgr7 hb7;have ne7:=Zd4 ne5 hb7 hgz6;have at7:=at6.grown hgr7 hgz6 ne5;have hgz7:wr.heap.size<w7.heap.size:=Nat.lt_of_lt_of_le hgz6 hgr7.size;have xx7:Ext w w7:=(xx5.trans x6).grown hgr7 ho5.low;obtain⟨-,-,-,z73,z74,z75⟩:=id at7;simp only at z73 z74 z75)
       | (go_at_call 117;((with_reducible refine(Zbt c _ (by omega) (by omega)).mono ?_);rintro e w8 ⟨v8,rfl,ho8,x8⟩);have at8:=at7.ext x8 hgz7;have hgz8:wr.heap.size<w8.heap.size:=Nat.lt_of_lt_of_le hgz7 x8.size;obtain⟨-,-,-,z83,z84,z85⟩:=id at8;simp only at z83 z84 z85)
       | ((refine ZcH rfl _ _ w.heap.size 29 5 _ 1 .u8 rfl Tryz.underlying29 Zaq rfl (by omega) v7 _ rfl (ho7.ext x8) v8 (dg 1 10 c) rfl ho8.row (by simp only [List.length_append,List.length_singleton];omega) (by have:=(xx7.trans x8).size;omega) ?_);intro v9 w9 ho9 hgr9 hb9;have ne9:=Zd4 ne7 hb9 hgz8;have at9:=at8.grown hgr9 hgz8 ne7;have hgz9:wr.heap.size<w9.heap.size:=Nat.lt_of_lt_of_le hgz8 hgr9.size;have xx9:Ext w w9:=(xx7.trans x8).grown hgr9 ho7.low;obtain⟨-,-,-,z93,z94,z95⟩:=id at9;simp only at z93 z94 z95))
      all_goals
       go_wp2
       go_roundw
       case rel =>
        refine⟨k+1,by go_num,by omega,by omega,?_,xx9⟩
        rw [hE.out,encC]
        simpa using ho9
       case measure=>simp [intOf];omega
   ·have hkk:k=n:=by omega
    go_wp2
    go_ret2
    refine Ret.mk (.inl ⟨HC.out,_,rfl,?_⟩) hx
    unfold Zbd
    rw [← HN.out,← hkk]
    exact ho
 ·have HC:=Lh hC
  have hb:(ZaD l != 0)=true:=by simpa using hC
  clear h2 h4 h6 h5 hC
  go_enter Tryz.func65,Tryz.ntmps65
  go_wp2_with fail
  refine(ZcO _ l _ (by exact hrow) hT hR).mono ?_
  rintro e w1 ⟨rfl,x1⟩
  go_wp2
  go_ret2
  exact Ret.mk (.inr ⟨HC.out,rfl⟩) x1
def Zb5 (l:List Int):Cst × List Int × Int :=
 if l=[] then (c0,[],3)
 else if gi l 0=1 then (⟨1,(rdTP (l.drop 1) 0).1,0,0,0,0⟩,(rdTP (l.drop 1) 0).2)
 else if gi l 0=2∨gi l 0=3 then (⟨gi l 0,.empty,(rdS (l.drop 1) 0).1,0,0,0⟩,(rdS (l.drop 1) 0).2)
 else if gi l 0=4 then (⟨4,.empty,0,(rdU (l.drop 1) 0).1,0,0⟩,(rdU (l.drop 1) 0).2)
 else if gi l 0=5∨gi l 0=6 then
  (⟨
   gi l 0,.empty,0,(rdU (l.drop 1) 0).1,(rdU (rdU (l.drop 1) 0).2.1 (rdU (l.drop 1) 0).2.2).1,(rdU (rdU (rdU (l.drop 1) 0).2.1 (rdU (l.drop 1) 0).2.2).2.1 (rdU (rdU (l.drop 1) 0).2.1 (rdU (l.drop 1) 0).2.2).2.2).1⟩,
   (rdU (rdU (rdU (l.drop 1) 0).2.1 (rdU (l.drop 1) 0).2.2).2.1 (rdU (rdU (l.drop 1) 0).2.1 (rdU (l.drop 1) 0).2.2).2.2).2)
 else (⟨gi l 0,.empty,0,0,0,0⟩,l.drop 1,4)
theorem Zgv {B K:Nat} {w:World} {v:Value} {l:List Int} {s:ByteArray} {k:Nat} (h:Own B w 5 .u8 v l) (hit:w.heap[K]?=some (.stringIter s k)):∀ g,v.ownBlock=some g→g≠K:=by
 intro g hg e
 subst e
 rcases h.1.2 with⟨rfl,_⟩ | ⟨g',cap,cur,rfl,_,hgg,_⟩
 ·simp [Value.ownBlock] at hg
 ·simp [Value.ownBlock] at hg
  subst hg
  rw [hit] at hgg
  cases hgg
theorem ZlB (w:World) (K:Nat) (s:ByteArray) (p:Nat):w.grownBy (w.iterAt K s p) (some K) :=
 ⟨rfl,rfl,rfl,by rw [Lib.iterAt_size];exact Nat.le_refl _,fun k _ hne=>Lib.iterAt_other w K k s p (fun e=>hne (by rw [e]))⟩
set_option maxRecDepth 100000 in
theorem Zn5 (s:ByteArray) (w:World) (hT:Tabs w) (hs:s.size≤9223372036854775807) (hz:(encZ s.data.toList).length≤9223372036854775807) :
 Calls Tryz.prog 155 #[.string s] w (Ret w (ZsL s.data.toList)):=by
 have cV:=Tryz.utf8_ValidString s w hs hT
 obtain⟨vb,hvb⟩:∃ vb,Lib.validD s.data.toList=vb:=⟨_,rfl⟩
 rw [hvb] at cV
 have HV:=Lh hvb
 clear hvb
 cases vb
 ·go_enter Tryz.func155,Tryz.ntmps155
  go_wp2_with fail
  refine cV.mono ?_
  rintro e w1 ⟨rfl,he⟩
  go_wp2
  go_ret2
  exact Ret.mk (.inr ⟨HV.out,rfl⟩) he
 ·go_enter Tryz.func155,Tryz.ntmps155
  go_wp2_with fail
  refine cV.mono ?_
  rintro e w1 ⟨rfl,he⟩
  go_wp2
  go_loopw [4] (fun n wr=>∃ (k:Nat) (pre:List Int),n=.int .i64 (mu pre).length∧k≤s.size∧wr.heap[w1.heap.size]?=some (.stringIter s k)∧Ext w wr∧Hid (Zci s.data.toList=pre++Zci (s.data.toList.drop k))) (fun _ wr=>s.size-wr.iterPos w1.heap.size)
  case atStart =>
   refine⟨0,[],rfl,by omega,?_,?_,Lh rfl⟩
   ·have:=World.iter_heap w1 s 0
    simpa using this
   ·exact Ext.alloc he (.stringIter s 0)
  case round =>
   obtain⟨k,pre,rfl,hk,hit,hx,HR⟩:=hrel
   have hsz:w1.heap.size<wr.heap.size:=(Array.getElem?_eq_some_iff.1 hit).1
   have hsz1:w.heap.size≤w1.heap.size:=he.size
   by_cases hlt:k<s.size
   ·obtain⟨r,m,hd,hm1,hm2,hsc,hr,hv⟩:=ZhG s k hlt
    have hdec:Utf8.decode s k=(r,m):=by rw [ZdY,hd]
    have hnx:∀ ty,(Instr.next (.pointer (some ⟨w1.heap.size,0,none⟩)) true ty).run Tryz.prog wr=_:=fun ty=>Lib.run_next_any_at wr w1.heap.size s k ty hit hlt
    simp only [hdec] at hnx
    have hit2:=Lib.iterAt_heap wr w1.heap.size s k (k+m) hit
    have hx2:Ext w (wr.iterAt w1.heap.size s (k+m)):=Lib.below_iterAt hx hsz1 s (k+m)
    have HR2:=Lh (show Zci s.data.toList=(pre++[(r:Int)])++Zci (s.data.toList.drop (k+m)) by rw [HR.out,hr];simp)
    have hr1:(r:Int)≤1114111:=hsc.hi
    have hsum:(mu pre).length+(ch r).length≤9223372036854775807:=by
     unfold encZ at hz
     rw [HR.out,hr,Zny,Zd1,List.length_append,List.length_append] at hz
     omega
    have hlen:(mu (pre++[(r:Int)])).length=(mu pre).length+(ch r).length:=by rw [Zgo,List.length_append]
    have HL:=Lh hlen
    clear hd hdec hr hv hlen
    go_wp2_with (go_at_call 189;refine(ZlF r _ (by omega) hr1).mono ?_;rintro e w2 ⟨rfl,rfl⟩)
    go_roundw
    case rel=>exact⟨k+m,pre++[(r:Int)],by rw [HL.out];go_num,hm2,hit2,hx2,HR2⟩
    case measure =>
     simp only [World.iterPos,hit2,hit]
     omega
   ·have hnx:∀ ty,(Instr.next (.pointer (some ⟨w1.heap.size,0,none⟩)) true ty).run Tryz.prog wr=_:=fun ty=>Lib.run_next_end_at wr w1.heap.size s k ty hit hlt
    have hR:=HR.out
    rw [ZhA s k hlt,Zgi,List.append_nil] at hR
    have HE:=Lh (show encZ s.data.toList=mu pre by unfold encZ;rw [hR])
    clear hR
    go_wp2
    go_ret2
    exact Ret.mk (.inl ⟨HV.out,by rw [HE.out];rfl⟩) hx
set_option maxRecDepth 100000 in
theorem Zjy (s:ByteArray) (w:World) (hT:Tabs w) (hs:s.size≤9223372036854775807) (hz:(encZ s.data.toList).length≤140737488355328) :
 Calls Tryz.prog 110 #[.string s] w (Ret w (ZqI s.data.toList w.heap.size)):=by
 have c:=Zn5 s w hT hs (by omega)
 obtain⟨i8,hi8,hi1,hi2,hi3⟩:=info_parts Zaq
 go_enter Tryz.func110,Tryz.ntmps110
 go_wp2_with fail
 refine c.mono ?_
 rintro e w1 ⟨v1,rfl,⟨hv,rfl⟩ | ⟨hv,rfl⟩,he⟩
 ·have HV:=Lh hv
  clear hv
  have hsz1:w.heap.size≤w1.heap.size:=he.size
  obtain⟨N,hN⟩:∃ N,(encZ s.data.toList).length=N:=⟨_,rfl⟩
  rw [hN] at hz ⊢
  have HN:=Lh hN
  clear hN
  have hi4:i8.bytes=1:=hi3
  go_wp2_with (refine wpList_make_own _ rfl _ _ 29 rfl w.heap.size 5 i8 (.int .u8 0) 1 Tryz.underlying29 hi8 hi1 hi2 _ _ _ N rfl rfl rfl (by rw [hi4];omega) (by simp only [maxLen];omega) hsz1 ?_)
  intro w2 ho2 hg2
  have x2:Ext w w2:=he.grown hg2 (fun g hg=>by cases hg)
  have hsz2:w.heap.size≤w2.heap.size:=x2.size
  go_wp2
  go_loopw [6] (fun v wr=>∃ (k:Nat) (pre:List Int),k≤s.size∧wr.heap[w2.heap.size]?=some (.stringIter s k)∧Ext w wr∧Own w.heap.size wr 5 .u8 v (mu pre)∧Hid (Zci s.data.toList=pre++Zci (s.data.toList.drop k))) (fun _ wr=>s.size-wr.iterPos w2.heap.size)
  case atStart =>
   refine⟨0,[],by omega,?_,Ext.alloc x2 (.stringIter s 0),⟨ho2.alloc _,Fit.nil _⟩,Lh rfl⟩
   have:=World.iter_heap w2 s 0
   simpa using this
  case round =>
   obtain⟨k,pre,hk,hit,hx,ho,HR⟩:=hrel
   have hsz:w2.heap.size<wr.heap.size:=(Array.getElem?_eq_some_iff.1 hit).1
   by_cases hlt:k<s.size
   ·obtain⟨r,m,hd,hm1,hm2,hsc,hr,hv⟩:=ZhG s k hlt
    have hdec:Utf8.decode s k=(r,m):=by rw [ZdY,hd]
    have hnx:∀ ty,(Instr.next (.pointer (some ⟨w2.heap.size,0,none⟩)) true ty).run Tryz.prog wr=_:=fun ty=>Lib.run_next_any_at wr w2.heap.size s k ty hit hlt
    simp only [hdec] at hnx
    have hit2:=Lib.iterAt_heap wr w2.heap.size s k (k+m) hit
    have hx2:Ext w (wr.iterAt w2.heap.size s (k+m)):=Lib.below_iterAt hx hsz2 s (k+m)
    have HR2:=Lh (show Zci s.data.toList=(pre++[(r:Int)])++Zci (s.data.toList.drop (k+m)) by rw [HR.out,hr];simp)
    have hr1:(r:Int)≤1114111:=hsc.hi
    have hsum:(mu pre).length+((ch r).length+0)≤140737488355328:=by
     have hN:=HN.out
     unfold encZ at hN
     rw [HR.out,hr,Zny,Zd1,List.length_append,List.length_append] at hN
     omega
    have ho2:Own w.heap.size (wr.iterAt w2.heap.size s (k+m)) 5 .u8 u6 (mu pre):=Own.kept ho (ZlB wr w2.heap.size s (k+m)) (fun g hg e=>Zgv ho hit g hg (by injection e with e;exact e.symm))
    have hne:=Zgv ho2 hit2
    have HNE:=Lh hne
    clear hd hdec hr hv hne
    go_wp2_with fail
    refine(Zfn none _ (mu pre) 0 r w.heap.size _ (by exact⟨ho2,hsum⟩) (by exact hx2.size) (by omega) hr1).mono ?_
    rintro e w3 ⟨v3,rfl,ho3,hg3,_⟩
    have hit3:w3.heap[w2.heap.size]?=some (.stringIter s (k+m)):=(hg3.block w2.heap.size (by rw [Lib.iterAt_size];exact hsz) (fun e=>HNE.out _ e.symm rfl)).trans hit2
    have hx3:Ext w w3:=hx2.grown hg3 ho.low
    go_wp2
    go_roundw
    case rel=>exact⟨k+m,pre++[(r:Int)],hm2,hit3,hx3,by rw [Zgo];exact ho3.1,HR2⟩
    case measure =>
     simp only [World.iterPos,hit3,hit]
     omega
   ·have hnx:∀ ty,(Instr.next (.pointer (some ⟨w2.heap.size,0,none⟩)) true ty).run Tryz.prog wr=_:=fun ty=>Lib.run_next_end_at wr w2.heap.size s k ty hit hlt
    have hR:=HR.out
    rw [ZhA s k hlt,Zgi,List.append_nil] at hR
    have HE:=Lh (show encZ s.data.toList=mu pre by unfold encZ;rw [hR])
    clear hR
    go_wp2
    go_ret2
    exact Ret.mk (.inl ⟨HV.out,_,rfl,by rw [HE.out];exact ho⟩) hx
 ·have HV:=Lh hv
  clear hv
  go_wp2
  go_ret2
  exact Ret.mk (.inr ⟨HV.out,rfl⟩) he
theorem Ztd (s:ByteArray) (l:List UInt8) (h:s.data.toList=l):(⟨l.toArray⟩:ByteArray)=s:=by
 subst h
 rfl
theorem ZfH (l:List UInt8):(encZ l).length≤3*l.length:=by
 obtain⟨n,hn⟩:∃ n,l.length≤n:=⟨_,Nat.le_refl _⟩
 induction n generalizing l with
 | zero =>
  have:l=[]:=List.eq_nil_of_length_eq_zero (by omega)
  subst this
  exact Nat.le_refl _
 | succ n ih =>
  by_cases hne:l=[]
  ·subst hne
   exact Nat.le_refl _
  ·have hl:0<l.length:=List.length_pos_iff.2 hne
   have hw:=Lib.decodeL_width l
   have hle:=Zhb l hne
   have hi:=ih (l.drop (Lib.decodeL l).2) (by rw [List.length_drop];omega)
   have hc:(ch (Lib.decodeL l).1).length≤3*(Lib.decodeL l).2:=by
    rw [Lib.decodeL_N]
    rcases Lib.decodeN_shape l.length (l.getD 0 0).toNat (l.getD 1 0).toNat (l.getD 2 0).toNat (l.getD 3 0).toNat with⟨c,e⟩ | ⟨c1,c2,c3,cv,e⟩ | ⟨c1,c2,c3,c4,cv,cs,e⟩ | ⟨c1,c2,c3,c4,c5,cv,cw,e⟩ | e
    ·rw [e]
     dsimp only
     by_cases h0:1≤((l.getD 0 0).toNat:Int)∧((l.getD 0 0).toNat:Int)≤127
     ·rw [ch1 h0];simp
     ·rw [ch2 h0 (by omega)];simp
    ·rw [e]
     have:=(Zfe ((((l.getD 0 0).toNat%32*64+(l.getD 1 0).toNat%64:Nat)):Int)).2
     dsimp only
     omega
    ·rw [e]
     have:=(Zfe ((((l.getD 0 0).toNat%16*4096+(l.getD 1 0).toNat%64*64+(l.getD 2 0).toNat%64:Nat)):Int)).2
     dsimp only
     omega
    ·rw [e]
     have:=(Zfe ((((l.getD 0 0).toNat%8*262144+(l.getD 1 0).toNat%64*4096+(l.getD 2 0).toNat%64*64+(l.getD 3 0).toNat%64:Nat)):Int)).2
     dsimp only
     omega
    ·rw [e]
     decide
   rw [List.length_drop] at hi
   unfold encZ at hi ⊢
   rw [Zcz l hne,Zd1,List.length_append]
   omega
theorem ZpV (s:ByteArray) (hv:Lib.validD s.data.toList=true):stop (encZ s.data.toList)=(encZ s.data.toList).length∧(⟨(utf (chs (encZ s.data.toList))).toArray⟩:ByteArray)=s:=by
 have hch:=Zsg (Zqe s.data.toList)
 refine⟨hch.2,?_⟩
 unfold encZ
 rw [hch.1]
 exact Ztd s _ (Zm8 _ hv).symm
theorem ZpZ {b:List Int} (hf:Fit .u8 b) (h:stop b=b.length) (S:ByteArray) (hS:(⟨(utf (chs b)).toArray⟩:ByteArray)=S):Lib.validD S.data.toList=true∧encZ S.data.toList=b∧S.size≤b.length:=by
 obtain⟨h1,h2,h3⟩:=ZiQ hf
 obtain⟨e1,e2⟩:=ZoR h1
 have hd:S.data.toList=utf (chs b):=by rw [← hS]
 have hm:mu (chs b)=b:=by rw [Znp hf,h,List.take_length]
 rw [Lib.size_eq,hd]
 refine⟨e1,by unfold encZ;rw [e2,hm],?_⟩
 have:=(Zq3 h1).1
 rw [hm] at this
 exact this
end Go.Proofs.YtclamhhgldkhnaaGreatDoor
