/- Several texts of this proof, one behind the other. -/
import Derived.Test.YtclamhhgldkhnaaGreatDoorZwB
import Derived.Test.YtclamhhgldkhnaaGreatDoorShelf
import Derived.Lib.OthersKept
import Derived.Test.YtclamhhgldkhnaaGreatDoorZwC
import Derived.Test.YtclamhhgldkhnaaGreatDoorZwD
import Derived.Laws.BitsAllLaws
import Derived.IntWalk
import Derived.Deep.RegionWith
import Derived.LoopN
import Derived.RegionCalls
import Derived.Test.YtclamhhgldkhnaaGreatDoorZwA
import Derived.Lib.Builder
namespace Go.Proofs.YtclamhhgldkhnaaGreatDoor
open Go.RowKit
set_option linter.unusedVariables false
set_option maxHeartbeats 16000000
def Tabs (w:World):Prop:=Lib.Utf8Tabs 2 3 w
theorem Tabs.ext {w w':World} (h:Tabs w) (he:Ext w w'):Tabs w':=Utf8Tabs_below h he
theorem Zhb (l:List UInt8) (h:l≠[]):(Lib.decodeL l).2≤l.length:=by
 have hl:0<l.length:=List.length_pos_iff.2 h
 rw [Lib.decodeL_N]
 rcases Lib.decodeN_shape l.length (l.getD 0 0).toNat (l.getD 1 0).toNat (l.getD 2 0).toNat (l.getD 3 0).toNat with⟨c,e⟩ | ⟨c1,c2,c3,cv,e⟩ | ⟨c1,c2,c3,c4,cv,cs,e⟩ | ⟨c1,c2,c3,c4,c5,cv,cw,e⟩ | e
 all_goals
  rw [e]
  dsimp only
  omega
theorem ZdY (s:ByteArray) (k:Nat):Utf8.decode s k=Lib.decodeL (s.data.toList.drop k):=by
 rw [Lib.decode_N,Lib.decodeL_N,List.length_drop,Lib.getD_dropU,Lib.getD_dropU,Lib.getD_dropU,Lib.getD_dropU]
 rfl
theorem Zig (s:ByteArray) (k:Nat) (h:k<s.size):Lib.decodeGo (s.extract k s.size)=Lib.decodeL (s.data.toList.drop k):=by
 have hs:(s.extract k s.size).size=s.size-k:=by simp
 unfold Lib.decodeGo
 rw [if_neg (by omega),ZdY]
 rw [List.drop_zero,Lib.ext_list]
theorem ZhG (s:ByteArray) (k:Nat) (h:k<s.size):∃ r m:Nat,Lib.decodeL (s.data.toList.drop k)=(r,m)∧1≤m∧k+m≤s.size∧Sc (r:Int)∧Zci (s.data.toList.drop k)=(r:Int) :: Zci (s.data.toList.drop (k+m)) ∧
 Lib.validD (s.data.toList.drop k)=(if r=65533∧m=1 then false else Lib.validD (s.data.toList.drop (k+m))):=by
 have hne:s.data.toList.drop k≠[]:=by
  intro e
  have:=congrArg List.length e
  rw [List.length_drop,← Lib.size_eq] at this
  simp at this
  omega
 have hle:=Zhb _ hne
 rw [List.length_drop,← Lib.size_eq] at hle
 refine⟨(Lib.decodeL (s.data.toList.drop k)).1,(Lib.decodeL (s.data.toList.drop k)).2,rfl,Lib.decodeL_width _,?_,ZgX _,?_,?_⟩
 ·revert hle
  generalize (Lib.decodeL (s.data.toList.drop k)).2=d
  intro hle
  omega
 ·rw [Zcz _ hne,List.drop_drop]
 ·rw [Lib.validD_step _ hne,List.drop_drop]
theorem ZhA (s:ByteArray) (k:Nat) (h:¬ k<s.size):s.data.toList.drop k=[]:=List.drop_eq_nil_iff.2 (by rw [← Lib.size_eq];omega)
def ZqI (l:List UInt8) (B:Nat) (v':Value) (w':World):Prop :=
 (Lib.validD l=true∧∃ v,v'=.tuple #[v,.int .i64 0]∧Own B w' 5 .u8 v (encZ l))∨(Lib.validD l=false∧v'=.tuple #[.slice none 0 0,.int .i64 20])
def ZsL (l:List UInt8) (v':Value) (w':World):Prop :=
 (Lib.validD l=true∧v'=.tuple #[.int .i64 (encZ l).length,.int .i64 0])∨(Lib.validD l=false∧v'=.tuple #[.int .i64 0,.int .i64 20])
set_option maxRecDepth 100000 in
theorem ZdV (s:ByteArray) (w:World) (hT:Tabs w) (hs:s.size≤9223372036854775807) (hz:(encZ s.data.toList).length≤140737488355328) :
 Calls Tryz.prog 118 #[.string s] w (Ret w (ZqI s.data.toList w.heap.size)):=by
 go_enter Tryz.func118,Tryz.ntmps118
 go_wp2
 go_loopw [4,5] (fun v i wr=>∃ (k:Nat) (pre:List Int),i=.int .i64 k∧k≤s.size∧Ext w wr∧Own w.heap.size wr 5 .u8 v (mu pre)∧Hid (Zci s.data.toList=pre++Zci (s.data.toList.drop k))∧Hid (Lib.validD s.data.toList=Lib.validD (s.data.toList.drop k))) (fun _ i _=>s.size-(intOf i).toNat)
 case atStart=>exact⟨0,[],rfl,by omega,Ext.refl _,Own.nil _ _ _ _,Lh rfl,Lh rfl⟩
 case round =>
  obtain⟨k,pre,rfl,hk,he,ho,HR,HV⟩:=hrel
  by_cases hlt:k<s.size
  ·obtain⟨r,m,hd,hm1,hm2,hsc,hr,hv⟩:=ZhG s k hlt
   have hgo:=Zig s k hlt
   rw [hd] at hgo
   have HD:=Lh hgo
   have hr2:r≤1114111:=by have:=hsc.hi;omega
   have hsum:(mu pre).length+(ch r).length≤140737488355328:=by
    unfold encZ at hz
    rw [HR.out,hr,Zny,Zd1,List.length_append,List.length_append] at hz
    omega
   by_cases hbad:r=65533∧m=1
   ·obtain⟨rfl,rfl⟩:=hbad
    rw [if_pos ⟨rfl,rfl⟩] at hv
    have HF:=Lh (HV.out.trans hv)
    clear hv hr hgo hd
    go_wp2_with fail
    refine(Tryz.utf8_DecodeRuneInString (s.extract k s.size) _ (hT.ext he)).mono ?_
    rw [HD.out]
    rintro e w1 ⟨rfl,he1⟩
    go_wp2
    go_ret2
    exact Ret.mk (.inr ⟨HF.out,rfl⟩) (he.trans he1)
   ·rw [if_neg hbad] at hv
    have HR2:=Lh (show Zci s.data.toList=(pre++[(r:Int)])++Zci (s.data.toList.drop (k+m)) by rw [HR.out,hr];simp)
    have HV2:=Lh (HV.out.trans hv)
    have hsc2:0≤(r:Int):=by omega
    clear hv hr hgo hd
    by_cases hr0:r=65533
    ·subst hr0
     have htest:¬ (m:Int)<2:=by omega
     have hsum:(mu pre).length+(ch 65533).length≤140737488355328:=hsum
     clear hbad
     go_wp2_with fail
     refine(Tryz.utf8_DecodeRuneInString (s.extract k s.size) _ (hT.ext he)).mono ?_
     rw [HD.out]
     rintro e w1 ⟨rfl,he1⟩
     have y1:Ext w w1:=he.trans he1
     go_wp2_with fail
     refine(ZkO 65533 _ (by omega) (by omega)).mono ?_
     rintro e w2 ⟨v2,rfl,ho2,he2⟩
     have y2:Ext w w2:=y1.trans he2
     go_wp2_with (at_builtin;go_loud (refine wpList_app _ rfl _ _ w.heap.size 29 5 _ 1 .u8 rfl Tryz.underlying29 Zaq rfl (by omega) _ (mu pre) rfl (ho.ext (Ext.trans he1 he2)) v2 (ch 65533) rfl ho2.row (by omega) y2.size ?_))
     intro v3 w3 ho3 hg3 _
     have y3:Ext w w3:=y2.grown hg3 ho.low
     go_wp2
     go_roundw
     case rel=>exact⟨k+m,pre++[(65533:Int)],by go_num,by omega,y3,by rw [Zgo];exact ho3,HR2,HV2⟩
     case measure=>simp [intOf];omega
    ·have htest:((r:Int)==65533)=false:=by simp;omega
     clear hbad hr0
     go_wp2_with fail
     refine(Tryz.utf8_DecodeRuneInString (s.extract k s.size) _ (hT.ext he)).mono ?_
     rw [HD.out]
     rintro e w1 ⟨rfl,he1⟩
     have y1:Ext w w1:=he.trans he1
     go_wp2_with fail
     refine(ZkO r _ (by omega) (by omega)).mono ?_
     rintro e w2 ⟨v2,rfl,ho2,he2⟩
     have y2:Ext w w2:=y1.trans he2
     go_wp2_with (at_builtin;go_loud (refine wpList_app _ rfl _ _ w.heap.size 29 5 _ 1 .u8 rfl Tryz.underlying29 Zaq rfl (by omega) _ (mu pre) rfl (ho.ext (Ext.trans he1 he2)) v2 (ch r) rfl ho2.row (by omega) y2.size ?_))
     intro v3 w3 ho3 hg3 _
     have y3:Ext w w3:=y2.grown hg3 ho.low
     go_wp2
     go_roundw
     case rel=>exact⟨k+m,pre++[(r:Int)],by go_num,by omega,y3,by rw [Zgo];exact ho3,HR2,HV2⟩
     case measure=>simp [intOf];omega
  ·have hd:=ZhA s k hlt
   have hR:=HR.out
   have hV:=HV.out
   rw [hd] at hR hV
   rw [Zgi,List.append_nil] at hR
   have hF:Lib.validD s.data.toList=true:=hV
   have HF:=Lh hF
   have HE:=Lh (show encZ s.data.toList=mu pre by unfold encZ;rw [hR])
   clear hd hR hV hF
   go_wp2
   go_ret2
   exact Ret.mk (.inl ⟨HF.out,_,rfl,by rw [HE.out];exact ho⟩) he
def MayC (l:List Cst) (x:Cst):Prop :=
 (x.k=1∧x.n=0∧x.a=0∧x.b=0∧x.c=0∧Lib.validD x.t.data.toList=true) ∨
 (x.k=2∧x.t.toList=[]∧x.a=0∧x.b=0∧x.c=0∧-2147483648≤x.n∧x.n<2147483648) ∨
 (x.k=3∧x.t.toList=[]∧x.a=0∧x.b=0∧x.c=0) ∨
 (x.k=4∧x.t.toList=[]∧x.n=0∧x.b=0∧x.c=0∧isK l x.a 1=true) ∨
 ((x.k=5∨x.k=6)∧x.t.toList=[]∧x.n=0∧isK l x.a 4=true∧isK l x.b 1=true∧isK l x.c 1=true)
instance (l:List Cst) (x:Cst):Decidable (MayC l x):=by unfold MayC;infer_instance
def mayC (l:List Cst) (x:Cst):Bool:=decide (MayC l x)
theorem ZbP (w:World) (o p:Obj):Ext w ((w.alloc o).alloc p):=((Ext.refl w).alloc o).alloc p
theorem Zo1 (v:Value) (l:List Cst) (j:Nat) (w:World) (h:RowC w v l) (hj:j<l.length) (k:Int) (t:ByteArray) (n a b c:Int) (hx:Hid (gc l j=⟨k,t,n,a,b,c⟩)) (hk:k=2) :
 Calls Tryz.prog 78 #[v,.int .i64 j] w (RetB w (mayC l ⟨k,t,n,a,b,c⟩)):=by
 have hrow:=h
 obtain⟨A,cp,rfl,h2,h3,h4,h5,h6⟩:=h
 unfold maxLen at h3
 have hok:=ZhQ h5 j
 rw [hx.out] at hok
 obtain⟨-,-,ok_a,ok_b,ok_c⟩:=hok
 simp only at ok_a ok_b ok_c
 obtain⟨bl,o,rfl,_,hc⟩:=h6 (by omega)
 obtain⟨a0,a1,a2,a3,a4,a5⟩:=hc j hj
 rw [hx.out] at a0 a1 a2 a3 a4 a5
 simp only at a0 a1 a2 a3 a4 a5
 clear hc h6 h4 h5
 subst hk
 go_enter Tryz.func78,Tryz.ntmps78
 go_wp2
 all_goals
  go_ret
  exact⟨Zdg (by simp [mayC,MayC, *] <;> omega),ZbP _ _ _⟩
theorem ZpW (v:Value) (l:List Cst) (j:Nat) (w:World) (h:RowC w v l) (hj:j<l.length) (k:Int) (t:ByteArray) (n a b c:Int) (hx:Hid (gc l j=⟨k,t,n,a,b,c⟩)) (hk:k=3) :
 Calls Tryz.prog 78 #[v,.int .i64 j] w (RetB w (mayC l ⟨k,t,n,a,b,c⟩)):=by
 have hrow:=h
 obtain⟨A,cp,rfl,h2,h3,h4,h5,h6⟩:=h
 unfold maxLen at h3
 have hok:=ZhQ h5 j
 rw [hx.out] at hok
 obtain⟨-,-,ok_a,ok_b,ok_c⟩:=hok
 simp only at ok_a ok_b ok_c
 obtain⟨bl,o,rfl,_,hc⟩:=h6 (by omega)
 obtain⟨a0,a1,a2,a3,a4,a5⟩:=hc j hj
 rw [hx.out] at a0 a1 a2 a3 a4 a5
 simp only at a0 a1 a2 a3 a4 a5
 clear hc h6 h4 h5
 subst hk
 go_enter Tryz.func78,Tryz.ntmps78
 go_wp2
 all_goals
  go_ret
  exact⟨Zdg (by simp [mayC,MayC, *] <;> omega),ZbP _ _ _⟩
theorem ZpG (v:Value) (l:List Cst) (j:Nat) (w:World) (h:RowC w v l) (hj:j<l.length) (k:Int) (t:ByteArray) (n a b c:Int) (hx:Hid (gc l j=⟨k,t,n,a,b,c⟩)) (hk:k=1) (hT:Tabs w) (hs:t.size≤9223372036854775807) (hz:(encZ t.data.toList).length≤140737488355328) :
 Calls Tryz.prog 78 #[v,.int .i64 j] w (RetB w (mayC l ⟨k,t,n,a,b,c⟩)):=by
 have hrow:=h
 obtain⟨A,cp,rfl,h2,h3,h4,h5,h6⟩:=h
 unfold maxLen at h3
 have hok:=ZhQ h5 j
 rw [hx.out] at hok
 obtain⟨-,-,ok_a,ok_b,ok_c⟩:=hok
 simp only at ok_a ok_b ok_c
 obtain⟨bl,o,rfl,_,hc⟩:=h6 (by omega)
 obtain⟨a0,a1,a2,a3,a4,a5⟩:=hc j hj
 rw [hx.out] at a0 a1 a2 a3 a4 a5
 simp only at a0 a1 a2 a3 a4 a5
 clear hc h6 h4 h5
 subst hk
 go_enter Tryz.func78,Tryz.ntmps78
 go_wp2_with fail
 refine(ZdV t _ (hT.ext (by exact ZbP _ _ _)) hs hz).mono ?_
 rintro e w1 ⟨v1,rfl,ha,he⟩
 have hx1:Ext w w1:=(ZbP _ _ _).trans he
 have hc:=fun b o hb=>he.cell (p:=⟨b,o,none⟩) hb
 clear he
 rcases ha with⟨hv,v2,rfl,ho⟩ | ⟨hv,rfl⟩
 all_goals
  go_wp2
  all_goals
   go_ret
   exact⟨Zdg (by simp [mayC,MayC, *]),hx1⟩
theorem Zqy (v:Value) (l:List Cst) (j:Nat) (w:World) (h:RowC w v l) (hj:j<l.length) (k:Int) (t:ByteArray) (n a b c:Int) (hx:Hid (gc l j=⟨k,t,n,a,b,c⟩)) (hk:k=4) :
 Calls Tryz.prog 78 #[v,.int .i64 j] w (RetB w (mayC l ⟨k,t,n,a,b,c⟩)):=by
 have hrow:=h
 obtain⟨A,cp,rfl,h2,h3,h4,h5,h6⟩:=h
 unfold maxLen at h3
 have hok:=ZhQ h5 j
 rw [hx.out] at hok
 obtain⟨-,-,ok_a,ok_b,ok_c⟩:=hok
 simp only at ok_a ok_b ok_c
 obtain⟨bl,o,rfl,_,hc⟩:=h6 (by omega)
 obtain⟨a0,a1,a2,a3,a4,a5⟩:=hc j hj
 rw [hx.out] at a0 a1 a2 a3 a4 a5
 simp only at a0 a1 a2 a3 a4 a5
 clear hc h6 h4 h5
 subst hk
 obtain⟨e1,he1⟩:∃ e1,isK l a 1=e1:=⟨_,rfl⟩
 have H1:=Lh he1
 clear he1
 go_enter Tryz.func78,Tryz.ntmps78
 go_wp2_with (go_at_call 134;refine(Zf3 _ l _ _ _ (by exact hrow.ext (ZbP _ _ _)) (by assumption) (by unfold I64;omega)).mono ?_;rw [H1.out];rintro e w1 ⟨rfl,rfl⟩)
 all_goals
  go_ret
  exact⟨Zdg (by have:=H1.out;simp [mayC,MayC, *]),ZbP _ _ _⟩
theorem Zp2 (v:Value) (l:List Cst) (j:Nat) (w:World) (h:RowC w v l) (hj:j<l.length) (k:Int) (t:ByteArray) (n a b c:Int) (hx:Hid (gc l j=⟨k,t,n,a,b,c⟩)) (hk:k=5∨k=6) :
 Calls Tryz.prog 78 #[v,.int .i64 j] w (RetB w (mayC l ⟨k,t,n,a,b,c⟩)):=by
 have hrow:=h
 obtain⟨A,cp,rfl,h2,h3,h4,h5,h6⟩:=h
 unfold maxLen at h3
 have hok:=ZhQ h5 j
 rw [hx.out] at hok
 obtain⟨-,-,ok_a,ok_b,ok_c⟩:=hok
 simp only at ok_a ok_b ok_c
 obtain⟨bl,o,rfl,_,hc⟩:=h6 (by omega)
 obtain⟨a0,a1,a2,a3,a4,a5⟩:=hc j hj
 rw [hx.out] at a0 a1 a2 a3 a4 a5
 simp only at a0 a1 a2 a3 a4 a5
 clear hc h6 h4 h5
 obtain⟨e1,he1⟩:∃ e1,isK l a 4=e1:=⟨_,rfl⟩
 obtain⟨e2,he2⟩:∃ e2,isK l b 1=e2:=⟨_,rfl⟩
 obtain⟨e3,he3⟩:∃ e3,isK l c 1=e3:=⟨_,rfl⟩
 have H1:=Lh he1
 have H2:=Lh he2
 have H3:=Lh he3
 clear he1 he2 he3
 rcases hk with rfl | rfl
 all_goals
  go_enter Tryz.func78,Tryz.ntmps78
  go_wp2_with (go_at_call 134;refine(Zf3 _ l _ _ _ (by exact hrow.ext (ZbP _ _ _)) (by assumption) (by unfold I64;omega)).mono ?_;(first | rw [H1.out] | rw [H2.out] | rw [H3.out]);rintro e w1 ⟨rfl,rfl⟩)
  all_goals
   go_ret
   exact⟨Zdg (by have h1:=H1.out;have h2:=H2.out;have h3:=H3.out;simp [mayC,MayC, *]),ZbP _ _ _⟩
theorem Zpv (v:Value) (l:List Cst) (j:Nat) (w:World) (h:RowC w v l) (hj:j<l.length) (k:Int) (t:ByteArray) (n a b c:Int) (hx:Hid (gc l j=⟨k,t,n,a,b,c⟩)) (hk:¬ k=1∧¬ k=2∧¬ k=3∧¬ k=4∧¬ k=5∧¬ k=6) :
 Calls Tryz.prog 78 #[v,.int .i64 j] w (RetB w (mayC l ⟨k,t,n,a,b,c⟩)):=by
 have hrow:=h
 obtain⟨A,cp,rfl,h2,h3,h4,h5,h6⟩:=h
 unfold maxLen at h3
 have hok:=ZhQ h5 j
 rw [hx.out] at hok
 obtain⟨-,-,ok_a,ok_b,ok_c⟩:=hok
 simp only at ok_a ok_b ok_c
 obtain⟨bl,o,rfl,_,hc⟩:=h6 (by omega)
 obtain⟨a0,a1,a2,a3,a4,a5⟩:=hc j hj
 rw [hx.out] at a0 a1 a2 a3 a4 a5
 simp only at a0 a1 a2 a3 a4 a5
 clear hc h6 h4 h5
 obtain⟨k1,k2,k3,k4,k5,k6⟩:=hk
 have n1:(k==1)=false:=by simpa using k1
 have n2:(k==2)=false:=by simpa using k2
 have n3:(k==3)=false:=by simpa using k3
 have n4:(k==4)=false:=by simpa using k4
 have n5:(k==5)=false:=by simpa using k5
 have n6:(k==6)=false:=by simpa using k6
 go_enter Tryz.func78,Tryz.ntmps78
 go_wp2
 all_goals
  go_ret
  exact⟨Zdg (by simp [mayC,MayC, *]),ZbP _ _ _⟩
def Room (l:List Cst):Prop:=∀ x∈l,x.t.size≤9223372036854775807∧(encZ x.t.data.toList).length≤140737488355328
theorem Room.at_ {l:List Cst} (h:Room l) {j:Nat} (hj:j<l.length):(gc l j).t.size≤9223372036854775807∧(encZ (gc l j).t.data.toList).length≤140737488355328:=h _ (Zla hj)
theorem Zf1 (v:Value) (l:List Cst) (j:Nat) (w:World) (h:RowC w v l) (hj:j<l.length) (hT:Tabs w) (hR:Room l) :
 Calls Tryz.prog 78 #[v,.int .i64 j] w (RetB w (mayC l (gc l j))):=by
 have hz:=hR.at_ hj
 obtain⟨x,hx⟩:∃ x,gc l j=x:=⟨_,rfl⟩
 rw [hx] at hz ⊢
 obtain⟨k,t,n,a,b,c⟩:=x
 simp only at hz
 by_cases k1:k=1
 ·exact ZpG v l j w h hj k t n a b c hx k1 hT hz.1 hz.2
 ·by_cases k2:k=2
  ·exact Zo1 v l j w h hj k t n a b c hx k2
  ·by_cases k3:k=3
   ·exact ZpW v l j w h hj k t n a b c hx k3
   ·by_cases k4:k=4
    ·exact Zqy v l j w h hj k t n a b c hx k4
    ·by_cases k5:k=5∨k=6
     ·exact Zp2 v l j w h hj k t n a b c hx k5
     ·exact Zpv v l j w h hj k t n a b c hx ⟨k1,k2,k3,k4,fun h=>k5 (.inl h),fun h=>k5 (.inr h)⟩
def Ziq (l:List Cst):Prop:=gc l 0=c0∧∀ j,1≤j→j<l.length→mayC l (gc l j)=true
noncomputable def ZaD (l:List Cst):Int:=if 4096<l.length then 5 else if l=[] then 40 else @ite _ (Ziq l) (Classical.propDecidable _) 0 40
theorem ZdL {l:List Cst} (h:4096<l.length):ZaD l=5:=by unfold ZaD;rw [if_pos h]
theorem checkC_nil:ZaD []=40:=by unfold ZaD;rw [if_neg (by simp),if_pos rfl]
theorem ZeY {l:List Cst} (h:l.length≤4096) (h0:0<l.length) (ha:Ziq l):ZaD l=0:=by
 unfold ZaD
 rw [if_neg (by omega),if_neg (fun e=>by rw [e] at h0;simp at h0),@if_pos _ (Classical.propDecidable _) ha]
theorem Zb9 {l:List Cst} (h:l.length≤4096) (ha:¬ Ziq l):ZaD l=40:=by
 unfold ZaD
 rw [if_neg (by omega)]
 by_cases he:l=[]
 ·rw [if_pos he]
 ·rw [if_neg he,@if_neg _ (Classical.propDecidable _) ha]
theorem ZjI {x:Cst} (h0:x.k=0) (h1:x.t.toList=[]) (h2:x.n=0) (h3:x.a=0) (h4:x.b=0) (h5:x.c=0):x=c0 :=
 Cst.ext_ h0 (toList_inj (by rw [h1,ByteArray.toList_eq];rfl)) h2 h3 h4 h5
theorem ZfY {a b:Int} (h:a=b):Ending.returned (.int .i64 a)=.returned (.int .i64 b):=by rw [h]
theorem ZcO (v:Value) (l:List Cst) (w:World) (h:RowC w v l) (hT:Tabs w) (hR:Room l) :
 Calls Tryz.prog 28 #[v] w fun e w'=>e=.returned (.int .i64 (ZaD l))∧Ext w w':=by
 have hrow:=h
 obtain⟨A,cp,rfl,h2,h3,h4,h5,h6⟩:=h
 unfold maxLen at h3
 obtain⟨n,hn⟩:∃ n,n=l.length:=⟨_,rfl⟩
 have HN:=Lh hn
 rw [← hn] at hrow h2 h6 ⊢
 by_cases hbig:4096<n
 ·have HB:=Lh (ZdL (l:=l) (by rw [← hn];exact hbig))
  clear h6 h5 h4 hn
  go_enter Tryz.func28,Tryz.ntmps28
  go_wp2
  go_ret
  exact⟨ZfY HB.out.symm,Ext.refl _⟩
 ·by_cases h0:n=0
  ·have e:l=[]:=List.eq_nil_of_length_eq_zero (by omega)
   subst e
   subst h0
   clear h6 h5 h4 hn HN
   go_enter Tryz.func28,Tryz.ntmps28
   go_wp2
   go_ret
   exact⟨ZfY checkC_nil.symm,Ext.refl _⟩
  ·obtain⟨bl,o,rfl,_,hc⟩:=h6 (by omega)
   obtain⟨a0,a1,a2,a3,a4,a5⟩:=hc 0 (by omega)
   simp only [Nat.zero_mul,Nat.add_zero] at a0 a1 a2 a3 a4 a5
   have hnz:((n:Int)==0)=false:=by simp;omega
   by_cases hg:gc l 0=c0
   ·rw [hg] at a0 a1 a2 a3 a4 a5
    simp only [c0] at a0 a1 a2 a3 a4 a5
    have HG:=Lh hg
    clear hg h5 h4 h6 hc hn
    go_enter Tryz.func28,Tryz.ntmps28
    go_wp2
    go_loopw [3] (fun i wr=>∃ k:Nat,i=.int .i64 k∧1≤k∧k≤n∧Ext w wr∧Hid (∀ j,1≤j→j<k→mayC l (gc l j)=true)) (fun i _=>n-(intOf i).toNat)
    case atStart=>exact⟨1,rfl,by omega,by omega,Ext.refl _,fun j h1 h2=>by omega⟩
    case round =>
     obtain⟨k,rfl,hk1,hkn,hx,HA⟩:=hrel
     by_cases hlt:k<n
     ·obtain⟨eb,heb⟩:∃ eb,mayC l (gc l k)=eb:=⟨_,rfl⟩
      have HE:=Lh heb
      clear heb
      cases eb
      ·have HC:Hid (ZaD l=40):=Zb9 (by rw [← HN.out];omega) (fun ha=>by
        have:=ha.2 k hk1 (by rw [← HN.out];exact hlt)
        rw [HE.out] at this
        cases this)
       go_wp2_with (go_at_call 78;refine(Zf1 _ l k _ (by exact hrow.ext hx) (by rw [← HN.out];exact hlt) (hT.ext hx) hR).mono ?_;rw [HE.out];rintro e w2 ⟨rfl,x2⟩)
       go_ret
       exact⟨ZfY HC.out.symm,hx.trans x2⟩
      ·go_wp2_with (go_at_call 78;refine(Zf1 _ l k _ (by exact hrow.ext hx) (by rw [← HN.out];exact hlt) (hT.ext hx) hR).mono ?_;rw [HE.out];rintro e w2 ⟨rfl,x2⟩)
       go_roundw
       case rel =>
        refine⟨k+1,by go_num,by omega,by omega,hx.trans x2,fun j h1 h2=>?_⟩
        by_cases hjk:j=k
        ·rw [hjk];exact HE.out
        ·exact HA.out j h1 (by omega)
       case measure=>simp [intOf];omega
     ·have HC:Hid (ZaD l=0):=ZeY (by rw [← HN.out];omega) (by rw [← HN.out];omega) ⟨HG.out,fun j h1 h2=>HA.out j h1 (by rw [← HN.out] at h2;omega)⟩
      go_wp2
      go_ret
      exact⟨ZfY HC.out.symm,hx⟩
   ·have HB:=Lh (Zb9 (l:=l) (by omega) (fun ha=>hg ha.1))
    clear h5 h4 hn hc
    go_enter Tryz.func28,Tryz.ntmps28
    go_wp2_with fail
    all_goals first
     | exact(hg (ZjI ‹(gc l 0).k=0› ‹(gc l 0).t.toList=[]› ‹(gc l 0).n=0› ‹(gc l 0).a=0› ‹(gc l 0).b=0› ‹(gc l 0).c=0›)).elim
     | (
      go_ret
      exact⟨ZfY HB.out.symm,Ext.refl _⟩)
def rdU (l:List Int) (e:Int):Int × List Int × Int:=if e=0 then tU l else (0,l,e)
def rdS (l:List Int) (e:Int):Int × List Int × Int:=if e=0 then tS 10 2 l else (0,l,e)
theorem Za6 (v:Value) (b:List Int) (w:World) (h:Row w .u8 v b) :
 Calls Tryz.prog 275 #[v] w fun e w'=>e=.returned (.tuple #[.int .i32 (rowZ b).1,.int .i64 (rowZ b).2])∧w=w':=by
 have hf:=h.fit
 obtain⟨A,c,rfl,h2,h3,h4,h5,h6⟩:=h
 unfold maxLen at h3
 clear h4 h5
 obtain⟨n,hn⟩:∃ n,n=b.length:=⟨_,rfl⟩
 by_cases h0:n=0
 ·have hb:b=[]:=List.eq_nil_of_length_eq_zero (by omega)
  subst hb
  clear h6 hn
  go_enter Tryz.func275,Tryz.ntmps275
  go_wp2
  go_ret2
  exact⟨rfl,rfl⟩
 ·obtain⟨bl,o,rfl,_,hc⟩:=h6 (by omega)
  have g0:=hf.gi 0
  have hne:¬ b=[]:=fun e=>by subst e;simp at hn;omega
  have hc0:w.cell? ⟨bl,o,none⟩=some (.int .u8 (gi b 0)):=hc 0 (by omega)
  obtain⟨x,hx⟩:∃ x,x=gi b 0:=⟨_,rfl⟩
  rw [← hx] at g0 hc0
  have HX:=Lh hx
  have HN:=Lh hn
  have HE:=Lh hne
  rw [← hn] at h2 ⊢
  clear hn hne hx h6
  by_cases c1:x<192
  ·have hr:rowZ b=(x,1):=by unfold rowZ;rw [if_neg HE.out,if_pos (by rw [← HX.out];exact c1),← HX.out]
   rw [hr]
   have hn1:¬ (n:Int)<1:=by omega
   clear hr hc
   by_cases hc1:c=1
   ·go_enter Tryz.func275,Tryz.ntmps275
    go_wp2
    refine wp_loop_rounds 1 ?_
    rw [rounds_succ]
    go_wp2
    go_ret2
    exact⟨rfl,rfl⟩
   ·have hc2:¬ (c:Int)=1:=by omega
    go_enter Tryz.func275,Tryz.ntmps275
    go_wp2
    refine wp_loop_rounds 1 ?_
    rw [rounds_succ]
    go_wp2
    go_ret2
    exact⟨rfl,rfl⟩
  ·by_cases c2:x<224
   ·by_cases hn2:2≤n
    ·have hr:rowZ b=((x-192)*64+gi b 1%64,2):=by unfold rowZ;rw [if_neg HE.out,if_neg (by rw [← HX.out];exact c1),if_pos (by rw [← HX.out];exact c2),if_pos (by rw [← HN.out];exact hn2),← HX.out]
     rw [hr]
     have g1:=hf.gi 1
     have hc1:w.cell? ⟨bl,o+1,none⟩=some (.int .u8 (gi b 1)):=hc 1 (by have:=HN.out;omega)
     obtain⟨y,hy⟩:∃ y,y=gi b 1:=⟨_,rfl⟩
     rw [← hy] at g1 hc1 ⊢
     have HY:=Lh hy
     clear hr hc hy
     have b1:=Zib y (by omega) (by omega)
     have b2:=Zki (x-192) (y%64) (by omega) (by omega) (by omega) (by omega)
     have b3:(x-192)%256=x-192:=by omega
     have hcc:¬ c=1:=by omega
     go_enter Tryz.func275,Tryz.ntmps275
     go_wp2
     refine wp_loop_rounds 2 ?_
     rw [rounds_succ]
     go_wp2
     rw [rounds_succ]
     go_wp2
     go_ret2
     exact⟨rfl,rfl⟩
    ·have hr:rowZ b=(0,0):=by unfold rowZ;rw [if_neg HE.out,if_neg (by rw [← HX.out];exact c1),if_pos (by rw [← HX.out];exact c2),if_neg (by rw [← HN.out];exact hn2)]
     rw [hr]
     clear hr hc
     go_enter Tryz.func275,Tryz.ntmps275
     go_wp2
     go_ret2
     exact⟨rfl,rfl⟩
   ·by_cases hn3:3≤n
    ·have hr:rowZ b=((x-224)*4096+gi b 1%64*64+gi b 2%64,3):=by unfold rowZ;rw [if_neg HE.out,if_neg (by rw [← HX.out];exact c1),if_neg (by rw [← HX.out];exact c2),if_pos (by rw [← HN.out];exact hn3),← HX.out]
     rw [hr]
     have g1:=hf.gi 1
     have g2:=hf.gi 2
     have hc1:w.cell? ⟨bl,o+1,none⟩=some (.int .u8 (gi b 1)):=hc 1 (by have:=HN.out;omega)
     have hc2:w.cell? ⟨bl,o+1+1,none⟩=some (.int .u8 (gi b 2)):=hc 2 (by have:=HN.out;omega)
     obtain⟨y,hy⟩:∃ y,y=gi b 1:=⟨_,rfl⟩
     obtain⟨z,hz⟩:∃ z,z=gi b 2:=⟨_,rfl⟩
     rw [← hy] at g1 hc1 ⊢
     rw [← hz] at g2 hc2 ⊢
     have HY:=Lh hy
     have HZ:=Lh hz
     clear hr hc hy hz
     have b1:=Zib y (by omega) (by omega)
     have b1':=Zib z (by omega) (by omega)
     have b2:=Zki (x-224) (y%64) (by omega) (by omega) (by omega) (by omega)
     have b2':=Zki ((x-224)*64+y%64) (z%64) (by omega) (by omega) (by omega) (by omega)
     have b3:(x-224)%256=x-224:=by omega
     have hcc:¬ c=1:=by omega
     go_enter Tryz.func275,Tryz.ntmps275
     go_wp2
     refine wp_loop_rounds 3 ?_
     rw [rounds_succ]
     go_wp2
     rw [rounds_succ]
     go_wp2
     rw [rounds_succ]
     go_wp2
     go_ret2
     exact⟨by rw [show (x-224)*4096+y%64*64+z%64=((x-32-192)*64+y%64)*64+z%64 by omega];rfl,rfl⟩
    ·have hr:rowZ b=(0,0):=by unfold rowZ;rw [if_neg HE.out,if_neg (by rw [← HX.out];exact c1),if_neg (by rw [← HX.out];exact c2),if_neg (by rw [← HN.out];exact hn3)]
     rw [hr]
     clear hr hc
     go_enter Tryz.func275,Tryz.ntmps275
     go_wp2
     go_ret2
     exact⟨rfl,rfl⟩
theorem ZpY {b:List Int} (hf:Fit .u8 b) (h:55296≤(rowZ b).1):(rowZ b).2=3∧3≤b.length:=by
 have g0:=hf.gi 0
 have g1:=hf.gi 1
 unfold rowZ at h ⊢
 split at h
 ·simp at h
 ·split at h
  ·dsimp only at h;omega
  ·split at h
   ·split at h
    ·dsimp only at h;omega
    ·simp at h
   ·split at h
    ·rename_i h0 h1 h2 h3
     rw [if_neg h0,if_neg h1,if_neg h2,if_pos h3]
     exact⟨rfl,h3⟩
    ·simp at h
theorem Zf4 {b:List Int} {p:Int} {q:Nat} (h:Zcf b=(p,q)) (h1:Lib.validRune p=true) (h2:b.take q=ch p):ZeN b=(p,q):=by
 unfold ZeN
 rw [h]
 exact if_pos ⟨(ZbJ p).1 h1,h2⟩
theorem Zdy {b:List Int} {p:Int} {q:Nat} (h:Zcf b=(p,q)) (h1:¬ (Lib.validRune p=true∧b.take q=ch p)):ZeN b=(0,0):=by
 unfold ZeN
 rw [h]
 exact if_neg fun k=>h1 ⟨(ZbJ p).2 k.1,k.2⟩
theorem ZfI (w:World) (m:Nat) (hm:m≤6):Has (some 290) w.heap.size (w.alloc (.cells #[.int .u8 0,.int .u8 0,.int .u8 0,.int .u8 0,.int .u8 0,.int .u8 0] 290)).drew (.slice (some ⟨w.heap.size,0,none⟩) 0 6) [] (m+0) :=
 ⟨_,6,_,rfl,Nat.le_refl _,heap_alloc_new w _,by simpa using hm,by simp [maxLen],rfl,rfl,Fit.nil _⟩
theorem Zhz {w w2:World} {o:Obj} (h:(w.alloc o).drew.grownBy w2 (Value.slice (some ⟨w.heap.size,0,none⟩) 0 6).ownBlock):Ext w w2 :=
 ((Ext.refl w).alloc o).drew.grown h (fun g hg=>by simp [Value.ownBlock] at hg;omega)
set_option maxRecDepth 100000 in
theorem Zsc (v:Value) (b:List Int) (w:World) (h:Row w .u8 v b) (p:Int) (q:Nat) (HP:Hid (Zcf b=(p,q))) (hp:-2147483648≤p∧p≤2147483647) (hq:q≤b.length) (HR:Hid (rowZ b=(p,q))) (hs:p<55296) :
 Calls Tryz.prog 257 #[v] w fun e w'=>e=.returned (.tuple #[.int .i32 (ZeN b).1,.int .i64 (ZeN b).2])∧Ext w w':=by
 obtain⟨hpl,hph⟩:=hp
 by_cases hv:Lib.validRune p=true
 ·have hp:0≤p∧p≤1114111:=by have:=(ZbJ p).1 hv;exact⟨this.lo,this.hi⟩
  obtain⟨hp0,hp1⟩:=hp
  obtain⟨v2,hs1,hs2,hh⟩:=ZbC h q hq
  have hsa:∀ W,(Instr.sliceAt 290 (.pointer (some ⟨w.heap.size,0,none⟩)) none (some (.int .i64 0)) none).run Tryz.prog W=.ok (.slice (some ⟨w.heap.size,0,none⟩) 0 6) W:=fun W=>by
   rw [run_sliceAt_array_h (P:=Tryz.prog) W 290 ⟨w.heap.size,0,none⟩ (by kernel_rfl) .i64 0 (by omega) (by rw [show Tryz.prog.arrayLen 290=6 by kernel_rfl];omega)]
   go_simp
  obtain⟨eb,heb⟩:∃ eb,decide (b.take q=ch p)=eb:=⟨_,rfl⟩
  have HQ:=Lh heb
  clear heb
  have HV:=Lh hv
  go_enter Tryz.func257,Tryz.ntmps257
  go_wp2_with (go_at_call 275;refine(Za6 _ b _ h).mono ?_;rw [HR.out];rintro e w1 ⟨rfl,rfl⟩)
  go_region_with (first
   | (go_at_call 276;refine(Tryz.utf8_ValidRune _ _).mono ?_;rw [hv];rintro e wv ⟨rfl,rfl⟩)
   | (go_at_call 159;refine(Zfn (some 290) _ [] 0 p w.heap.size _ (by exact ZfI w (ch p).length (Zfe p).2) (by simp) (by omega) (by omega)).mono ?_;rintro e w2 ⟨v2,rfl,ho2,hg2,_⟩;have x2:Ext w w2:=Zhz hg2)
   | (go_at_call 82;refine(Zb0 _ _ (b.take q) (ch p) _ (by exact hh.ext x2) (by exact ho2.row)).mono ?_;rw [HQ.out];rintro e w3 ⟨rfl,rfl⟩))
  cases eb
  ·have HZ:=Lh (Zdy HP.out (fun k=>of_decide_eq_false HQ.out k.2))
   go_wp2
   go_ret2
   exact⟨by rw [HZ.out];rfl,x2⟩
  ·have HZ:=Lh (Zf4 HP.out HV.out (of_decide_eq_true HQ.out))
   go_wp2
   go_ret2
   exact⟨by rw [HZ.out];rfl,x2⟩
 ·have HZ:=Lh (Zdy HP.out (fun k=>hv k.1))
  have hv:Lib.validRune p=false:=by simpa using hv
  go_enter Tryz.func257,Tryz.ntmps257
  go_wp2_with (go_at_call 275;refine(Za6 _ b _ h).mono ?_;rw [HR.out];rintro e w1 ⟨rfl,rfl⟩)
  go_quiet ((go_at_call 276;refine Calls.quiet_of_same (Tryz.utf8_ValidRune _ _)))
  go_wp2
  go_ret2
  exact⟨by rw [HZ.out];rfl,((Ext.refl _).alloc _).drewN _⟩
set_option maxRecDepth 100000 in
theorem Zsl (v:Value) (b:List Int) (w:World) (h:Row w .u8 v b) (p:Int) (q:Nat) (HP:Hid (Zcf b=(p,q))) (hp:-2147483648≤p∧p≤2147483647) (hq:q≤b.length) (HR:Hid (rowZ b=(p,q))) (hs:56320≤p) :
 Calls Tryz.prog 257 #[v] w fun e w'=>e=.returned (.tuple #[.int .i32 (ZeN b).1,.int .i64 (ZeN b).2])∧Ext w w':=by
 obtain⟨hpl,hph⟩:=hp
 by_cases hv:Lib.validRune p=true
 ·have hp:0≤p∧p≤1114111:=by have:=(ZbJ p).1 hv;exact⟨this.lo,this.hi⟩
  obtain⟨hp0,hp1⟩:=hp
  obtain⟨v2,hs1,hs2,hh⟩:=ZbC h q hq
  have hsa:∀ W,(Instr.sliceAt 290 (.pointer (some ⟨w.heap.size,0,none⟩)) none (some (.int .i64 0)) none).run Tryz.prog W=.ok (.slice (some ⟨w.heap.size,0,none⟩) 0 6) W:=fun W=>by
   rw [run_sliceAt_array_h (P:=Tryz.prog) W 290 ⟨w.heap.size,0,none⟩ (by kernel_rfl) .i64 0 (by omega) (by rw [show Tryz.prog.arrayLen 290=6 by kernel_rfl];omega)]
   go_simp
  obtain⟨eb,heb⟩:∃ eb,decide (b.take q=ch p)=eb:=⟨_,rfl⟩
  have HQ:=Lh heb
  clear heb
  have HV:=Lh hv
  go_enter Tryz.func257,Tryz.ntmps257
  go_wp2_with (go_at_call 275;refine(Za6 _ b _ h).mono ?_;rw [HR.out];rintro e w1 ⟨rfl,rfl⟩)
  go_region_with (first
   | (go_at_call 276;refine(Tryz.utf8_ValidRune _ _).mono ?_;rw [hv];rintro e wv ⟨rfl,rfl⟩)
   | (go_at_call 159;refine(Zfn (some 290) _ [] 0 p w.heap.size _ (by exact ZfI w (ch p).length (Zfe p).2) (by simp) (by omega) (by omega)).mono ?_;rintro e w2 ⟨v2,rfl,ho2,hg2,_⟩;have x2:Ext w w2:=Zhz hg2)
   | (go_at_call 82;refine(Zb0 _ _ (b.take q) (ch p) _ (by exact hh.ext x2) (by exact ho2.row)).mono ?_;rw [HQ.out];rintro e w3 ⟨rfl,rfl⟩))
  cases eb
  ·have HZ:=Lh (Zdy HP.out (fun k=>of_decide_eq_false HQ.out k.2))
   go_wp2
   go_ret2
   exact⟨by rw [HZ.out];rfl,x2⟩
  ·have HZ:=Lh (Zf4 HP.out HV.out (of_decide_eq_true HQ.out))
   go_wp2
   go_ret2
   exact⟨by rw [HZ.out];rfl,x2⟩
 ·have HZ:=Lh (Zdy HP.out (fun k=>hv k.1))
  have hv:Lib.validRune p=false:=by simpa using hv
  go_enter Tryz.func257,Tryz.ntmps257
  go_wp2_with (go_at_call 275;refine(Za6 _ b _ h).mono ?_;rw [HR.out];rintro e w1 ⟨rfl,rfl⟩)
  go_quiet ((go_at_call 276;refine Calls.quiet_of_same (Tryz.utf8_ValidRune _ _)))
  go_wp2
  go_ret2
  exact⟨by rw [HZ.out];rfl,((Ext.refl _).alloc _).drewN _⟩
set_option maxRecDepth 100000 in
theorem ZoN (v:Value) (b:List Int) (w:World) (h:Row w .u8 v b) (p:Int) (q:Nat) (HP:Hid (Zcf b=(p,q))) (hp:-2147483648≤p∧p≤2147483647) (hq:q≤b.length) (r r2:Int) (s2:Nat) (HR:Hid (rowZ b=(r,3))) (HR2:Hid (rowZ (b.drop 3)=(r2,s2))) (h0:55296≤r) (h1:r<56320) (h20:0≤r2) (h21:r2≤131071) (hs2:s2≤3) (h3:3≤b.length) (hpe:65536+(r-55296)*1024+(r2-56320)=p) (hqe:(3:Int)+(s2:Int)=(q:Int)) :
 Calls Tryz.prog 257 #[v] w fun e w'=>e=.returned (.tuple #[.int .i32 (ZeN b).1,.int .i64 (ZeN b).2])∧Ext w w':=by
 obtain⟨hpl,hph⟩:=hp
 obtain⟨v3,ht1,ht2,ht⟩:=ZbT h 3 h3
 simp only [show ((3:Nat):Int)=3 from rfl] at ht1 ht2
 by_cases hv:Lib.validRune p=true
 ·have hp:0≤p∧p≤1114111:=by have:=(ZbJ p).1 hv;exact⟨this.lo,this.hi⟩
  obtain⟨hp0,hp1⟩:=hp
  obtain⟨v2,hs1,hs2,hh⟩:=ZbC h q hq
  have hsa:∀ W,(Instr.sliceAt 290 (.pointer (some ⟨w.heap.size,0,none⟩)) none (some (.int .i64 0)) none).run Tryz.prog W=.ok (.slice (some ⟨w.heap.size,0,none⟩) 0 6) W:=fun W=>by
   rw [run_sliceAt_array_h (P:=Tryz.prog) W 290 ⟨w.heap.size,0,none⟩ (by kernel_rfl) .i64 0 (by omega) (by rw [show Tryz.prog.arrayLen 290=6 by kernel_rfl];omega)]
   go_simp
  obtain⟨eb,heb⟩:∃ eb,decide (b.take q=ch p)=eb:=⟨_,rfl⟩
  have HQ:=Lh heb
  clear heb
  have HV:=Lh hv
  go_enter Tryz.func257,Tryz.ntmps257
  go_wp2_with fail
  refine(Za6 _ b _ h).mono ?_
  rw [HR.out]
  rintro e w1 ⟨rfl,rfl⟩
  go_wp2_with fail
  refine(Za6 _ (b.drop 3) _ ht).mono ?_
  rw [HR2.out]
  rintro e w1 ⟨rfl,rfl⟩
  go_wp2
  go_region_with (first
   | (go_at_call 276;refine(Tryz.utf8_ValidRune _ _).mono ?_;rw [hv];rintro e wv ⟨rfl,rfl⟩)
   | (go_at_call 159;refine(Zfn (some 290) _ [] 0 p w.heap.size _ (by exact ZfI w (ch p).length (Zfe p).2) (by simp) (by omega) (by omega)).mono ?_;rintro e w2 ⟨v2,rfl,ho2,hg2,_⟩;have x2:Ext w w2:=Zhz hg2)
   | (go_at_call 82;refine(Zb0 _ _ (b.take q) (ch p) _ (by exact hh.ext x2) (by exact ho2.row)).mono ?_;rw [HQ.out];rintro e w3 ⟨rfl,rfl⟩))
  cases eb
  ·have HZ:=Lh (Zdy HP.out (fun k=>of_decide_eq_false HQ.out k.2))
   go_wp2
   go_ret2
   exact⟨by rw [HZ.out];rfl,x2⟩
  ·have HZ:=Lh (Zf4 HP.out HV.out (of_decide_eq_true HQ.out))
   go_wp2
   go_ret2
   exact⟨by rw [HZ.out];rfl,x2⟩
 ·have HZ:=Lh (Zdy HP.out (fun k=>hv k.1))
  have hv:Lib.validRune p=false:=by simpa using hv
  go_enter Tryz.func257,Tryz.ntmps257
  go_wp2_with fail
  refine(Za6 _ b _ h).mono ?_
  rw [HR.out]
  rintro e w1 ⟨rfl,rfl⟩
  go_wp2_with fail
  refine(Za6 _ (b.drop 3) _ ht).mono ?_
  rw [HR2.out]
  rintro e w1 ⟨rfl,rfl⟩
  go_wp2
  go_quiet ((go_at_call 276;refine Calls.quiet_of_same (Tryz.utf8_ValidRune _ _)))
  go_wp2
  go_ret2
  exact⟨by rw [HZ.out];rfl,((Ext.refl _).alloc _).drewN _⟩
theorem Zku (v:Value) (b:List Int) (w:World) (h:Row w .u8 v b) :
 Calls Tryz.prog 257 #[v] w fun e w'=>e=.returned (.tuple #[.int .i32 (ZaK b).1,.int .i64 (ZaK b).2])∧Ext w w':=by
 have hf:=h.fit
 rw [← Zpl hf]
 have hb:=ZgW hf
 have hrow:rowZ b=((rowZ b).1,(rowZ b).2):=rfl
 by_cases hs:55296≤(rowZ b).1∧(rowZ b).1<56320
 ·obtain⟨e3,h3⟩:=ZpY hf hs.1
  have hb2:=ZgW (hf.drop 3)
  have hp:=ZiW hs
  rw [e3] at hp hrow
  rw [List.length_drop] at hb2
  exact ZoN v b w h _ (3+(rowZ (b.drop 3)).2) (Lh hp) (by omega) (by omega) (rowZ b).1 (rowZ (b.drop 3)).1 (rowZ (b.drop 3)).2 (Lh hrow) (Lh rfl) hs.1 hs.2 hb2.1 hb2.2.1 hb2.2.2.1 h3 rfl (by omega)
 ·have hp:=Zee hs
  by_cases hl:(rowZ b).1<55296
  ·exact Zsc v b w h _ _ (Lh (hp.trans hrow)) (by omega) hb.2.2.2 (Lh hrow) hl
  ·exact Zsl v b w h _ _ (Lh (hp.trans hrow)) (by omega) hb.2.2.2 (Lh hrow) (by omega)
def BldP (B b:Nat) (l:List UInt8) (w:World):Prop:=Lib.IsBuilder 96 5 B b (Lib.byteCells l) w
theorem ZpR {B b:Nat} {l:List UInt8} {w w':World} (h:BldP B b l w) (he:Ext w w'):BldP B b l w':=by
 have key:∀ p,Lib.BuilderAt 96 5 B b p (Lib.byteCells l) w→Lib.BuilderAt 96 5 B b p (Lib.byteCells l) w':=by
  rintro p ⟨hB,v,hb,hown,hne⟩
  refine⟨hB,v,(he.block b (Zab hb)).trans hb,⟨hown.1,?_⟩,hne⟩
  rcases hown.2 with h2 | ⟨g,cap,cur,hv,hbg,hg,hr⟩
  ·exact .inl h2
  ·exact .inr ⟨g,cap,cur,hv,hbg,(he.block g (Zab hg)).trans hg,hr⟩
 exact h.elim (fun x=>.inl (key _ x)) (fun x=>.inr (key _ x))
theorem Zkx:∃ j,Tryz.prog.info? 96=some j∧j.size=2:=by
 have h:(Tryz.prog.info? 96).map (·.size)=some 2:=by kernel_rfl
 obtain⟨j,hj,hs⟩:=Option.map_eq_some_iff.1 h
 exact⟨j,hj,hs⟩
theorem Zo0:liesAt Tryz.prog Tryz.prog.depth 96 (2/Tryz.prog.cellsOf 96) 0 96 1=true:=by kernel_rfl
set_option maxRecDepth 100000 in
theorem Zfk (b:Nat) (w:World) (h0:w.cell? ⟨b,0,none⟩=some (.pointer none)) (hsh:w.shape? b=some (96,2)) (hf:w.frozen? ⟨b,0,none⟩=false) :
 Calls Tryz.prog 105 #[.pointer (some ⟨b,0,none⟩)] w fun e w'=>e=.returned (.tuple #[])∧w'=w.setCell ⟨b,0,none⟩ (.pointer (some ⟨b,0,none⟩)):=by
 obtain⟨j,hj,hjs⟩:=Zkx
 go_enter Tryz.func105,Tryz.ntmps105
 go_wp2
 rw [Lib.run_to_unsafe w ⟨b,0,none⟩ Tryz.underlying94 Tryz.underlying190 hj (by rw [hjs];decide) hsh (Nat.zero_lt_succ 1)]
 simp only [Result.andThen]
 rw [Oper.upon_value]
 go_wp2
 rw [run_callFunc_extern Tryz.func153 (by kernel_rfl) (by kernel_rfl) (by kernel_rfl) (e:=Extern.AbiNoEscape.same) (by kernel_rfl)]
 rw [Lib.run_noEscape]
 simp only [Result.andThen]
 rw [Oper.upon_value]
 go_wp2
 rw [Lib.run_from_unsafe w ⟨b,0,none⟩ Tryz.underlying190 Tryz.underlying94 hj hsh Zo0]
 simp only [Result.andThen]
 rw [Oper.upon_value]
 go_wp2
 go_end0
 exact⟨rfl,rfl⟩
set_option maxRecDepth 100000 in
theorem Zgm (b:Nat) (w:World) (h0:w.cell? ⟨b,0,none⟩=some (.pointer (some ⟨b,0,none⟩))) :
 Calls Tryz.prog 105 #[.pointer (some ⟨b,0,none⟩)] w fun e w'=>e=.returned (.tuple #[])∧w'=w:=by
 obtain⟨j,hj,hjs⟩:=Zkx
 go_enter Tryz.func105,Tryz.ntmps105
 go_wp2
 rw [Lib.run_neq_ptr_same w _ Tryz.underlying94 hj]
 go_wp2
 go_end0
 exact⟨rfl,rfl⟩
theorem ZgA (B b:Nat) (l:List UInt8) (w:World) (h:BldP B b l w) :
 Calls Tryz.prog 105 #[.pointer (some ⟨b,0,none⟩)] w fun e w'=>e=.returned (.tuple #[])∧(Lib.BuilderAt 96 5 B b (.pointer (some ⟨b,0,none⟩)) (Lib.byteCells l) w'∧Below B w w'):=by
 rcases h with h | h
 ·refine(Zfk b w h.cell0 h.shape h.frozen0).mono ?_
  rintro e w' ⟨rfl,rfl⟩
  exact⟨rfl,h.used _,(Below.refl B w).setCell (p:=⟨b,0,none⟩) h.1 _⟩
 ·refine(Zgm b w h.cell0).mono ?_
  rintro e w' ⟨rfl,rfl⟩
  exact⟨rfl,h,Below.refl B _⟩
set_option maxRecDepth 100000 in
theorem ZhO (B b:Nat) (l:List UInt8) (r:Int) (w:World) (h:BldP B b l w) (hr0:0≤r) (hr1:r≤1114111) (hl:l.length+4≤140737488355328) (hB:B≤w.heap.size) :
 Calls Tryz.prog 258 #[.pointer (some ⟨b,0,none⟩),.int .i32 r] w fun e w'=>(∃ n,e=.returned (.tuple #[.int .i64 n,.nilIface]))∧BldP B b (l++Lib.encodeRune r) w'∧Below B w w':=by
 have hlc:(Lib.byteCells l).length=l.length:=Lib.byteCells_length l
 have hk4:=Lib.runeCells_le r
 obtain⟨C,hC⟩:∃ C,C=Lib.byteCells l:=⟨_,rfl⟩
 have c:=ZgA B b l w h
 rw [← hC] at c hlc
 have HC:=Lh hC
 clear hC h
 have HL:=Lh hlc
 clear hlc
 go_enter Tryz.func258,Tryz.ntmps258
 go_wp2_with fail
 refine c.mono ?_
 rintro e w1 ⟨rfl,⟨hBb,v,hbk,hown,hne⟩,hb1⟩
 obtain⟨ao,cap,rfl⟩:∃ ao cap,v=.slice ao C.length cap:=by
  rcases hown.2 with⟨hv,h0⟩ | ⟨g,cap,cur,hv,_⟩
  ·exact⟨none,0,by rw [hv,h0]⟩
  ·exact⟨_,_,hv⟩
 have c0:w1.cell? ⟨b,0,none⟩=some (.pointer (some ⟨b,0,none⟩)):=by rw [Lib.cell_of_heap hbk];rfl
 have c1:w1.cell? ⟨b,1,none⟩=some (.slice ao C.length cap):=by rw [Lib.cell_of_heap hbk];rfl
 have hB1:B≤w1.heap.size:=Nat.le_trans hB hb1.size
 go_wp2_with fail
 refine(Tryz.utf8_AppendRune_plain B _ C.length C r (by omega) (by omega) _ hown (by have:=HL.out;omega) hB1).mono ?_
 rintro e w2 ⟨v',rfl,hown',o,hgrow⟩
 have hlt:b<w1.heap.size:=Zab hbk
 have hb2:w2.heap[b]?=some (.cells #[.pointer (some ⟨b,0,none⟩),.slice ao C.length cap] 96 (0,0)):=by
  rw [hgrow.block b (by simp;omega) (fun e=>hne e.symm),Lib.alloc_old w1 _ b hlt]
  exact hbk
 have d0:w2.cell? ⟨b,0,none⟩=some (.pointer (some ⟨b,0,none⟩)):=by rw [Lib.cell_of_heap hb2];rfl
 have d1:w2.cell? ⟨b,1,none⟩=some (.slice ao C.length cap):=by rw [Lib.cell_of_heap hb2];rfl
 have f1:w2.frozen? ⟨b,1,none⟩=false:=Lib.frozen_of_heap hb2 1
 obtain⟨g,cap',rfl⟩:∃ g cap',v'=.slice (some ⟨g,0,none⟩) (C.length+(Lib.runeCells r).length) cap':=by
  rcases hown'.2 with⟨_,h0⟩ | ⟨g,cap',cur,hv,_⟩
  ·omega
  ·exact⟨g,cap',hv⟩
 go_wp2
 go_ret2
 refine⟨⟨_,rfl⟩,?_,?_⟩
 ·refine .inr ?_
  have e:Lib.byteCells (l++Lib.encodeRune r)=C++Lib.runeCells r:=by rw [Lib.byteCells_append,← HC.out,Lib.byteCells_encodeRune]
  rw [e]
  exact Lib.BuilderAt.put hBb hb2 (by simpa using hown') (by decide)
 ·exact((hb1.alloc hB1 o).grown hgrow (by have:=hb1.size;simp;omega) (fun k hk=>(World.ownsRow.lt hown k hk).1)).setCell (p:=⟨b,1,none⟩) hBb _
end Go.Proofs.YtclamhhgldkhnaaGreatDoor
