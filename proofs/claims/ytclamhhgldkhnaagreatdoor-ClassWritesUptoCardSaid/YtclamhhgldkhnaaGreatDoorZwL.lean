/- Several texts of this proof, one behind the other. -/
import Derived.Test.YtclamhhgldkhnaaGreatDoorZwK
import Derived.BigQuiet
import Derived.Test.YtclamhhgldkhnaaGreatDoorProg
import Derived.Test.YtclamhhgldkhnaaGreatDoorZwE
import Derived.Test.YtclamhhgldkhnaaGreatDoorZwG
import Derived.LoopN
import Derived.Deep.QuietTactic
import Derived.Deep.RegionHeld3
namespace Go.Proofs.YtclamhhgldkhnaaGreatDoor
open Go.RowKit
set_option linter.unusedVariables false
set_option maxHeartbeats 16000000
theorem Zd0 {w W:World} {x:In} {v1 v2:Value} (e:Ext (w.alloc (.cells (x.vals v1 v2) 178)) W) :
 W.cell? ⟨w.heap.size,0,none⟩=some (.int .i64 x.a)∧W.cell? ⟨w.heap.size,1,none⟩=some (.int .i64 x.o)∧W.cell? ⟨w.heap.size,2,none⟩=some (.int .i64 x.n)∧W.cell? ⟨w.heap.size,3,none⟩=some (.int .i64 x.m)∧W.cell? ⟨w.heap.size,4,none⟩=some v1∧W.cell? ⟨w.heap.size,5,none⟩=some v2:=by
 have hb:=(e.block w.heap.size (by simp)).trans (heap_alloc_new w (.cells (x.vals v1 v2) 178))
 refine⟨?_,?_,?_,?_,?_,?_⟩ <;> rw [cell_of_row W w.heap.size _ _ _ (0,0) hb] <;> rfl
def UpTo (l:List Int) (k:Nat):Prop:=∀ j,j<k→ZbO (gi l j)=true∧(0<j→gi l (j-1)<gi l j)
theorem Zec:∀ (l:List Int),rise l=true↔UpTo l l.length
 | []=>⟨fun _ j hj=>by simp at hj,fun _=>rfl⟩
 | [k]=>by
  constructor
  ·intro h j hj
   have hj:j=0:=by simpa using hj
   subst hj
   exact⟨h,fun h=>by omega⟩
  ·intro h
   exact(h 0 (by simp)).1
 | k :: l :: r=>by
  have ih:=Zec (l :: r)
  rw [rise,Bool.and_eq_true,Bool.and_eq_true,decide_eq_true_eq,ih]
  constructor
  ·rintro ⟨⟨h1,h2⟩,h3⟩ j hj
   match j,hj with
   | 0,_=>exact⟨h1,fun h=>by omega⟩
   | 1,_=>exact⟨(h3 0 (by simp)).1,fun _=>h2⟩
   | j+2,hj =>
    have:=h3 (j+1) (by simp at hj ⊢;omega)
    exact⟨this.1,fun _=>this.2 (by omega)⟩
  ·intro h
   refine⟨⟨(h 0 (by simp)).1,(h 1 (by simp)).2 (by omega)⟩,fun j hj=>?_⟩
   have:=h (j+1) (by simp at hj ⊢;omega)
   refine⟨this.1,fun h0=>?_⟩
   obtain⟨i,rfl⟩:∃ i,j=i+1:=⟨j-1,by omega⟩
   exact this.2 (by omega)
theorem UpTo.next {l:List Int} {k:Nat} (h:UpTo l k) (h1:ZbO (gi l k)=true) (h2:0<k→gi l (k-1)<gi l k):UpTo l (k+1):=by
 intro j hj
 by_cases e:j=k
 ·subst e
  exact⟨h1,h2⟩
 ·exact h j (by omega)
theorem Zoi (n:Int):inR (-2147483648) 2147483647 n=ZbO n:=rfl
def ZcS (x:In):Bool:=if Zad x.o=6 then ZbO (x.n+x.to.length-2) else true
def ZeM (x:In):Bool:=if Zad x.o=7 then decide (x.ks.length+1=x.to.length)&&rise x.ks else decide (x.ks=[])
def mayP (x:In):Bool:=inOp x.o&&inR 0 8191 x.a&&inR (rnl (Zad x.o)) (rnh (Zad x.o)) x.n&&inR (rml (Zad x.o)) (rmh (Zad x.o)) x.m&&inR (rtl (Zad x.o)) (rth (Zad x.o)) x.to.length&&x.to.all (inR 0 8191)&&ZcS x&&ZeM x
theorem Zpe {n:Int}:inR 0 0 n=decide (n=0):=by unfold inR;rw [decide_eq_decide];omega
theorem Zt1 {l:List Int}:inR 0 0 (l.length:Int)=decide (l=[]):=by
 rw [Zpe,decide_eq_decide]
 cases l
 ·simp
 ·simp;omega
theorem ZmP {a:Int} {l:List Int} (h:0≤a∧a<8192):l.all (inR 0 8191)=l.all (Zbh a):=by
 congr 1
 funext t
 unfold inR Zbh
 rw [decide_eq_decide]
 omega
theorem Zro (x:In):mayP x=mayI x:=by
 by_cases hp:0≤x.a∧x.a<8192∧0≤x.o∧x.o≤89
 ·have h1:inOp x.o=true:=by unfold inOp;simp;omega
  have h2:inR 0 8191 x.a=true:=by unfold inR;simp;omega
  unfold mayP mayI
  rw [h1,h2,decide_eq_true hp,ZmP (a:=x.a) ⟨hp.1,hp.2.1⟩]
  clear h1 h2 hp
  obtain⟨a,o,n,m,to,ks⟩:=x
  simp only
  unfold Zan ZcS ZeM
  simp only
  obtain⟨z,hz⟩:∃ z,z=Zad o:=⟨_,rfl⟩
  have hz7:=Zb2 o
  rw [← hz] at hz7 ⊢
  have hc:z=0∨z=1∨z=2∨z=3∨z=4∨z=5∨z=6∨z=7:=by omega
  clear hz hz7
  generalize to.all (Zbh a)=T
  have hkr:ks=[]→rise ks=true:=fun e=>by rw [e];rfl
  have hlen:((to.length:Int)=0)↔to=[]:=by cases to <;> simp <;> omega
  rcases hc with rfl | rfl | rfl | rfl | rfl | rfl | rfl | rfl
  all_goals
   simp only [rnl,rnh,rml,rmh,rtl,rth,inR,ZbO]
   rw [Bool.eq_iff_iff]
   simp only [Bool.and_eq_true,decide_eq_true_eq,Bool.true_and]
   simp
   first | omega | (constructor <;> intro h <;> simp_all <;> omega) | (constructor <;> intro h <;> simp_all)
 ·have h1:mayI x=false:=by unfold mayI;rw [decide_eq_false hp];rfl
  rw [h1]
  unfold mayP
  have h2:(inOp x.o&&inR 0 8191 x.a)=false:=by
   unfold inOp inR
   rw [Bool.and_eq_false_iff,decide_eq_false_iff_not,decide_eq_false_iff_not]
   omega
  rw [h2]
  rfl
theorem Znq (w:World):Calls Tryz.prog 284 #[] w fun e w'=>e=.returned (.agg #[.int .i64 (-2147483648),.int .i64 2147483647])∧Ext w w' :=
 (Zf2 w).mono fun e w' ⟨h1,h2⟩=>⟨h1,by rw [h2];exact(Ext.refl w).alloc _⟩
theorem Zg9 (w:World):Calls Tryz.prog 269 #[] w fun e w'=>e=.returned (.agg #[.int .i64 0,.int .i64 8191])∧Ext w w' :=
 (ZeO w).mono fun e w' ⟨h1,h2⟩=>⟨h1,by rw [h2];exact(Ext.refl w).alloc _⟩
theorem Zgy (x:In) (v1 v2:Value) (w:World) (h1:Row w .i64 v1 x.to) (h2:Row w .i64 v2 x.ks) (hb:Zad x.o=6→(-2147483648≤x.n∧x.n≤2147483647)∧x.to.length≤1001) :
 Calls Tryz.prog 273 #[.agg (x.vals v1 v2)] w fun e w'=>e=.returned (.bool (ZcS x))∧Ext w w':=by
 obtain⟨A1,c1,rfl,-⟩:=h1
 obtain⟨A2,c2,rfl,-⟩:=h2
 unfold ZcS
 have HB:=Lh (fun W e=>Zd0 (w:=w) (W:=W) (x:=x) (v1:=.slice A1 x.to.length c1) (v2:=.slice A2 x.ks.length c2) e)
 have B0:=HB.out _ (Ext.refl _)
 obtain⟨d0,d1,d2,d3,d4,d5⟩:=B0
 unfold In.vals at HB d0 d1 d2 d3 d4 d5 ⊢
 by_cases hz:Zad x.o=6
 ·rw [if_pos hz]
  have HZ:=Lh hz
  obtain⟨⟨b1,b2⟩,b3⟩:=hb hz
  clear hz hb
  have ha:IntKind.i64.wrap (x.n+(x.to.length:Int))=x.n+x.to.length:=by rw [IntKind.wrap_i64];omega
  have hs:IntKind.i64.wrap (x.n+(x.to.length:Int)-2)=x.n+x.to.length-2:=by rw [IntKind.wrap_i64];omega
  go_enter Tryz.func273,Tryz.ntmps273
  go_wp2
  go_region_with (first
   | (go_at_call 262;refine(ZaI _ _).mono ?_;rintro e w1 ⟨rfl,x1⟩;rw [HZ.out];have X1:=(((Ext.refl _).drewN _).trans x1);obtain⟨d10,d11,d12,d13,d14,d15⟩:=HB.out _ X1)
   | (go_at_call 284;refine(Znq _).mono ?_;rintro e w2 ⟨rfl,x2⟩;have X2:=X1.trans x2;obtain⟨d20,d21,d22,d23,d24,d25⟩:=HB.out _ X2)
   | (go_at_call 270;refine(Zbk _ _ _ _).mono ?_;rintro e w3 ⟨rfl,x3⟩))
  all_goals
   go_wp2
   go_ret
   exact⟨rfl,(((Ext.refl w).alloc _).trans X2).trans x3⟩
 ·rw [if_neg hz]
  have hzb:(Zad x.o != 6)=true:=by simpa using hz
  clear hz hb
  go_enter Tryz.func273,Tryz.ntmps273
  go_wp2
  first | (go_region_with (first
   | (go_at_call 262;refine(ZaI _ _).mono ?_;rintro e w1 ⟨rfl,x1⟩))) | fail
  all_goals
   go_wp2
   go_ret
   exact⟨rfl,((Ext.refl w).alloc _).trans (((Ext.refl _).drewN _).trans x1)⟩
theorem ZdC (w:World):Calls Tryz.prog 284 #[] w fun e w'=>e=.returned (.agg #[.int .i64 (-2147483648),.int .i64 2147483647])∧Ext w w' :=
 (Zf2 w).mono fun e w' ⟨h1,h2⟩=>⟨h1,by rw [h2];exact(Ext.refl w).alloc _⟩
theorem Row.all {w:World} {k:IntKind} {A:Option Addr} {n c:Nat} {l:List Int} (h:Row w k (.slice A n c) l) (hl:0<l.length):∃ b o,A=some ⟨b,o,none⟩∧∀ W,Ext w W→∀ j,j<l.length→W.cell? ⟨b,o+j,none⟩=some (.int k (gi l j)):=by
 obtain⟨A',c',h1,h2,h3,h4,h5,h6⟩:=h
 obtain⟨b,o,rfl,hb,hc⟩:=h6 hl
 injection h1 with e1 e2 e3
 subst e1
 exact⟨b,o,rfl,fun W e j hj=>(e.cell (p:=⟨b,o+j,none⟩) hb).trans (hc j hj)⟩
theorem Zll {x:In} (hz:Zad x.o=7) (hl:x.ks.length+1=x.to.length) {k:Nat} (hk:k<x.ks.length) (h:¬ (ZbO (gi x.ks k)=true∧(0<k→gi x.ks (k-1)<gi x.ks k))):ZeM x=false:=by
 unfold ZeM
 rw [if_pos hz,decide_eq_true hl,Bool.true_and,Bool.eq_false_iff]
 intro hr
 exact h ((Zec _).1 hr k hk)
theorem ZmV {x:In} (hz:Zad x.o=7) (hl:x.ks.length+1=x.to.length) (h:UpTo x.ks x.ks.length):ZeM x=true:=by
 unfold ZeM
 rw [if_pos hz,decide_eq_true hl,Bool.true_and]
 exact(Zec _).2 h
theorem Zok {x:In} (hz:Zad x.o=7) (hl:¬ x.ks.length+1=x.to.length):ZeM x=false:=by
 unfold ZeM
 rw [if_pos hz,decide_eq_false hl,Bool.false_and]
theorem Zjp (x:In) (v1 v2:Value) (w:World) (h1:Row w .i64 v1 x.to) (h2:Row w .i64 v2 x.ks) :
 Calls Tryz.prog 274 #[.agg (x.vals v1 v2)] w fun e w'=>e=.returned (.bool (ZeM x))∧Ext w w':=by
 have H2:=Lh h2
 obtain⟨A1,c1,rfl,hc1,hm1,-⟩:=h1
 obtain⟨A2,c2,rfl,hc2,hm2,-⟩:=h2
 unfold maxLen at hm1 hm2
 have HB:=Lh (fun W e=>Zd0 (w:=w) (W:=W) (x:=x) (v1:=.slice A1 x.to.length c1) (v2:=.slice A2 x.ks.length c2) e)
 obtain⟨d0,d1,d2,d3,d4,d5⟩:=HB.out _ (Ext.refl _)
 unfold In.vals at HB d0 d1 d2 d3 d4 d5 ⊢
 clear d0 d2 d3
 by_cases hz:Zad x.o=7
 ·have HZ:=Lh hz
  clear hz
  have ha:IntKind.i64.wrap ((x.to.length:Int)-1)=x.to.length-1:=by rw [IntKind.wrap_i64];omega
  by_cases hl:x.ks.length+1=x.to.length
  ·have HL:=Lh hl
   have hl2:((x.ks.length:Int) != (x.to.length:Int)-1)=false:=by simp;omega
   clear hl
   have HM:=Lh (And.intro hm1 hm2)
   go_enter Tryz.func274,Tryz.ntmps274
   go_wp2_with (first
    | (go_at_call 262;refine(ZaI _ _).mono ?_;rintro e w1 ⟨rfl,x1⟩;rw [HZ.out];obtain⟨d10,d11,d12,d13,d14,d15⟩:=HB.out _ x1))
   clear d10 d11 d12 d13 d14 hl2 ha d1 d4 d5
   go_loopw [24] (fun i wr=>∃ k:Nat,k≤x.ks.length∧i=.int .i64 k∧Hid (Ext w1 wr)∧Hid (UpTo x.ks k)) (fun i _=>x.ks.length-(intOf i).toNat)
   case atStart=>exact⟨0,by omega,rfl,Lh (Ext.refl w1),Lh (fun j hj=>by omega)⟩
   case round =>
    obtain⟨k,hk,rfl,HX,HU⟩:=hrel
    by_cases hlt:k<x.ks.length
    ·obtain⟨b1,o1,rfl,hat⟩:=H2.out.all (by omega)
     have HAT:=Lh hat
     have y0:=hat _ ((((Ext.refl w).alloc _).trans x1).trans HX.out) k (by omega)
     obtain⟨d20,d21,d22,d23,d24,d25⟩:=HB.out _ (x1.trans HX.out)
     clear hat d15 d20 d21 d22 d23 d24
     by_cases he:inR (-2147483648) 2147483647 (gi x.ks k)=true
     ·have HE:=Lh he
      clear he
      match k,hk,hlt with
      | 0,hk,hlt =>
       rw [Nat.add_zero] at y0
       go_wp2_with (first
        | (go_at_call 284;refine(ZdC _).mono ?_;rintro e w2 ⟨rfl,x2⟩)
        | (go_at_call 270;refine(Zbk _ _ _ _).mono ?_;rintro e w3 ⟨rfl,x3⟩;rw [HE.out]))
       go_roundw
       case rel=>exact⟨1,by omega,by go_num,Lh ((HX.out.trans x2).trans x3),Lh (HU.out.next HE.out (fun h=>by omega))⟩
       case measure=>simp [intOf];omega
      | j+1,hk,hlt =>
       have hj:IntKind.i64.wrap (((j+1:Nat):Int)-1)=j:=by rw [IntKind.wrap_i64];have:=HM.out;omega
       by_cases hr:gi x.ks j<gi x.ks (j+1)
       ·have hr2:¬ gi x.ks (j+1)≤gi x.ks j:=by omega
        go_wp2_with (first
         | (go_at_call 284;refine(ZdC _).mono ?_;rintro e w2 ⟨rfl,x2⟩)
         | (go_at_call 270;refine(Zbk _ _ _ _).mono ?_;rintro e w3 ⟨rfl,x3⟩;rw [HE.out];have X3:=(HX.out.trans x2).trans x3;have y3:=HAT.out _ (((Ext.refl w).alloc _).trans (x1.trans X3)) j (by omega);obtain⟨d30,d31,d32,d33,d34,d35⟩:=HB.out _ (x1.trans X3)))
        go_roundw
        case rel=>exact⟨j+1+1,by omega,by go_num,Lh X3,Lh (HU.out.next HE.out (fun _=>by simpa using hr))⟩
        case measure=>simp [intOf];omega
       ·have hr2:gi x.ks (j+1)≤gi x.ks j:=by omega
        have HR:=Lh hr
        go_wp2_with (first
         | (go_at_call 284;refine(ZdC _).mono ?_;rintro e w2 ⟨rfl,x2⟩)
         | (go_at_call 270;refine(Zbk _ _ _ _).mono ?_;rintro e w3 ⟨rfl,x3⟩;rw [HE.out];have X3:=(HX.out.trans x2).trans x3;have y3:=HAT.out _ (((Ext.refl w).alloc _).trans (x1.trans X3)) j (by omega);obtain⟨d30,d31,d32,d33,d34,d35⟩:=HB.out _ (x1.trans X3)))
        go_ret
        refine⟨Zag (Zll HZ.out HL.out hlt (fun h=>?_)).symm,((Ext.refl w).alloc _).trans (x1.trans X3)⟩
        have h3:gi x.ks j<gi x.ks (j+1):=by simpa using h.2 (by omega)
        have h4:=HR.out
        omega
     ·have HE:=Lh (show inR (-2147483648) 2147483647 (gi x.ks k)=false by simpa using he)
      clear he
      go_wp2_with (first
       | (go_at_call 284;refine(ZdC _).mono ?_;rintro e w2 ⟨rfl,x2⟩)
       | (go_at_call 270;refine(Zbk _ _ _ _).mono ?_;rintro e w3 ⟨rfl,x3⟩;rw [HE.out]))
      go_ret
      refine⟨Zag (Zll HZ.out HL.out hlt (fun h=>?_)).symm,((Ext.refl w).alloc _).trans (x1.trans ((HX.out.trans x2).trans x3))⟩
      have h1:=h.1
      rw [← Zoi,HE.out] at h1
      cases h1
    ·obtain rfl:k=x.ks.length:=by omega
     go_wp2
     go_ret
     exact⟨Zag (ZmV HZ.out HL.out HU.out).symm,((Ext.refl w).alloc _).trans (x1.trans HX.out)⟩
  ·have HL:=Lh hl
   have hl2:((x.ks.length:Int) != (x.to.length:Int)-1)=true:=by simp;omega
   clear hl
   go_enter Tryz.func274,Tryz.ntmps274
   go_wp2_with (first
    | (go_at_call 262;refine(ZaI _ _).mono ?_;rintro e w1 ⟨rfl,x1⟩;rw [HZ.out];obtain⟨d10,d11,d12,d13,d14,d15⟩:=HB.out _ x1))
   go_ret
   exact⟨Zag (Zok HZ.out HL.out).symm,((Ext.refl w).alloc _).trans x1⟩
 ·have HZ:=Lh hz
  have hzb:(Zad x.o != 7)=true:=by simpa using hz
  clear hz
  go_enter Tryz.func274,Tryz.ntmps274
  go_wp2_with (first
   | (go_at_call 262;refine(ZaI _ _).mono ?_;rintro e w1 ⟨rfl,x1⟩;obtain⟨d10,d11,d12,d13,d14,d15⟩:=HB.out _ x1))
  go_ret
  refine⟨Zag ?_,((Ext.refl w).alloc _).trans x1⟩
  unfold ZeM
  rw [if_neg HZ.out]
  cases x.ks <;> simp
  try omega
def isNo:Value→Bool
 | .bool false=>true
 | _=>false
theorem Zsp {v:Value} (h:isNo v=true):v=.bool false:=by
 match v,h with
 | .bool false,_=>rfl
theorem Znx:Tryz.zeroCells260.toList.all isNo=true:=by kernel_rfl
theorem Zps {j:Nat} (h:j<8192):Tryz.zeroCells260[j]?=some (.bool false):=by
 have hs:=Tryz.zeroCells260_size
 have h2:=List.all_eq_true.1 Znx _ (Array.getElem_mem_toList (by rw [hs];exact h):Tryz.zeroCells260[j]'(by rw [hs];exact h)∈_)
 rw [Array.getElem?_eq_getElem (by rw [hs];exact h),Zsp h2]
theorem fo_0 {x:In} (h:Zad x.o=0):Zan x=true↔x.n=0∧x.m=0∧x.to.length=0∧x.ks.length=0:=by
 unfold Zan
 simp [h,and_assoc]
theorem fo_1 {x:In} (h:Zad x.o=1):Zan x=true↔(0≤x.n∧x.n≤255)∧x.m=0∧x.to.length=0∧x.ks.length=0:=by
 unfold Zan
 simp [h,and_assoc]
theorem fo_2 {x:In} (h:Zad x.o=2):Zan x=true↔(-32768≤x.n∧x.n≤32767)∧x.m=0∧x.to.length=0∧x.ks.length=0:=by
 unfold Zan
 simp [h,and_assoc]
theorem fo_3 {x:In} (h:Zad x.o=3):Zan x=true↔(0≤x.n∧x.n≤65535)∧x.m=0∧x.to.length=0∧x.ks.length=0:=by
 unfold Zan
 simp [h,and_assoc]
theorem fo_4 {x:In} (h:Zad x.o=4):Zan x=true↔x.n=0∧x.m=0∧x.to.length=1∧x.ks.length=0:=by
 unfold Zan
 simp [h,and_assoc]
theorem fo_5 {x:In} (h:Zad x.o=5):Zan x=true↔(0≤x.n∧x.n≤255)∧(-128≤x.m∧x.m≤127)∧x.to.length=0∧x.ks.length=0:=by
 unfold Zan
 simp [h,and_assoc]
theorem fo_6 {x:In} (h:Zad x.o=6):Zan x=true↔(2≤x.to.length∧x.to.length≤1001)∧ZbO x.n=true∧ZbO (x.n+x.to.length-2)=true∧x.m=0∧x.ks.length=0:=by
 unfold Zan
 simp [h,and_assoc]
theorem fo_7 {x:In} (h:Zad x.o=7):Zan x=true↔x.n=0∧x.m=0∧(1≤x.to.length∧x.to.length≤1001)∧x.ks.length+1=x.to.length:=by
 unfold Zan
 simp [h,and_assoc]
theorem ZbR {a b:Int} (h:a=b):(a != b)=false:=by simp [h]
theorem Zda {a b:Int} (h:¬ a=b):(a != b)=true:=by simpa using h
theorem Zah {x:In} (hm:mayI x=(Zan x&&rise x.ks)) (h:¬ Zan x=true):false=mayI x:=by
 rw [hm]
 have:Zan x=false:=by simpa using h
 rw [this]
 rfl
theorem ZdZ {x:In} (hm:mayI x=(Zan x&&rise x.ks)) (h:Zan x=true) (hr:x.ks.length=0):true=mayI x:=by
 rw [hm,h,List.eq_nil_of_length_eq_zero hr]
 rfl
theorem Zng {x:In} (hm:mayI x=(Zan x&&rise x.ks)) {k:Nat} (hk:k<x.ks.length) (h:¬ (ZbO (gi x.ks k)=true∧(0<k→gi x.ks (k-1)<gi x.ks k))):false=mayI x:=by
 have:rise x.ks=false:=by
  rw [Bool.eq_false_iff]
  intro hr
  exact h ((Zec _).1 hr k hk)
 rw [hm,this,Bool.and_false]
theorem ZpA {x:In} (hm:mayI x=(Zan x&&rise x.ks)) (h:Zan x=true) (hr:UpTo x.ks x.ks.length):true=mayI x:=by
 rw [hm,h,(Zec _).2 hr]
 rfl
theorem ZdG {P:Program} {f:FuncId} {args:Array Value} {w:World} {n:Nat} {v:Value}
 (h:Calls P f args (w.drewN n) fun e w'=>e=.returned v∧w'=w.drewN n):Calls P f args (w.drewN n) fun e w''=>e=.returned v∧∃ m,w''=w.drewN m :=
 h.mono fun _ _ ⟨he,hm⟩=>⟨he,n,hm⟩
theorem Zbu (w:World) (n:Nat):Ext w (w.drewN n):=(Ext.refl w).drewN n
set_option maxRecDepth 100000 in
theorem Zlw (x:In) (v1 v2:Value) (w:World) (h1:Row w .i64 v1 x.to) (h2:Row w .i64 v2 x.ks) (ho:¬ (0≤x.a∧x.a<8192∧0≤x.o∧x.o≤89)) :
 Calls Tryz.prog 208 #[.agg (x.vals v1 v2)] w fun e w'=>e=.returned (.bool (mayI x))∧Ext w w':=by
 have hm:mayI x=false:=by unfold mayI;rw [decide_eq_false ho];rfl
 rw [hm]
 obtain⟨A1,k1,rfl,-⟩:=h1
 obtain⟨A2,k2,rfl,-⟩:=h2
 obtain⟨d0,d1,d2,d3,d4,d5⟩:=Zd0 (w:=w) (x:=x) (v1:=.slice A1 x.to.length k1) (v2:=.slice A2 x.ks.length k2) (Ext.refl _)
 unfold In.vals at d0 d1 d2 d3 d4 d5 ⊢
 have hc:x.a<0∨(¬ x.a<0∧8192≤x.a)∨(¬ x.a<0∧¬ 8192≤x.a∧x.o<0)∨(¬ x.a<0∧¬ 8192≤x.a∧¬ x.o<0∧89<x.o):=by omega
 clear hm ho
 rcases hc with q | ⟨q,q1⟩ | ⟨q,q1,q2⟩ | ⟨q,q1,q2,q3⟩
 all_goals
  go_enter Tryz.func208,Tryz.ntmps208
  go_wp2
  go_ret
  exact⟨rfl,(Ext.refl w).alloc _⟩
set_option maxRecDepth 100000 in
theorem Zo3 (x:In) (v1 v2:Value) (w:World) (h1:Row w .i64 v1 x.to) (h2:Row w .i64 v2 x.ks) (ho:0≤x.a∧x.a<8192∧0≤x.o∧x.o≤89) (hzc:Zad x.o=0∨Zad x.o=1) :
 Calls Tryz.prog 208 #[.agg (x.vals v1 v2)] w fun e w'=>e=.returned (.bool (mayI x))∧Ext w w':=by
 have H1:=Lh h1
 have H2:=Lh h2
 obtain⟨A1,k1,rfl,hc1,hm1,-⟩:=h1
 obtain⟨A2,k2,rfl,hc2,hm2,-⟩:=h2
 unfold maxLen at hm1 hm2
 have HB:=Lh (fun W e=>Zd0 (w:=w) (W:=W) (x:=x) (v1:=.slice A1 x.to.length k1) (v2:=.slice A2 x.ks.length k2) e)
 obtain⟨d0,d1,d2,d3,d4,d5⟩:=HB.out _ (Ext.refl _)
 have HMT:=Lh (fun t W=>ZbE x A1 A2 x.to.length k1 x.ks.length k2 t W ⟨ho.1,ho.2.1⟩)
 have HM0:=Lh (show x.to.all (Zbh x.a)=true→mayI x=(Zan x&&rise x.ks) from fun h=>by unfold mayI;rw [decide_eq_true ho,h];rfl)
 have HM1:=Lh (show x.to.all (Zbh x.a)=false→mayI x=false from fun h=>by unfold mayI;rw [decide_eq_true ho,h];rfl)
 have q0:¬ x.a<0:=by omega
 have q1:¬ 8192≤x.a:=by omega
 have q2:¬ x.o<0:=by omega
 have q3:¬ 89<x.o:=by omega
 unfold In.vals at HB HMT d0 d1 d2 d3 d4 d5 ⊢
 clear ho
 go_enter Tryz.func208,Tryz.ntmps208
 go_wp2_with fail
 clear q0 q1 q2 q3 d0 d1 d2 d3 d4 d5
 go_loopw [3] (fun i wr=>∃ k:Nat,i=.int .i64 k∧k≤x.to.length∧Hid (Ext (w.alloc (.cells #[.int .i64 x.a,.int .i64 x.o,.int .i64 x.n,.int .i64 x.m,.slice A1 x.to.length k1,.slice A2 x.ks.length k2] 178)) wr)∧Hid ((x.to.take k).all (Zbh x.a)=true)) (fun i _=>x.to.length-(intOf i).toNat)
 case atStart=>exact⟨0,rfl,by omega,Lh (Ext.refl _),Lh rfl⟩
 case round =>
  obtain⟨k,rfl,hk,HX,HT⟩:=hrel
  obtain⟨d0,d1,d2,d3,d4,d5⟩:=HB.out _ HX.out
  by_cases hlt:k<x.to.length
  ·obtain⟨b1,o1,rfl,hat⟩:=H1.out.all (by omega)
   have HAT:=Lh hat
   have y0:=hat _ (((Ext.refl w).alloc _).trans HX.out) k hlt
   have hk0:(0:Int)≤k:=by omega
   have hkl:(k:Int)<x.to.length:=by omega
   obtain⟨t,ht⟩:∃ t,gi x.to k=t:=⟨_,rfl⟩
   rw [ht] at y0
   have HTT:=Lh ht
   clear hat ht
   obtain⟨mb,hmb⟩:∃ mb,Zbh x.a t=mb:=⟨_,rfl⟩
   have HMB:=Lh hmb
   clear hmb
   have E1:=And.intro d0 (And.intro d1 (And.intro d2 (And.intro d3 (And.intro d4 (And.intro d5 y0)))))
   cases mb
   all_goals
    go_wp2_with fail
    go_region_held3 (fun w'=>w'.cell? ⟨w.heap.size,0,none⟩=some (.int .i64 x.a)∧w'.cell? ⟨w.heap.size,1,none⟩=some (.int .i64 x.o)∧w'.cell? ⟨w.heap.size,2,none⟩=some (.int .i64 x.n)∧w'.cell? ⟨w.heap.size,3,none⟩=some (.int .i64 x.m)∧w'.cell? ⟨w.heap.size,4,none⟩=some (.slice (some ⟨b1,o1,none⟩) x.to.length k1)∧w'.cell? ⟨w.heap.size,5,none⟩=some (.slice A2 x.ks.length k2)∧w'.cell? ⟨b1,o1+k,none⟩=some (.int .i64 t)) (first | exact⟨d0,d1,d2,d3,d4,d5,y0⟩ | with_reducible exact E2) (first
     | (go_at_call 237;(with_reducible refine(HMT.out t _).mono ?_);rintro e w2 ⟨rfl,x2⟩;rw [HMB.out];have X2:=HX.out.trans ((Ext.refl _).drew.trans x2);obtain⟨e0,e1,e2,e3,e4,e5⟩:=HB.out _ X2;have y2:=HAT.out _ (((Ext.refl w).alloc _).trans X2) k hlt;rw [HTT.out] at y2;have E2:=And.intro e0 (And.intro e1 (And.intro e2 (And.intro e3 (And.intro e4 (And.intro e5 y2)))))))
   ·go_wp2
    go_ret
    exact⟨Zag (HM1.out (by
     rw [List.all_eq_false]
     exact⟨_,Zbb hlt,by rw [HTT.out,HMB.out];simp⟩)).symm,((Ext.refl w).alloc _).trans X2⟩
   ·go_wp2_with fail
    go_roundw
    case rel =>
     refine⟨k+1,by go_num,by omega,Lh X2,Lh ?_⟩
     rw [Zdw hlt,List.all_append,HT.out,HTT.out]
     simp [HMB.out]
    case measure=>simp [intOf];omega
  ·obtain rfl:k=x.to.length:=by omega
   have HM:=Lh (HM0.out (by have:=HT.out;rwa [List.take_length] at this))
   obtain⟨nb,hnb⟩:∃ nb,(x.n==0)=nb:=⟨_,rfl⟩
   obtain⟨mb,hmb⟩:∃ mb,(x.m==0)=mb:=⟨_,rfl⟩
   have HNB:=Lh hnb
   have HMB:=Lh hmb
   go_wp2_with fail
   go_quiet (fail)
   go_wp2_with fail
   refine(Zbn _ _).mono ?_
   rintro e W2 ⟨rfl,hW2⟩
   have X2:=HX.out.trans (Zbu wr nq)
   rw [← hW2] at X2
   clear hW2 d0 d1 d2 d3 d4 d5
   have HX2:=Lh X2
   obtain⟨d0,d1,d2,d3,d4,d5⟩:=HB.out _ X2
   clear X2 hnb hmb d0 d1
   rcases hzc with hz | hz
   ·have HZ:=Lh hz
    rw [hz]
    clear hz
    by_cases l1:x.to.length=0∧x.ks.length=0
    ·have LEN:=Lh l1
     have l2:((x.to.length:Int) != 0)=false:=ZbR (by omega)
     have l3:((x.ks.length:Int) != 0)=false:=ZbR (by omega)
     have l4:¬ (0:Int)<x.ks.length:=by omega
     clear l1
     cases nb
     ·have en:¬ x.n=0:=by simpa using HNB.out
      have En:=Lh en
      clear en
      cases mb
      ·have em:¬ x.m=0:=by simpa using HMB.out
       have Em:=Lh em
       clear em
       go_wp2_with fail
       refine wp_loop_rounds 1 ?_
       rw [rounds_succ]
       go_wp2
       go_ret
       exact⟨Zag (Zah HM.out (fun h=>by have h:=(fo_0 HZ.out).1 h;have L:=LEN.out;have a:=En.out;have b:=Em.out;omega)),((Ext.refl w).alloc _).trans HX2.out⟩
      ·have em:x.m=0:=by simpa using HMB.out
       have Em:=Lh em
       clear em
       go_wp2_with fail
       refine wp_loop_rounds 1 ?_
       rw [rounds_succ]
       go_wp2
       go_ret
       exact⟨Zag (Zah HM.out (fun h=>by have h:=(fo_0 HZ.out).1 h;have L:=LEN.out;have a:=En.out;have b:=Em.out;omega)),((Ext.refl w).alloc _).trans HX2.out⟩
     ·have en:x.n=0:=by simpa using HNB.out
      have En:=Lh en
      clear en
      cases mb
      ·have em:¬ x.m=0:=by simpa using HMB.out
       have Em:=Lh em
       clear em
       go_wp2_with fail
       refine wp_loop_rounds 1 ?_
       rw [rounds_succ]
       go_wp2
       go_ret
       exact⟨Zag (Zah HM.out (fun h=>by have h:=(fo_0 HZ.out).1 h;have L:=LEN.out;have a:=En.out;have b:=Em.out;omega)),((Ext.refl w).alloc _).trans HX2.out⟩
      ·have em:x.m=0:=by simpa using HMB.out
       have Em:=Lh em
       clear em
       go_wp2_with fail
       refine wp_loop_rounds 1 ?_
       rw [rounds_succ]
       go_wp2
       go_ret
       exact⟨Zag (ZdZ HM.out ((fo_0 HZ.out).2 (by have L:=LEN.out;have a:=En.out;have b:=Em.out;omega)) (by have L:=LEN.out;omega)),((Ext.refl w).alloc _).trans HX2.out⟩
    ·have LEN:=Lh l1
     have c1:(((x.to.length:Int) != 0)=true)∨(((x.to.length:Int) != 0)=false∧((x.ks.length:Int) != 0)=true):=by
      by_cases h:x.to.length=0
      ·exact .inr ⟨ZbR (by omega),Zda (by omega)⟩
      ·exact .inl (Zda (by omega))
     clear l1
     rcases c1 with l2 | ⟨l2,l3⟩
     all_goals
      go_wp2
      all_goals
       go_ret
       exact⟨Zag (Zah HM.out (fun h=>by have h:=(fo_0 HZ.out).1 h;have L:=LEN.out;omega)),((Ext.refl w).alloc _).trans HX2.out⟩
   ·have HZ:=Lh hz
    rw [hz]
    clear hz
    by_cases l1:x.to.length=0∧x.ks.length=0
    ·have LEN:=Lh l1
     have l2:((x.to.length:Int) != 0)=false:=ZbR (by omega)
     have l3:((x.ks.length:Int) != 0)=false:=ZbR (by omega)
     have l4:¬ (0:Int)<x.ks.length:=by omega
     clear l1
     have cn:(0≤x.n∧x.n≤255)∨¬ 0≤x.n∨(0≤x.n∧¬ x.n≤255):=by omega
     rcases cn with⟨pn,qn⟩ | pn | ⟨pn,qn⟩
     ·skip
      cases mb
      ·have em:¬ x.m=0:=by simpa using HMB.out
       have Em:=Lh em
       clear em
       go_wp2_with fail
       refine wp_loop_rounds 1 ?_
       rw [rounds_succ]
       go_wp2
       go_ret
       exact⟨Zag (Zah HM.out (fun h=>by have h:=(fo_1 HZ.out).1 h;have L:=LEN.out;have b:=Em.out;omega)),((Ext.refl w).alloc _).trans HX2.out⟩
      ·have em:x.m=0:=by simpa using HMB.out
       have Em:=Lh em
       clear em
       go_wp2_with fail
       refine wp_loop_rounds 1 ?_
       rw [rounds_succ]
       go_wp2
       go_ret
       exact⟨Zag (ZdZ HM.out ((fo_1 HZ.out).2 (by have L:=LEN.out;have b:=Em.out;omega)) (by have L:=LEN.out;omega)),((Ext.refl w).alloc _).trans HX2.out⟩
     ·skip
      cases mb
      ·have em:¬ x.m=0:=by simpa using HMB.out
       have Em:=Lh em
       clear em
       go_wp2_with fail
       refine wp_loop_rounds 1 ?_
       rw [rounds_succ]
       go_wp2
       go_ret
       exact⟨Zag (Zah HM.out (fun h=>by have h:=(fo_1 HZ.out).1 h;have L:=LEN.out;have b:=Em.out;omega)),((Ext.refl w).alloc _).trans HX2.out⟩
      ·have em:x.m=0:=by simpa using HMB.out
       have Em:=Lh em
       clear em
       go_wp2_with fail
       refine wp_loop_rounds 1 ?_
       rw [rounds_succ]
       go_wp2
       go_ret
       exact⟨Zag (Zah HM.out (fun h=>by have h:=(fo_1 HZ.out).1 h;have L:=LEN.out;have b:=Em.out;omega)),((Ext.refl w).alloc _).trans HX2.out⟩
     ·skip
      cases mb
      ·have em:¬ x.m=0:=by simpa using HMB.out
       have Em:=Lh em
       clear em
       go_wp2_with fail
       refine wp_loop_rounds 1 ?_
       rw [rounds_succ]
       go_wp2
       go_ret
       exact⟨Zag (Zah HM.out (fun h=>by have h:=(fo_1 HZ.out).1 h;have L:=LEN.out;have b:=Em.out;omega)),((Ext.refl w).alloc _).trans HX2.out⟩
      ·have em:x.m=0:=by simpa using HMB.out
       have Em:=Lh em
       clear em
       go_wp2_with fail
       refine wp_loop_rounds 1 ?_
       rw [rounds_succ]
       go_wp2
       go_ret
       exact⟨Zag (Zah HM.out (fun h=>by have h:=(fo_1 HZ.out).1 h;have L:=LEN.out;have b:=Em.out;omega)),((Ext.refl w).alloc _).trans HX2.out⟩
    ·have LEN:=Lh l1
     have c1:(((x.to.length:Int) != 0)=true)∨(((x.to.length:Int) != 0)=false∧((x.ks.length:Int) != 0)=true):=by
      by_cases h:x.to.length=0
      ·exact .inr ⟨ZbR (by omega),Zda (by omega)⟩
      ·exact .inl (Zda (by omega))
     clear l1
     rcases c1 with l2 | ⟨l2,l3⟩
     all_goals
      go_wp2
      all_goals
       go_ret
       exact⟨Zag (Zah HM.out (fun h=>by have h:=(fo_1 HZ.out).1 h;have L:=LEN.out;omega)),((Ext.refl w).alloc _).trans HX2.out⟩
set_option maxRecDepth 100000 in
theorem ZpX (x:In) (v1 v2:Value) (w:World) (h1:Row w .i64 v1 x.to) (h2:Row w .i64 v2 x.ks) (ho:0≤x.a∧x.a<8192∧0≤x.o∧x.o≤89) (hzc:Zad x.o=2∨Zad x.o=3) :
 Calls Tryz.prog 208 #[.agg (x.vals v1 v2)] w fun e w'=>e=.returned (.bool (mayI x))∧Ext w w':=by
 have H1:=Lh h1
 have H2:=Lh h2
 obtain⟨A1,k1,rfl,hc1,hm1,-⟩:=h1
 obtain⟨A2,k2,rfl,hc2,hm2,-⟩:=h2
 unfold maxLen at hm1 hm2
 have HB:=Lh (fun W e=>Zd0 (w:=w) (W:=W) (x:=x) (v1:=.slice A1 x.to.length k1) (v2:=.slice A2 x.ks.length k2) e)
 obtain⟨d0,d1,d2,d3,d4,d5⟩:=HB.out _ (Ext.refl _)
 have HMT:=Lh (fun t W=>ZbE x A1 A2 x.to.length k1 x.ks.length k2 t W ⟨ho.1,ho.2.1⟩)
 have HM0:=Lh (show x.to.all (Zbh x.a)=true→mayI x=(Zan x&&rise x.ks) from fun h=>by unfold mayI;rw [decide_eq_true ho,h];rfl)
 have HM1:=Lh (show x.to.all (Zbh x.a)=false→mayI x=false from fun h=>by unfold mayI;rw [decide_eq_true ho,h];rfl)
 have q0:¬ x.a<0:=by omega
 have q1:¬ 8192≤x.a:=by omega
 have q2:¬ x.o<0:=by omega
 have q3:¬ 89<x.o:=by omega
 unfold In.vals at HB HMT d0 d1 d2 d3 d4 d5 ⊢
 clear ho
 go_enter Tryz.func208,Tryz.ntmps208
 go_wp2_with fail
 clear q0 q1 q2 q3 d0 d1 d2 d3 d4 d5
 go_loopw [3] (fun i wr=>∃ k:Nat,i=.int .i64 k∧k≤x.to.length∧Hid (Ext (w.alloc (.cells #[.int .i64 x.a,.int .i64 x.o,.int .i64 x.n,.int .i64 x.m,.slice A1 x.to.length k1,.slice A2 x.ks.length k2] 178)) wr)∧Hid ((x.to.take k).all (Zbh x.a)=true)) (fun i _=>x.to.length-(intOf i).toNat)
 case atStart=>exact⟨0,rfl,by omega,Lh (Ext.refl _),Lh rfl⟩
 case round =>
  obtain⟨k,rfl,hk,HX,HT⟩:=hrel
  obtain⟨d0,d1,d2,d3,d4,d5⟩:=HB.out _ HX.out
  by_cases hlt:k<x.to.length
  ·obtain⟨b1,o1,rfl,hat⟩:=H1.out.all (by omega)
   have HAT:=Lh hat
   have y0:=hat _ (((Ext.refl w).alloc _).trans HX.out) k hlt
   have hk0:(0:Int)≤k:=by omega
   have hkl:(k:Int)<x.to.length:=by omega
   obtain⟨t,ht⟩:∃ t,gi x.to k=t:=⟨_,rfl⟩
   rw [ht] at y0
   have HTT:=Lh ht
   clear hat ht
   obtain⟨mb,hmb⟩:∃ mb,Zbh x.a t=mb:=⟨_,rfl⟩
   have HMB:=Lh hmb
   clear hmb
   have E1:=And.intro d0 (And.intro d1 (And.intro d2 (And.intro d3 (And.intro d4 (And.intro d5 y0)))))
   cases mb
   all_goals
    go_wp2_with fail
    go_region_held3 (fun w'=>w'.cell? ⟨w.heap.size,0,none⟩=some (.int .i64 x.a)∧w'.cell? ⟨w.heap.size,1,none⟩=some (.int .i64 x.o)∧w'.cell? ⟨w.heap.size,2,none⟩=some (.int .i64 x.n)∧w'.cell? ⟨w.heap.size,3,none⟩=some (.int .i64 x.m)∧w'.cell? ⟨w.heap.size,4,none⟩=some (.slice (some ⟨b1,o1,none⟩) x.to.length k1)∧w'.cell? ⟨w.heap.size,5,none⟩=some (.slice A2 x.ks.length k2)∧w'.cell? ⟨b1,o1+k,none⟩=some (.int .i64 t)) (first | exact⟨d0,d1,d2,d3,d4,d5,y0⟩ | with_reducible exact E2) (first
     | (go_at_call 237;(with_reducible refine(HMT.out t _).mono ?_);rintro e w2 ⟨rfl,x2⟩;rw [HMB.out];have X2:=HX.out.trans ((Ext.refl _).drew.trans x2);obtain⟨e0,e1,e2,e3,e4,e5⟩:=HB.out _ X2;have y2:=HAT.out _ (((Ext.refl w).alloc _).trans X2) k hlt;rw [HTT.out] at y2;have E2:=And.intro e0 (And.intro e1 (And.intro e2 (And.intro e3 (And.intro e4 (And.intro e5 y2)))))))
   ·go_wp2
    go_ret
    exact⟨Zag (HM1.out (by
     rw [List.all_eq_false]
     exact⟨_,Zbb hlt,by rw [HTT.out,HMB.out];simp⟩)).symm,((Ext.refl w).alloc _).trans X2⟩
   ·go_wp2_with fail
    go_roundw
    case rel =>
     refine⟨k+1,by go_num,by omega,Lh X2,Lh ?_⟩
     rw [Zdw hlt,List.all_append,HT.out,HTT.out]
     simp [HMB.out]
    case measure=>simp [intOf];omega
  ·obtain rfl:k=x.to.length:=by omega
   have HM:=Lh (HM0.out (by have:=HT.out;rwa [List.take_length] at this))
   obtain⟨nb,hnb⟩:∃ nb,(x.n==0)=nb:=⟨_,rfl⟩
   obtain⟨mb,hmb⟩:∃ mb,(x.m==0)=mb:=⟨_,rfl⟩
   have HNB:=Lh hnb
   have HMB:=Lh hmb
   go_wp2_with fail
   go_quiet (fail)
   go_wp2_with fail
   refine(Zbn _ _).mono ?_
   rintro e W2 ⟨rfl,hW2⟩
   have X2:=HX.out.trans (Zbu wr nq)
   rw [← hW2] at X2
   clear hW2 d0 d1 d2 d3 d4 d5
   have HX2:=Lh X2
   obtain⟨d0,d1,d2,d3,d4,d5⟩:=HB.out _ X2
   clear X2 hnb hmb d0 d1
   rcases hzc with hz | hz
   ·have HZ:=Lh hz
    rw [hz]
    clear hz
    by_cases l1:x.to.length=0∧x.ks.length=0
    ·have LEN:=Lh l1
     have l2:((x.to.length:Int) != 0)=false:=ZbR (by omega)
     have l3:((x.ks.length:Int) != 0)=false:=ZbR (by omega)
     have l4:¬ (0:Int)<x.ks.length:=by omega
     clear l1
     have cn:((-32768)≤x.n∧x.n≤32767)∨¬ (-32768)≤x.n∨((-32768)≤x.n∧¬ x.n≤32767):=by omega
     rcases cn with⟨pn,qn⟩ | pn | ⟨pn,qn⟩
     ·skip
      cases mb
      ·have em:¬ x.m=0:=by simpa using HMB.out
       have Em:=Lh em
       clear em
       go_wp2_with fail
       refine wp_loop_rounds 1 ?_
       rw [rounds_succ]
       go_wp2
       go_ret
       exact⟨Zag (Zah HM.out (fun h=>by have h:=(fo_2 HZ.out).1 h;have L:=LEN.out;have b:=Em.out;omega)),((Ext.refl w).alloc _).trans HX2.out⟩
      ·have em:x.m=0:=by simpa using HMB.out
       have Em:=Lh em
       clear em
       go_wp2_with fail
       refine wp_loop_rounds 1 ?_
       rw [rounds_succ]
       go_wp2
       go_ret
       exact⟨Zag (ZdZ HM.out ((fo_2 HZ.out).2 (by have L:=LEN.out;have b:=Em.out;omega)) (by have L:=LEN.out;omega)),((Ext.refl w).alloc _).trans HX2.out⟩
     ·skip
      cases mb
      ·have em:¬ x.m=0:=by simpa using HMB.out
       have Em:=Lh em
       clear em
       go_wp2_with fail
       refine wp_loop_rounds 1 ?_
       rw [rounds_succ]
       go_wp2
       go_ret
       exact⟨Zag (Zah HM.out (fun h=>by have h:=(fo_2 HZ.out).1 h;have L:=LEN.out;have b:=Em.out;omega)),((Ext.refl w).alloc _).trans HX2.out⟩
      ·have em:x.m=0:=by simpa using HMB.out
       have Em:=Lh em
       clear em
       go_wp2_with fail
       refine wp_loop_rounds 1 ?_
       rw [rounds_succ]
       go_wp2
       go_ret
       exact⟨Zag (Zah HM.out (fun h=>by have h:=(fo_2 HZ.out).1 h;have L:=LEN.out;have b:=Em.out;omega)),((Ext.refl w).alloc _).trans HX2.out⟩
     ·skip
      cases mb
      ·have em:¬ x.m=0:=by simpa using HMB.out
       have Em:=Lh em
       clear em
       go_wp2_with fail
       refine wp_loop_rounds 1 ?_
       rw [rounds_succ]
       go_wp2
       go_ret
       exact⟨Zag (Zah HM.out (fun h=>by have h:=(fo_2 HZ.out).1 h;have L:=LEN.out;have b:=Em.out;omega)),((Ext.refl w).alloc _).trans HX2.out⟩
      ·have em:x.m=0:=by simpa using HMB.out
       have Em:=Lh em
       clear em
       go_wp2_with fail
       refine wp_loop_rounds 1 ?_
       rw [rounds_succ]
       go_wp2
       go_ret
       exact⟨Zag (Zah HM.out (fun h=>by have h:=(fo_2 HZ.out).1 h;have L:=LEN.out;have b:=Em.out;omega)),((Ext.refl w).alloc _).trans HX2.out⟩
    ·have LEN:=Lh l1
     have c1:(((x.to.length:Int) != 0)=true)∨(((x.to.length:Int) != 0)=false∧((x.ks.length:Int) != 0)=true):=by
      by_cases h:x.to.length=0
      ·exact .inr ⟨ZbR (by omega),Zda (by omega)⟩
      ·exact .inl (Zda (by omega))
     clear l1
     rcases c1 with l2 | ⟨l2,l3⟩
     all_goals
      go_wp2
      all_goals
       go_ret
       exact⟨Zag (Zah HM.out (fun h=>by have h:=(fo_2 HZ.out).1 h;have L:=LEN.out;omega)),((Ext.refl w).alloc _).trans HX2.out⟩
   ·have HZ:=Lh hz
    rw [hz]
    clear hz
    by_cases l1:x.to.length=0∧x.ks.length=0
    ·have LEN:=Lh l1
     have l2:((x.to.length:Int) != 0)=false:=ZbR (by omega)
     have l3:((x.ks.length:Int) != 0)=false:=ZbR (by omega)
     have l4:¬ (0:Int)<x.ks.length:=by omega
     clear l1
     have cn:(0≤x.n∧x.n≤65535)∨¬ 0≤x.n∨(0≤x.n∧¬ x.n≤65535):=by omega
     rcases cn with⟨pn,qn⟩ | pn | ⟨pn,qn⟩
     ·skip
      cases mb
      ·have em:¬ x.m=0:=by simpa using HMB.out
       have Em:=Lh em
       clear em
       go_wp2_with fail
       refine wp_loop_rounds 1 ?_
       rw [rounds_succ]
       go_wp2
       go_ret
       exact⟨Zag (Zah HM.out (fun h=>by have h:=(fo_3 HZ.out).1 h;have L:=LEN.out;have b:=Em.out;omega)),((Ext.refl w).alloc _).trans HX2.out⟩
      ·have em:x.m=0:=by simpa using HMB.out
       have Em:=Lh em
       clear em
       go_wp2_with fail
       refine wp_loop_rounds 1 ?_
       rw [rounds_succ]
       go_wp2
       go_ret
       exact⟨Zag (ZdZ HM.out ((fo_3 HZ.out).2 (by have L:=LEN.out;have b:=Em.out;omega)) (by have L:=LEN.out;omega)),((Ext.refl w).alloc _).trans HX2.out⟩
     ·skip
      cases mb
      ·have em:¬ x.m=0:=by simpa using HMB.out
       have Em:=Lh em
       clear em
       go_wp2_with fail
       refine wp_loop_rounds 1 ?_
       rw [rounds_succ]
       go_wp2
       go_ret
       exact⟨Zag (Zah HM.out (fun h=>by have h:=(fo_3 HZ.out).1 h;have L:=LEN.out;have b:=Em.out;omega)),((Ext.refl w).alloc _).trans HX2.out⟩
      ·have em:x.m=0:=by simpa using HMB.out
       have Em:=Lh em
       clear em
       go_wp2_with fail
       refine wp_loop_rounds 1 ?_
       rw [rounds_succ]
       go_wp2
       go_ret
       exact⟨Zag (Zah HM.out (fun h=>by have h:=(fo_3 HZ.out).1 h;have L:=LEN.out;have b:=Em.out;omega)),((Ext.refl w).alloc _).trans HX2.out⟩
     ·skip
      cases mb
      ·have em:¬ x.m=0:=by simpa using HMB.out
       have Em:=Lh em
       clear em
       go_wp2_with fail
       refine wp_loop_rounds 1 ?_
       rw [rounds_succ]
       go_wp2
       go_ret
       exact⟨Zag (Zah HM.out (fun h=>by have h:=(fo_3 HZ.out).1 h;have L:=LEN.out;have b:=Em.out;omega)),((Ext.refl w).alloc _).trans HX2.out⟩
      ·have em:x.m=0:=by simpa using HMB.out
       have Em:=Lh em
       clear em
       go_wp2_with fail
       refine wp_loop_rounds 1 ?_
       rw [rounds_succ]
       go_wp2
       go_ret
       exact⟨Zag (Zah HM.out (fun h=>by have h:=(fo_3 HZ.out).1 h;have L:=LEN.out;have b:=Em.out;omega)),((Ext.refl w).alloc _).trans HX2.out⟩
    ·have LEN:=Lh l1
     have c1:(((x.to.length:Int) != 0)=true)∨(((x.to.length:Int) != 0)=false∧((x.ks.length:Int) != 0)=true):=by
      by_cases h:x.to.length=0
      ·exact .inr ⟨ZbR (by omega),Zda (by omega)⟩
      ·exact .inl (Zda (by omega))
     clear l1
     rcases c1 with l2 | ⟨l2,l3⟩
     all_goals
      go_wp2
      all_goals
       go_ret
       exact⟨Zag (Zah HM.out (fun h=>by have h:=(fo_3 HZ.out).1 h;have L:=LEN.out;omega)),((Ext.refl w).alloc _).trans HX2.out⟩
end Go.Proofs.YtclamhhgldkhnaaGreatDoor
