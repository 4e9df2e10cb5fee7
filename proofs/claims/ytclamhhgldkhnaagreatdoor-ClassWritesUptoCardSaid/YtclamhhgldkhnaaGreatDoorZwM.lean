/- Several texts of this proof, one behind the other. -/
import Derived.Test.YtclamhhgldkhnaaGreatDoorZwL
import Derived.LoopN
import Derived.BigQuiet
import Derived.Deep.QuietTactic
import Derived.Deep.RegionHeld3
namespace Go.Proofs.YtclamhhgldkhnaaGreatDoor
open Go.RowKit
set_option linter.unusedVariables false
set_option maxHeartbeats 16000000
set_option maxRecDepth 100000 in
theorem ZoP (x:In) (v1 v2:Value) (w:World) (h1:Row w .i64 v1 x.to) (h2:Row w .i64 v2 x.ks) (ho:0≤x.a∧x.a<8192∧0≤x.o∧x.o≤89) (hzc:Zad x.o=4∨Zad x.o=5) :
 Calls Tryz.prog 208 #[.agg (x.vals v1 v2)] w fun e w'=>e=.returned (.bool (mayI x))∧Ext w w':=by
 have H1:=Lh h1
 have H2:=Lh h2
 obtain⟨A1,k1,rfl,hc1,hm1,-⟩:=h1
 obtain⟨A2,k2,rfl,hc2,hm2,-⟩:=h2
 unfold maxLen at hm1 hm2
 have HB:=Lh (fun W e=>Zd0 (w:=w) (W:=W) (x:=x) (v1:=.slice A1 x.to.length k1) (v2:=.slice A2 x.ks.length k2) e)
 obtain⟨d0,d1,d2,d3,d4,d5⟩:=HB.out _ (Ext.refl _)
 have HMT:=Lh (fun t W=>ZbE x A1 A2 x.to.length k1 x.ks.length k2 t W ⟨ho.1,ho.2.1⟩)
 have HM0:=Lh (show x.to.all (Zbh x.a)=true→mayI x=(Zan x&&rise x.ks) from fun h=>by unfold mayI;rw [decide_eq_true ho,h];rfl)
 have HM1:=Lh (show x.to.all (Zbh x.a)=false→mayI x=false from fun h=>by unfold mayI;rw [decide_eq_true ho,h];rfl)
 have q0:¬ x.a<0:=by omega
 have q1:¬ 8192≤x.a:=by omega
 have q2:¬ x.o<0:=by omega
 have q3:¬ 89<x.o:=by omega
 unfold In.vals at HB HMT d0 d1 d2 d3 d4 d5 ⊢
 clear ho
 go_enter Tryz.func208,Tryz.ntmps208
 go_wp2_with fail
 clear q0 q1 q2 q3 d0 d1 d2 d3 d4 d5
 go_loopw [3] (fun i wr=>∃ k:Nat,i=.int .i64 k∧k≤x.to.length∧Hid (Ext (w.alloc (.cells #[.int .i64 x.a,.int .i64 x.o,.int .i64 x.n,.int .i64 x.m,.slice A1 x.to.length k1,.slice A2 x.ks.length k2] 178)) wr)∧Hid ((x.to.take k).all (Zbh x.a)=true)) (fun i _=>x.to.length-(intOf i).toNat)
 case atStart=>exact⟨0,rfl,by omega,Lh (Ext.refl _),Lh rfl⟩
 case round =>
  obtain⟨k,rfl,hk,HX,HT⟩:=hrel
  obtain⟨d0,d1,d2,d3,d4,d5⟩:=HB.out _ HX.out
  by_cases hlt:k<x.to.length
  ·obtain⟨b1,o1,rfl,hat⟩:=H1.out.all (by omega)
   have HAT:=Lh hat
   have y0:=hat _ (((Ext.refl w).alloc _).trans HX.out) k hlt
   have hk0:(0:Int)≤k:=by omega
   have hkl:(k:Int)<x.to.length:=by omega
   obtain⟨t,ht⟩:∃ t,gi x.to k=t:=⟨_,rfl⟩
   rw [ht] at y0
   have HTT:=Lh ht
   clear hat ht
   obtain⟨mb,hmb⟩:∃ mb,Zbh x.a t=mb:=⟨_,rfl⟩
   have HMB:=Lh hmb
   clear hmb
   have E1:=And.intro d0 (And.intro d1 (And.intro d2 (And.intro d3 (And.intro d4 (And.intro d5 y0)))))
   cases mb
   all_goals
    go_wp2_with fail
    go_region_held3 (fun w'=>w'.cell? ⟨w.heap.size,0,none⟩=some (.int .i64 x.a)∧w'.cell? ⟨w.heap.size,1,none⟩=some (.int .i64 x.o)∧w'.cell? ⟨w.heap.size,2,none⟩=some (.int .i64 x.n)∧w'.cell? ⟨w.heap.size,3,none⟩=some (.int .i64 x.m)∧w'.cell? ⟨w.heap.size,4,none⟩=some (.slice (some ⟨b1,o1,none⟩) x.to.length k1)∧w'.cell? ⟨w.heap.size,5,none⟩=some (.slice A2 x.ks.length k2)∧w'.cell? ⟨b1,o1+k,none⟩=some (.int .i64 t)) (first | exact⟨d0,d1,d2,d3,d4,d5,y0⟩ | with_reducible exact E2) (first
     | (go_at_call 237;(with_reducible refine(HMT.out t _).mono ?_);rintro e w2 ⟨rfl,x2⟩;rw [HMB.out];have X2:=HX.out.trans ((Ext.refl _).drew.trans x2);obtain⟨e0,e1,e2,e3,e4,e5⟩:=HB.out _ X2;have y2:=HAT.out _ (((Ext.refl w).alloc _).trans X2) k hlt;rw [HTT.out] at y2;have E2:=And.intro e0 (And.intro e1 (And.intro e2 (And.intro e3 (And.intro e4 (And.intro e5 y2)))))))
   ·go_wp2
    go_ret
    exact⟨Zag (HM1.out (by
     rw [List.all_eq_false]
     exact⟨_,Zbb hlt,by rw [HTT.out,HMB.out];simp⟩)).symm,((Ext.refl w).alloc _).trans X2⟩
   ·go_wp2_with fail
    go_roundw
    case rel =>
     refine⟨k+1,by go_num,by omega,Lh X2,Lh ?_⟩
     rw [Zdw hlt,List.all_append,HT.out,HTT.out]
     simp [HMB.out]
    case measure=>simp [intOf];omega
  ·obtain rfl:k=x.to.length:=by omega
   have HM:=Lh (HM0.out (by have:=HT.out;rwa [List.take_length] at this))
   obtain⟨nb,hnb⟩:∃ nb,(x.n==0)=nb:=⟨_,rfl⟩
   obtain⟨mb,hmb⟩:∃ mb,(x.m==0)=mb:=⟨_,rfl⟩
   have HNB:=Lh hnb
   have HMB:=Lh hmb
   go_wp2_with fail
   go_quiet (fail)
   go_wp2_with fail
   refine(Zbn _ _).mono ?_
   rintro e W2 ⟨rfl,hW2⟩
   have X2:=HX.out.trans (Zbu wr nq)
   rw [← hW2] at X2
   clear hW2 d0 d1 d2 d3 d4 d5
   have HX2:=Lh X2
   obtain⟨d0,d1,d2,d3,d4,d5⟩:=HB.out _ X2
   clear X2 hnb hmb d0 d1
   rcases hzc with hz | hz
   ·have HZ:=Lh hz
    rw [hz]
    clear hz
    by_cases l1:x.to.length=1∧x.ks.length=0
    ·have LEN:=Lh l1
     have l2:((x.to.length:Int) != 1)=false:=ZbR (by omega)
     have l3:((x.ks.length:Int) != 0)=false:=ZbR (by omega)
     have l4:¬ (0:Int)<x.ks.length:=by omega
     clear l1
     cases nb
     ·have en:¬ x.n=0:=by simpa using HNB.out
      have En:=Lh en
      clear en
      cases mb
      ·have em:¬ x.m=0:=by simpa using HMB.out
       have Em:=Lh em
       clear em
       go_wp2_with fail
       refine wp_loop_rounds 1 ?_
       rw [rounds_succ]
       go_wp2
       go_ret
       exact⟨Zag (Zah HM.out (fun h=>by have h:=(fo_4 HZ.out).1 h;have L:=LEN.out;have a:=En.out;have b:=Em.out;omega)),((Ext.refl w).alloc _).trans HX2.out⟩
      ·have em:x.m=0:=by simpa using HMB.out
       have Em:=Lh em
       clear em
       go_wp2_with fail
       refine wp_loop_rounds 1 ?_
       rw [rounds_succ]
       go_wp2
       go_ret
       exact⟨Zag (Zah HM.out (fun h=>by have h:=(fo_4 HZ.out).1 h;have L:=LEN.out;have a:=En.out;have b:=Em.out;omega)),((Ext.refl w).alloc _).trans HX2.out⟩
     ·have en:x.n=0:=by simpa using HNB.out
      have En:=Lh en
      clear en
      cases mb
      ·have em:¬ x.m=0:=by simpa using HMB.out
       have Em:=Lh em
       clear em
       go_wp2_with fail
       refine wp_loop_rounds 1 ?_
       rw [rounds_succ]
       go_wp2
       go_ret
       exact⟨Zag (Zah HM.out (fun h=>by have h:=(fo_4 HZ.out).1 h;have L:=LEN.out;have a:=En.out;have b:=Em.out;omega)),((Ext.refl w).alloc _).trans HX2.out⟩
      ·have em:x.m=0:=by simpa using HMB.out
       have Em:=Lh em
       clear em
       go_wp2_with fail
       refine wp_loop_rounds 1 ?_
       rw [rounds_succ]
       go_wp2
       go_ret
       exact⟨Zag (ZdZ HM.out ((fo_4 HZ.out).2 (by have L:=LEN.out;have a:=En.out;have b:=Em.out;omega)) (by have L:=LEN.out;omega)),((Ext.refl w).alloc _).trans HX2.out⟩
    ·have LEN:=Lh l1
     have c1:(((x.to.length:Int) != 1)=true)∨(((x.to.length:Int) != 1)=false∧((x.ks.length:Int) != 0)=true):=by
      by_cases h:x.to.length=1
      ·exact .inr ⟨ZbR (by omega),Zda (by omega)⟩
      ·exact .inl (Zda (by omega))
     clear l1
     rcases c1 with l2 | ⟨l2,l3⟩
     all_goals
      go_wp2
      all_goals
       go_ret
       exact⟨Zag (Zah HM.out (fun h=>by have h:=(fo_4 HZ.out).1 h;have L:=LEN.out;omega)),((Ext.refl w).alloc _).trans HX2.out⟩
   ·have HZ:=Lh hz
    rw [hz]
    clear hz
    by_cases l1:x.to.length=0∧x.ks.length=0
    ·have LEN:=Lh l1
     have l2:((x.to.length:Int) != 0)=false:=ZbR (by omega)
     have l3:((x.ks.length:Int) != 0)=false:=ZbR (by omega)
     have l4:¬ (0:Int)<x.ks.length:=by omega
     clear l1
     have cn:(0≤x.n∧x.n≤255)∨¬ 0≤x.n∨(0≤x.n∧¬ x.n≤255):=by omega
     rcases cn with⟨pn,qn⟩ | pn | ⟨pn,qn⟩
     ·skip
      have cm:((-128)≤x.m∧x.m≤127)∨¬ (-128)≤x.m∨((-128)≤x.m∧¬ x.m≤127):=by omega
      rcases cm with⟨pm,qm⟩ | pm | ⟨pm,qm⟩
      ·skip
       go_wp2_with fail
       refine wp_loop_rounds 1 ?_
       rw [rounds_succ]
       go_wp2
       go_ret
       exact⟨Zag (ZdZ HM.out ((fo_5 HZ.out).2 (by have L:=LEN.out;omega)) (by have L:=LEN.out;omega)),((Ext.refl w).alloc _).trans HX2.out⟩
      ·skip
       go_wp2_with fail
       refine wp_loop_rounds 1 ?_
       rw [rounds_succ]
       go_wp2
       go_ret
       first
        | exact⟨Zag (Zah HM.out (fun h=>by have h:=(fo_5 HZ.out).1 h;have L:=LEN.out;omega)),((Ext.refl w).alloc _).trans HX2.out⟩
        | exact⟨Zag ((decide_eq_false (by omega)).trans (Zah HM.out (fun h=>by have h:=(fo_5 HZ.out).1 h;have L:=LEN.out;omega))),((Ext.refl w).alloc _).trans HX2.out⟩
      ·skip
       go_wp2_with fail
       refine wp_loop_rounds 1 ?_
       rw [rounds_succ]
       go_wp2
       go_ret
       first
        | exact⟨Zag (Zah HM.out (fun h=>by have h:=(fo_5 HZ.out).1 h;have L:=LEN.out;omega)),((Ext.refl w).alloc _).trans HX2.out⟩
        | exact⟨Zag ((decide_eq_false (by omega)).trans (Zah HM.out (fun h=>by have h:=(fo_5 HZ.out).1 h;have L:=LEN.out;omega))),((Ext.refl w).alloc _).trans HX2.out⟩
     ·skip
      have cm:((-128)≤x.m∧x.m≤127)∨¬ (-128)≤x.m∨((-128)≤x.m∧¬ x.m≤127):=by omega
      rcases cm with⟨pm,qm⟩ | pm | ⟨pm,qm⟩
      ·skip
       go_wp2_with fail
       refine wp_loop_rounds 1 ?_
       rw [rounds_succ]
       go_wp2
       go_ret
       first
        | exact⟨Zag (Zah HM.out (fun h=>by have h:=(fo_5 HZ.out).1 h;have L:=LEN.out;omega)),((Ext.refl w).alloc _).trans HX2.out⟩
        | exact⟨Zag ((decide_eq_false (by omega)).trans (Zah HM.out (fun h=>by have h:=(fo_5 HZ.out).1 h;have L:=LEN.out;omega))),((Ext.refl w).alloc _).trans HX2.out⟩
      ·skip
       go_wp2_with fail
       refine wp_loop_rounds 1 ?_
       rw [rounds_succ]
       go_wp2
       go_ret
       first
        | exact⟨Zag (Zah HM.out (fun h=>by have h:=(fo_5 HZ.out).1 h;have L:=LEN.out;omega)),((Ext.refl w).alloc _).trans HX2.out⟩
        | exact⟨Zag ((decide_eq_false (by omega)).trans (Zah HM.out (fun h=>by have h:=(fo_5 HZ.out).1 h;have L:=LEN.out;omega))),((Ext.refl w).alloc _).trans HX2.out⟩
      ·skip
       go_wp2_with fail
       refine wp_loop_rounds 1 ?_
       rw [rounds_succ]
       go_wp2
       go_ret
       first
        | exact⟨Zag (Zah HM.out (fun h=>by have h:=(fo_5 HZ.out).1 h;have L:=LEN.out;omega)),((Ext.refl w).alloc _).trans HX2.out⟩
        | exact⟨Zag ((decide_eq_false (by omega)).trans (Zah HM.out (fun h=>by have h:=(fo_5 HZ.out).1 h;have L:=LEN.out;omega))),((Ext.refl w).alloc _).trans HX2.out⟩
     ·skip
      have cm:((-128)≤x.m∧x.m≤127)∨¬ (-128)≤x.m∨((-128)≤x.m∧¬ x.m≤127):=by omega
      rcases cm with⟨pm,qm⟩ | pm | ⟨pm,qm⟩
      ·skip
       go_wp2_with fail
       refine wp_loop_rounds 1 ?_
       rw [rounds_succ]
       go_wp2
       go_ret
       first
        | exact⟨Zag (Zah HM.out (fun h=>by have h:=(fo_5 HZ.out).1 h;have L:=LEN.out;omega)),((Ext.refl w).alloc _).trans HX2.out⟩
        | exact⟨Zag ((decide_eq_false (by omega)).trans (Zah HM.out (fun h=>by have h:=(fo_5 HZ.out).1 h;have L:=LEN.out;omega))),((Ext.refl w).alloc _).trans HX2.out⟩
      ·skip
       go_wp2_with fail
       refine wp_loop_rounds 1 ?_
       rw [rounds_succ]
       go_wp2
       go_ret
       first
        | exact⟨Zag (Zah HM.out (fun h=>by have h:=(fo_5 HZ.out).1 h;have L:=LEN.out;omega)),((Ext.refl w).alloc _).trans HX2.out⟩
        | exact⟨Zag ((decide_eq_false (by omega)).trans (Zah HM.out (fun h=>by have h:=(fo_5 HZ.out).1 h;have L:=LEN.out;omega))),((Ext.refl w).alloc _).trans HX2.out⟩
      ·skip
       go_wp2_with fail
       refine wp_loop_rounds 1 ?_
       rw [rounds_succ]
       go_wp2
       go_ret
       first
        | exact⟨Zag (Zah HM.out (fun h=>by have h:=(fo_5 HZ.out).1 h;have L:=LEN.out;omega)),((Ext.refl w).alloc _).trans HX2.out⟩
        | exact⟨Zag ((decide_eq_false (by omega)).trans (Zah HM.out (fun h=>by have h:=(fo_5 HZ.out).1 h;have L:=LEN.out;omega))),((Ext.refl w).alloc _).trans HX2.out⟩
    ·have LEN:=Lh l1
     have c1:(((x.to.length:Int) != 0)=true)∨(((x.to.length:Int) != 0)=false∧((x.ks.length:Int) != 0)=true):=by
      by_cases h:x.to.length=0
      ·exact .inr ⟨ZbR (by omega),Zda (by omega)⟩
      ·exact .inl (Zda (by omega))
     clear l1
     rcases c1 with l2 | ⟨l2,l3⟩
     all_goals
      go_wp2
      all_goals
       go_ret
       exact⟨Zag (Zah HM.out (fun h=>by have h:=(fo_5 HZ.out).1 h;have L:=LEN.out;omega)),((Ext.refl w).alloc _).trans HX2.out⟩
set_option maxRecDepth 100000 in
theorem ZpQ (x:In) (v1 v2:Value) (w:World) (h1:Row w .i64 v1 x.to) (h2:Row w .i64 v2 x.ks) (ho:0≤x.a∧x.a<8192∧0≤x.o∧x.o≤89) (hzc:Zad x.o=6) :
 Calls Tryz.prog 208 #[.agg (x.vals v1 v2)] w fun e w'=>e=.returned (.bool (mayI x))∧Ext w w':=by
 have H1:=Lh h1
 have H2:=Lh h2
 obtain⟨A1,k1,rfl,hc1,hm1,-⟩:=h1
 obtain⟨A2,k2,rfl,hc2,hm2,-⟩:=h2
 unfold maxLen at hm1 hm2
 have HB:=Lh (fun W e=>Zd0 (w:=w) (W:=W) (x:=x) (v1:=.slice A1 x.to.length k1) (v2:=.slice A2 x.ks.length k2) e)
 obtain⟨d0,d1,d2,d3,d4,d5⟩:=HB.out _ (Ext.refl _)
 have HMT:=Lh (fun t W=>ZbE x A1 A2 x.to.length k1 x.ks.length k2 t W ⟨ho.1,ho.2.1⟩)
 have HM0:=Lh (show x.to.all (Zbh x.a)=true→mayI x=(Zan x&&rise x.ks) from fun h=>by unfold mayI;rw [decide_eq_true ho,h];rfl)
 have HM1:=Lh (show x.to.all (Zbh x.a)=false→mayI x=false from fun h=>by unfold mayI;rw [decide_eq_true ho,h];rfl)
 have q0:¬ x.a<0:=by omega
 have q1:¬ 8192≤x.a:=by omega
 have q2:¬ x.o<0:=by omega
 have q3:¬ 89<x.o:=by omega
 unfold In.vals at HB HMT d0 d1 d2 d3 d4 d5 ⊢
 clear ho
 go_enter Tryz.func208,Tryz.ntmps208
 go_wp2_with fail
 clear q0 q1 q2 q3 d0 d1 d2 d3 d4 d5
 go_loopw [3] (fun i wr=>∃ k:Nat,i=.int .i64 k∧k≤x.to.length∧Hid (Ext (w.alloc (.cells #[.int .i64 x.a,.int .i64 x.o,.int .i64 x.n,.int .i64 x.m,.slice A1 x.to.length k1,.slice A2 x.ks.length k2] 178)) wr)∧Hid ((x.to.take k).all (Zbh x.a)=true)) (fun i _=>x.to.length-(intOf i).toNat)
 case atStart=>exact⟨0,rfl,by omega,Lh (Ext.refl _),Lh rfl⟩
 case round =>
  obtain⟨k,rfl,hk,HX,HT⟩:=hrel
  obtain⟨d0,d1,d2,d3,d4,d5⟩:=HB.out _ HX.out
  by_cases hlt:k<x.to.length
  ·obtain⟨b1,o1,rfl,hat⟩:=H1.out.all (by omega)
   have HAT:=Lh hat
   have y0:=hat _ (((Ext.refl w).alloc _).trans HX.out) k hlt
   have hk0:(0:Int)≤k:=by omega
   have hkl:(k:Int)<x.to.length:=by omega
   obtain⟨t,ht⟩:∃ t,gi x.to k=t:=⟨_,rfl⟩
   rw [ht] at y0
   have HTT:=Lh ht
   clear hat ht
   obtain⟨mb,hmb⟩:∃ mb,Zbh x.a t=mb:=⟨_,rfl⟩
   have HMB:=Lh hmb
   clear hmb
   have E1:=And.intro d0 (And.intro d1 (And.intro d2 (And.intro d3 (And.intro d4 (And.intro d5 y0)))))
   cases mb
   all_goals
    go_wp2_with fail
    go_region_held3 (fun w'=>w'.cell? ⟨w.heap.size,0,none⟩=some (.int .i64 x.a)∧w'.cell? ⟨w.heap.size,1,none⟩=some (.int .i64 x.o)∧w'.cell? ⟨w.heap.size,2,none⟩=some (.int .i64 x.n)∧w'.cell? ⟨w.heap.size,3,none⟩=some (.int .i64 x.m)∧w'.cell? ⟨w.heap.size,4,none⟩=some (.slice (some ⟨b1,o1,none⟩) x.to.length k1)∧w'.cell? ⟨w.heap.size,5,none⟩=some (.slice A2 x.ks.length k2)∧w'.cell? ⟨b1,o1+k,none⟩=some (.int .i64 t)) (first | exact⟨d0,d1,d2,d3,d4,d5,y0⟩ | with_reducible exact E2) (first
     | (go_at_call 237;(with_reducible refine(HMT.out t _).mono ?_);rintro e w2 ⟨rfl,x2⟩;rw [HMB.out];have X2:=HX.out.trans ((Ext.refl _).drew.trans x2);obtain⟨e0,e1,e2,e3,e4,e5⟩:=HB.out _ X2;have y2:=HAT.out _ (((Ext.refl w).alloc _).trans X2) k hlt;rw [HTT.out] at y2;have E2:=And.intro e0 (And.intro e1 (And.intro e2 (And.intro e3 (And.intro e4 (And.intro e5 y2)))))))
   ·go_wp2
    go_ret
    exact⟨Zag (HM1.out (by
     rw [List.all_eq_false]
     exact⟨_,Zbb hlt,by rw [HTT.out,HMB.out];simp⟩)).symm,((Ext.refl w).alloc _).trans X2⟩
   ·go_wp2_with fail
    go_roundw
    case rel =>
     refine⟨k+1,by go_num,by omega,Lh X2,Lh ?_⟩
     rw [Zdw hlt,List.all_append,HT.out,HTT.out]
     simp [HMB.out]
    case measure=>simp [intOf];omega
  ·obtain rfl:k=x.to.length:=by omega
   have HM:=Lh (HM0.out (by have:=HT.out;rwa [List.take_length] at this))
   obtain⟨nb,hnb⟩:∃ nb,(x.n==0)=nb:=⟨_,rfl⟩
   obtain⟨mb,hmb⟩:∃ mb,(x.m==0)=mb:=⟨_,rfl⟩
   have HNB:=Lh hnb
   have HMB:=Lh hmb
   go_wp2_with fail
   go_quiet (fail)
   go_wp2_with fail
   refine(Zbn _ _).mono ?_
   rintro e W2 ⟨rfl,hW2⟩
   have X2:=HX.out.trans (Zbu wr nq)
   rw [← hW2] at X2
   clear hW2 d0 d1 d2 d3 d4 d5
   have HX2:=Lh X2
   obtain⟨d0,d1,d2,d3,d4,d5⟩:=HB.out _ X2
   clear X2 hnb hmb d0 d1
   have hz:=hzc
   clear hzc
   ·have HZ:=Lh hz
    rw [hz]
    clear hz
    have c1:(¬ (2:Int)≤x.to.length)∨((2:Int)≤x.to.length∧¬ (x.to.length:Int)≤1001)∨((2:Int)≤x.to.length∧(x.to.length:Int)≤1001):=by omega
    have LEN:=Lh c1
    rcases c1 with g1 | ⟨g1,g2⟩ | ⟨g1,g2⟩
    ·have LEN:=Lh g1
     by_cases l1:x.ks.length=0
     ·have LK:=Lh l1
      have l3:((x.ks.length:Int) != 0)=false:=ZbR (by omega)
      have l4:¬ (0:Int)<x.ks.length:=by omega
      clear l1
      cases mb
      ·have em:¬ x.m=0:=by simpa using HMB.out
       have Em:=Lh em
       clear em
       go_wp2_with fail
       refine wp_loop_rounds 1 ?_
       rw [rounds_succ]
       go_wp2
       go_ret
       exact⟨Zag (Zah HM.out (fun h=>by have h:=(fo_6 HZ.out).1 h;have L:=LEN.out;omega)),((Ext.refl w).alloc _).trans HX2.out⟩
      ·have em:x.m=0:=by simpa using HMB.out
       have Em:=Lh em
       clear em
       go_wp2_with fail
       refine wp_loop_rounds 1 ?_
       rw [rounds_succ]
       go_wp2
       go_ret
       exact⟨Zag (Zah HM.out (fun h=>by have h:=(fo_6 HZ.out).1 h;have L:=LEN.out;omega)),((Ext.refl w).alloc _).trans HX2.out⟩
     ·have LK:=Lh l1
      have l3:((x.ks.length:Int) != 0)=true:=Zda (by omega)
      clear l1
      go_wp2
      all_goals
       go_ret
       exact⟨Zag (Zah HM.out (fun h=>by have h:=(fo_6 HZ.out).1 h;have L:=LK.out;omega)),((Ext.refl w).alloc _).trans HX2.out⟩
    ·have LEN:=Lh g2
     by_cases l1:x.ks.length=0
     ·have LK:=Lh l1
      have l3:((x.ks.length:Int) != 0)=false:=ZbR (by omega)
      have l4:¬ (0:Int)<x.ks.length:=by omega
      clear l1
      cases mb
      ·have em:¬ x.m=0:=by simpa using HMB.out
       have Em:=Lh em
       clear em
       go_wp2_with fail
       refine wp_loop_rounds 1 ?_
       rw [rounds_succ]
       go_wp2
       go_ret
       exact⟨Zag (Zah HM.out (fun h=>by have h:=(fo_6 HZ.out).1 h;have L:=LEN.out;omega)),((Ext.refl w).alloc _).trans HX2.out⟩
      ·have em:x.m=0:=by simpa using HMB.out
       have Em:=Lh em
       clear em
       go_wp2_with fail
       refine wp_loop_rounds 1 ?_
       rw [rounds_succ]
       go_wp2
       go_ret
       exact⟨Zag (Zah HM.out (fun h=>by have h:=(fo_6 HZ.out).1 h;have L:=LEN.out;omega)),((Ext.refl w).alloc _).trans HX2.out⟩
     ·have LK:=Lh l1
      have l3:((x.ks.length:Int) != 0)=true:=Zda (by omega)
      clear l1
      go_wp2
      all_goals
       go_ret
       exact⟨Zag (Zah HM.out (fun h=>by have h:=(fo_6 HZ.out).1 h;have L:=LK.out;omega)),((Ext.refl w).alloc _).trans HX2.out⟩
    ·have LEN:=Lh (And.intro g1 g2)
     obtain⟨i1,hi1⟩:∃ b,ZbO x.n=b:=⟨_,rfl⟩
     have hib:i1=true→-2147483648≤x.n∧x.n≤2147483647:=fun e=>Zp3 (hi1.trans e)
     have B1:=Lh hi1
     have HIB:=Lh hib
     clear hi1 hib
     cases i1
     ·go_wp2_with fail
      refine(Zck _ _).mono ?_
      rintro e W3 ⟨rfl,rfl⟩
      rw [B1.out]
      by_cases l1:x.ks.length=0
      ·have LK:=Lh l1
       have l3:((x.ks.length:Int) != 0)=false:=ZbR (by omega)
       have l4:¬ (0:Int)<x.ks.length:=by omega
       clear l1
       cases mb
       ·have em:¬ x.m=0:=by simpa using HMB.out
        have Em:=Lh em
        clear em
        go_wp2_with fail
        refine wp_loop_rounds 1 ?_
        rw [rounds_succ]
        go_wp2
        go_ret
        exact⟨Zag (Zah HM.out (fun h=>by have h:=(fo_6 HZ.out).1 h;have b:=B1.out;rw [b] at h;exact Bool.noConfusion h.2.1)),((Ext.refl w).alloc _).trans HX2.out⟩
       ·have em:x.m=0:=by simpa using HMB.out
        have Em:=Lh em
        clear em
        go_wp2_with fail
        refine wp_loop_rounds 1 ?_
        rw [rounds_succ]
        go_wp2
        go_ret
        exact⟨Zag (Zah HM.out (fun h=>by have h:=(fo_6 HZ.out).1 h;have b:=B1.out;rw [b] at h;exact Bool.noConfusion h.2.1)),((Ext.refl w).alloc _).trans HX2.out⟩
      ·have LK:=Lh l1
       have l3:((x.ks.length:Int) != 0)=true:=Zda (by omega)
       clear l1
       go_wp2
       all_goals
        go_ret
        exact⟨Zag (Zah HM.out (fun h=>by have h:=(fo_6 HZ.out).1 h;have L:=LK.out;omega)),((Ext.refl w).alloc _).trans HX2.out⟩
     ·have hbb:=HIB.out rfl
      have w1:IntKind.i64.wrap (x.n+(x.to.length:Int))=x.n+x.to.length:=by rw [IntKind.wrap_i64];omega
      have w2:IntKind.i64.wrap (x.n+(x.to.length:Int)-2)=x.n+x.to.length-2:=by rw [IntKind.wrap_i64];omega
      clear hbb
      go_wp2_with fail
      refine(Zck _ _).mono ?_
      rintro e W3 ⟨rfl,rfl⟩
      rw [B1.out]
      go_wp2_with fail
      refine(Zck _ _).mono ?_
      rintro e W3 ⟨rfl,rfl⟩
      obtain⟨i2,hi2⟩:∃ b,ZbO (x.n+x.to.length-2)=b:=⟨_,rfl⟩
      have B2:=Lh hi2
      rw [hi2]
      clear hi2
      cases i2
      ·skip
       by_cases l1:x.ks.length=0
       ·have LK:=Lh l1
        have l3:((x.ks.length:Int) != 0)=false:=ZbR (by omega)
        have l4:¬ (0:Int)<x.ks.length:=by omega
        clear l1
        cases mb
        ·have em:¬ x.m=0:=by simpa using HMB.out
         have Em:=Lh em
         clear em
         go_wp2_with fail
         refine wp_loop_rounds 1 ?_
         rw [rounds_succ]
         go_wp2
         go_ret
         exact⟨Zag (Zah HM.out (fun h=>by have h:=(fo_6 HZ.out).1 h;have b:=B2.out;rw [b] at h;exact Bool.noConfusion h.2.2.1)),((Ext.refl w).alloc _).trans HX2.out⟩
        ·have em:x.m=0:=by simpa using HMB.out
         have Em:=Lh em
         clear em
         go_wp2_with fail
         refine wp_loop_rounds 1 ?_
         rw [rounds_succ]
         go_wp2
         go_ret
         exact⟨Zag (Zah HM.out (fun h=>by have h:=(fo_6 HZ.out).1 h;have b:=B2.out;rw [b] at h;exact Bool.noConfusion h.2.2.1)),((Ext.refl w).alloc _).trans HX2.out⟩
       ·have LK:=Lh l1
        have l3:((x.ks.length:Int) != 0)=true:=Zda (by omega)
        clear l1
        go_wp2
        all_goals
         go_ret
         exact⟨Zag (Zah HM.out (fun h=>by have h:=(fo_6 HZ.out).1 h;have L:=LK.out;omega)),((Ext.refl w).alloc _).trans HX2.out⟩
      ·skip
       by_cases l1:x.ks.length=0
       ·have LK:=Lh l1
        have l3:((x.ks.length:Int) != 0)=false:=ZbR (by omega)
        have l4:¬ (0:Int)<x.ks.length:=by omega
        clear l1
        cases mb
        ·have em:¬ x.m=0:=by simpa using HMB.out
         have Em:=Lh em
         clear em
         go_wp2_with fail
         refine wp_loop_rounds 1 ?_
         rw [rounds_succ]
         go_wp2
         go_ret
         exact⟨Zag (Zah HM.out (fun h=>by have h:=(fo_6 HZ.out).1 h;have b:=Em.out;omega)),((Ext.refl w).alloc _).trans HX2.out⟩
        ·have em:x.m=0:=by simpa using HMB.out
         have Em:=Lh em
         clear em
         go_wp2_with fail
         refine wp_loop_rounds 1 ?_
         rw [rounds_succ]
         go_wp2
         go_ret
         exact⟨Zag (ZdZ HM.out ((fo_6 HZ.out).2 ⟨by have L:=LEN.out;omega,B1.out,B2.out,by have b:=Em.out;omega,by have L:=LK.out;omega⟩) LK.out),((Ext.refl w).alloc _).trans HX2.out⟩
       ·have LK:=Lh l1
        have l3:((x.ks.length:Int) != 0)=true:=Zda (by omega)
        clear l1
        go_wp2
        all_goals
         go_ret
         exact⟨Zag (Zah HM.out (fun h=>by have h:=(fo_6 HZ.out).1 h;have L:=LK.out;omega)),((Ext.refl w).alloc _).trans HX2.out⟩
set_option maxRecDepth 100000 in
theorem ZpL (x:In) (v1 v2:Value) (w:World) (h1:Row w .i64 v1 x.to) (h2:Row w .i64 v2 x.ks) (ho:0≤x.a∧x.a<8192∧0≤x.o∧x.o≤89) (hzc:Zad x.o=7) :
 Calls Tryz.prog 208 #[.agg (x.vals v1 v2)] w fun e w'=>e=.returned (.bool (mayI x))∧Ext w w':=by
 have H1:=Lh h1
 have H2:=Lh h2
 obtain⟨A1,k1,rfl,hc1,hm1,-⟩:=h1
 obtain⟨A2,k2,rfl,hc2,hm2,-⟩:=h2
 unfold maxLen at hm1 hm2
 have HB:=Lh (fun W e=>Zd0 (w:=w) (W:=W) (x:=x) (v1:=.slice A1 x.to.length k1) (v2:=.slice A2 x.ks.length k2) e)
 obtain⟨d0,d1,d2,d3,d4,d5⟩:=HB.out _ (Ext.refl _)
 have HMT:=Lh (fun t W=>ZbE x A1 A2 x.to.length k1 x.ks.length k2 t W ⟨ho.1,ho.2.1⟩)
 have HM0:=Lh (show x.to.all (Zbh x.a)=true→mayI x=(Zan x&&rise x.ks) from fun h=>by unfold mayI;rw [decide_eq_true ho,h];rfl)
 have HM1:=Lh (show x.to.all (Zbh x.a)=false→mayI x=false from fun h=>by unfold mayI;rw [decide_eq_true ho,h];rfl)
 have q0:¬ x.a<0:=by omega
 have q1:¬ 8192≤x.a:=by omega
 have q2:¬ x.o<0:=by omega
 have q3:¬ 89<x.o:=by omega
 unfold In.vals at HB HMT d0 d1 d2 d3 d4 d5 ⊢
 clear ho
 go_enter Tryz.func208,Tryz.ntmps208
 go_wp2_with fail
 clear q0 q1 q2 q3 d0 d1 d2 d3 d4 d5
 go_loopw [3] (fun i wr=>∃ k:Nat,i=.int .i64 k∧k≤x.to.length∧Hid (Ext (w.alloc (.cells #[.int .i64 x.a,.int .i64 x.o,.int .i64 x.n,.int .i64 x.m,.slice A1 x.to.length k1,.slice A2 x.ks.length k2] 178)) wr)∧Hid ((x.to.take k).all (Zbh x.a)=true)) (fun i _=>x.to.length-(intOf i).toNat)
 case atStart=>exact⟨0,rfl,by omega,Lh (Ext.refl _),Lh rfl⟩
 case round =>
  obtain⟨k,rfl,hk,HX,HT⟩:=hrel
  obtain⟨d0,d1,d2,d3,d4,d5⟩:=HB.out _ HX.out
  by_cases hlt:k<x.to.length
  ·obtain⟨b1,o1,rfl,hat⟩:=H1.out.all (by omega)
   have HAT:=Lh hat
   have y0:=hat _ (((Ext.refl w).alloc _).trans HX.out) k hlt
   have hk0:(0:Int)≤k:=by omega
   have hkl:(k:Int)<x.to.length:=by omega
   obtain⟨t,ht⟩:∃ t,gi x.to k=t:=⟨_,rfl⟩
   rw [ht] at y0
   have HTT:=Lh ht
   clear hat ht
   obtain⟨mb,hmb⟩:∃ mb,Zbh x.a t=mb:=⟨_,rfl⟩
   have HMB:=Lh hmb
   clear hmb
   have E1:=And.intro d0 (And.intro d1 (And.intro d2 (And.intro d3 (And.intro d4 (And.intro d5 y0)))))
   cases mb
   all_goals
    go_wp2_with fail
    go_region_held3 (fun w'=>w'.cell? ⟨w.heap.size,0,none⟩=some (.int .i64 x.a)∧w'.cell? ⟨w.heap.size,1,none⟩=some (.int .i64 x.o)∧w'.cell? ⟨w.heap.size,2,none⟩=some (.int .i64 x.n)∧w'.cell? ⟨w.heap.size,3,none⟩=some (.int .i64 x.m)∧w'.cell? ⟨w.heap.size,4,none⟩=some (.slice (some ⟨b1,o1,none⟩) x.to.length k1)∧w'.cell? ⟨w.heap.size,5,none⟩=some (.slice A2 x.ks.length k2)∧w'.cell? ⟨b1,o1+k,none⟩=some (.int .i64 t)) (first | exact⟨d0,d1,d2,d3,d4,d5,y0⟩ | with_reducible exact E2) (first
     | (go_at_call 237;(with_reducible refine(HMT.out t _).mono ?_);rintro e w2 ⟨rfl,x2⟩;rw [HMB.out];have X2:=HX.out.trans ((Ext.refl _).drew.trans x2);obtain⟨e0,e1,e2,e3,e4,e5⟩:=HB.out _ X2;have y2:=HAT.out _ (((Ext.refl w).alloc _).trans X2) k hlt;rw [HTT.out] at y2;have E2:=And.intro e0 (And.intro e1 (And.intro e2 (And.intro e3 (And.intro e4 (And.intro e5 y2)))))))
   ·go_wp2
    go_ret
    exact⟨Zag (HM1.out (by
     rw [List.all_eq_false]
     exact⟨_,Zbb hlt,by rw [HTT.out,HMB.out];simp⟩)).symm,((Ext.refl w).alloc _).trans X2⟩
   ·go_wp2_with fail
    go_roundw
    case rel =>
     refine⟨k+1,by go_num,by omega,Lh X2,Lh ?_⟩
     rw [Zdw hlt,List.all_append,HT.out,HTT.out]
     simp [HMB.out]
    case measure=>simp [intOf];omega
  ·obtain rfl:k=x.to.length:=by omega
   have HM:=Lh (HM0.out (by have:=HT.out;rwa [List.take_length] at this))
   obtain⟨nb,hnb⟩:∃ nb,(x.n==0)=nb:=⟨_,rfl⟩
   obtain⟨mb,hmb⟩:∃ mb,(x.m==0)=mb:=⟨_,rfl⟩
   have HNB:=Lh hnb
   have HMB:=Lh hmb
   go_wp2_with fail
   go_quiet (fail)
   go_wp2_with fail
   refine(Zbn _ _).mono ?_
   rintro e W2 ⟨rfl,hW2⟩
   have X2:=HX.out.trans (Zbu wr nq)
   rw [← hW2] at X2
   clear hW2 d0 d1 d2 d3 d4 d5
   have HX2:=Lh X2
   obtain⟨d0,d1,d2,d3,d4,d5⟩:=HB.out _ X2
   clear X2 hnb hmb d0 d1
   have hz:=hzc
   clear hzc
   ·have HZ:=Lh hz
    rw [hz]
    clear hz
    have w1:IntKind.i64.wrap ((x.to.length:Int)-1)=x.to.length-1:=by rw [IntKind.wrap_i64];omega
    have c1:((x.to.length:Int)<1)∨(¬ (x.to.length:Int)<1∧(1001:Int)<x.to.length)∨(¬ (x.to.length:Int)<1∧¬ (1001:Int)<x.to.length):=by omega
    rcases c1 with g1 | ⟨g1,g2⟩ | ⟨g1,g2⟩
    ·have LEN:=Lh g1
     go_wp2
     all_goals
      go_ret
      exact⟨Zag (Zah HM.out (fun h=>by have h:=(fo_7 HZ.out).1 h;have L:=LEN.out;omega)),((Ext.refl w).alloc _).trans HX2.out⟩
    ·have LEN:=Lh g2
     go_wp2
     all_goals
      go_ret
      exact⟨Zag (Zah HM.out (fun h=>by have h:=(fo_7 HZ.out).1 h;have L:=LEN.out;omega)),((Ext.refl w).alloc _).trans HX2.out⟩
    ·by_cases l1:(x.ks.length:Int)=x.to.length-1
     ·have LEN:=Lh (And.intro g1 (And.intro g2 l1))
      have l3:((x.ks.length:Int) != (x.to.length:Int)-1)=false:=ZbR l1
      clear l1
      go_wp2_with fail
      clear d2 d3 d4 d5
      go_loopw [8] (fun i wr=>∃ k:Nat,i=.int .i64 k∧k≤x.ks.length∧Hid (Ext (w.alloc (.cells #[.int .i64 x.a,.int .i64 x.o,.int .i64 x.n,.int .i64 x.m,.slice A1 x.to.length k1,.slice A2 x.ks.length k2] 178)) wr)∧Hid (UpTo x.ks k)) (fun i _=>x.ks.length-(intOf i).toNat)
      case atStart=>exact⟨0,rfl,by omega,HX2,Lh (fun j hj=>by omega)⟩
      case round =>
       obtain⟨k,rfl,hk,HXk,HUk⟩:=hrel
       obtain⟨d0,d1,d2,d3,d4,d5⟩:=HB.out _ HXk.out
       clear d0 d1 d2 d3 d4
       by_cases hlt:k<x.ks.length
       ·obtain⟨b1,o1,rfl,hat⟩:=H2.out.all (by omega)
        have y0:=hat _ (((Ext.refl w).alloc _).trans HXk.out) k hlt
        have hk0:(0:Int)≤k:=by omega
        have hkl:(k:Int)<x.ks.length:=by omega
        have HI:=Lh (fun W=>Zck (gi x.ks k) W)
        obtain⟨i1,hi1⟩:∃ b,ZbO (gi x.ks k)=b:=⟨_,rfl⟩
        rw [hi1] at HI
        have B1:=Lh hi1
        clear hi1
        cases i1
        ·clear hat
         go_wp2_with fail
         go_quiet ((go_at_call 238;exact ZdG (HI.out _)))
         go_wp2
         go_ret
         exact⟨Zag (Zng HM.out hlt (fun h=>by have b:=B1.out;rw [h.1] at b;cases b)),(((Ext.refl w).alloc _).trans HXk.out).trans (Zbu _ _)⟩
        ·match k,hk,hlt,y0,HUk,hk0,hkl,B1,HI with
         | 0,hk,hlt,y0,HUk,hk0,hkl,B1,HI =>
          clear hat
          rw [Nat.add_zero] at y0
          go_wp2_with fail
          go_quiet ((go_at_call 238;exact ZdG (HI.out _)))
          go_wp2_with fail
          go_roundw
          case rel=>exact⟨1,by go_num,by omega,Lh (HXk.out.trans (Zbu _ _)),Lh (HUk.out.next B1.out (fun h=>by omega))⟩
          case measure=>simp [intOf];omega
         | j+1,hk,hlt,y0,HUk,hk0,hkl,B1,HI =>
          have y1:=hat _ (((Ext.refl w).alloc _).trans HXk.out) j (by omega)
          have hj:IntKind.i64.wrap (((j+1:Nat):Int)-1)=j:=by rw [IntKind.wrap_i64];omega
          have hj1:(0:Int)<((j+1:Nat):Int):=by omega
          have hj2:(0:Int)≤j:=by omega
          have hj3:(j:Int)<x.ks.length:=by omega
          clear hat
          by_cases hr:gi x.ks (j+1)≤gi x.ks j
          ·have HR:=Lh hr
           have hrb:decide (gi x.ks (j+1)≤gi x.ks j)=true:=decide_eq_true hr
           go_wp2_with fail
           go_quiet ((go_at_call 238;exact ZdG (HI.out _)))
           go_wp2
           go_ret
           exact⟨Zag (Zng HM.out hlt (fun h=>by have h1:=h.2 (by omega);have h2:=HR.out;rw [Nat.add_sub_cancel] at h1;omega)),(((Ext.refl w).alloc _).trans HXk.out).trans (Zbu _ _)⟩
          ·have HR:=Lh hr
           have hrb:decide (gi x.ks (j+1)≤gi x.ks j)=false:=decide_eq_false hr
           go_wp2_with fail
           go_quiet ((go_at_call 238;exact ZdG (HI.out _)))
           go_wp2_with fail
           go_roundw
           case rel=>exact⟨j+1+1,by go_num,by omega,Lh (HXk.out.trans (Zbu _ _)),Lh (HUk.out.next B1.out (fun _=>by have h2:=HR.out;rw [Nat.add_sub_cancel];omega))⟩
           case measure=>simp [intOf];omega
       ·obtain rfl:k=x.ks.length:=by omega
        cases nb
        ·have en:¬ x.n=0:=by simpa using HNB.out
         have En:=Lh en
         clear en
         cases mb
         ·have em:¬ x.m=0:=by simpa using HMB.out
          have Em:=Lh em
          clear em
          go_wp2
          go_ret
          exact⟨Zag (Zah HM.out (fun h=>by have h:=(fo_7 HZ.out).1 h;have a:=En.out;have b:=Em.out;omega)),((Ext.refl w).alloc _).trans HXk.out⟩
         ·have em:x.m=0:=by simpa using HMB.out
          have Em:=Lh em
          clear em
          go_wp2
          go_ret
          exact⟨Zag (Zah HM.out (fun h=>by have h:=(fo_7 HZ.out).1 h;have a:=En.out;have b:=Em.out;omega)),((Ext.refl w).alloc _).trans HXk.out⟩
        ·have en:x.n=0:=by simpa using HNB.out
         have En:=Lh en
         clear en
         cases mb
         ·have em:¬ x.m=0:=by simpa using HMB.out
          have Em:=Lh em
          clear em
          go_wp2
          go_ret
          exact⟨Zag (Zah HM.out (fun h=>by have h:=(fo_7 HZ.out).1 h;have a:=En.out;have b:=Em.out;omega)),((Ext.refl w).alloc _).trans HXk.out⟩
         ·have em:x.m=0:=by simpa using HMB.out
          have Em:=Lh em
          clear em
          go_wp2
          go_ret
          exact⟨Zag (ZpA HM.out ((fo_7 HZ.out).2 (by have L:=LEN.out;have a:=En.out;have b:=Em.out;omega)) HUk.out),((Ext.refl w).alloc _).trans HXk.out⟩
     ·have LEN:=Lh l1
      have l3:((x.ks.length:Int) != (x.to.length:Int)-1)=true:=Zda l1
      clear l1
      go_wp2
      all_goals
       go_ret
       exact⟨Zag (Zah HM.out (fun h=>by have h:=(fo_7 HZ.out).1 h;have L:=LEN.out;omega)),((Ext.refl w).alloc _).trans HX2.out⟩
theorem Zlv (x:In) (v1 v2:Value) (w:World) (h1:Row w .i64 v1 x.to) (h2:Row w .i64 v2 x.ks) :
 Calls Tryz.prog 208 #[.agg (x.vals v1 v2)] w fun e w'=>e=.returned (.bool (mayI x))∧Ext w w':=by
 by_cases ho:0≤x.a∧x.a<8192∧0≤x.o∧x.o≤89
 ·have hz:=Zb2 x.o
  by_cases h:Zad x.o≤1
  ·exact Zo3 x v1 v2 w h1 h2 ho (by omega)
  ·by_cases h:Zad x.o≤3
   ·exact ZpX x v1 v2 w h1 h2 ho (by omega)
   ·by_cases h:Zad x.o≤5
    ·exact ZoP x v1 v2 w h1 h2 ho (by omega)
    ·by_cases h:Zad x.o=6
     ·exact ZpQ x v1 v2 w h1 h2 ho h
     ·exact ZpL x v1 v2 w h1 h2 ho (by omega)
 ·exact Zlw x v1 v2 w h1 h2 ho
end Go.Proofs.YtclamhhgldkhnaaGreatDoor
