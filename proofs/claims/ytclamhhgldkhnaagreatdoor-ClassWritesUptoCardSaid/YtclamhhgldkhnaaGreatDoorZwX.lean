/- Several texts of this proof, one behind the other. -/
import Derived.Test.YtclamhhgldkhnaaGreatDoorZwL
import Derived.Test.YtclamhhgldkhnaaGreatDoorZwI
import Derived.Deep.RegionHeld3
import Derived.Deep.CutRange
import Derived.BigQuiet
import Derived.Deep.QuietTactic
import Derived.Test.YtclamhhgldkhnaaGreatDoorZwJ
import Derived.Test.YtclamhhgldkhnaaGreatDoorZwE
import Derived.LoopN
namespace Go.Proofs.YtclamhhgldkhnaaGreatDoor
open Go.RowKit
set_option linter.unusedVariables false
set_option maxHeartbeats 16000000
theorem Zco {P:Program} {ops:Array Oper} {o:Oper} {a:Act} {w:World} {K:Act→World→Prop} {Q:Exit→Act→World→Prop} {E:Prop} (hgd:o.guard=none) (ty:TypeId) (x y:Operand) (hop:o.op=.store ty x y)
 (g:Nat) (cells:Array Value) (hx:a.eval x=.pointer (some ⟨g,0,none⟩)) (hy:a.eval y=.agg cells) (t:TypeId) (old:Array Value) (hg:w.heap[g]?=some (.cells old t (0,0))) (hi:(P.info? ty).map (·.size)=some cells.size)
 (hold:old.size=cells.size) (h1:cells.all (·.oneCell')=true) (h:K (a.put o.dst undef) (w.setRow g cells)):if Region.wanted o (yielded ops a.tmps)=true then Oper.wp P o a w K Q else E:=by
 have hw:Region.wanted o (yielded ops a.tmps)=true:=by simp [Region.wanted,hgd]
 rw [if_pos hw]
 exact wp_store_row ty x y hop g cells hx hy t old hg hi hold h1 h
theorem ZsT {w W:World} {g:Nat} {a b c d e f:Value} {T:TypeId} (hg:w.heap[g]?=some (.cells #[a,b,c,d,e,f] T (0,0))) (x:Ext w W) :
 W.cell? ⟨g,0,none⟩=some a∧W.cell? ⟨g,1,none⟩=some b∧W.cell? ⟨g,2,none⟩=some c∧W.cell? ⟨g,3,none⟩=some d∧W.cell? ⟨g,4,none⟩=some e∧W.cell? ⟨g,5,none⟩=some f:=by
 have h:=(x.block g (Zab hg)).trans hg
 refine⟨?_,?_,?_,?_,?_,?_⟩ <;> (rw [cell_of_row W g _ _ _ (0,0) h];rfl)
def Z6:Array Value:=#[.int .i64 0,.int .i64 0,.int .i64 0,.int .i64 0,.int .i64 0,.int .i64 0]
theorem Zh1 {B:World} (W:World) (e:Ext B W):B.heap.size≤W.heap.size∧(W.alloc (.cells Z6 286)).heap[W.heap.size]?=some (.cells Z6 286 (0,0)):=⟨e.size,heap_alloc_new W _⟩
theorem Zbj {n g:Nat} {W W':World} {o:Obj} (h:n≤g∧W.heap[g]?=some o) (x:Ext W W'):n≤g∧W'.heap[g]?=some o:=⟨h.1,(x.block g (Zab h.2)).trans h.2⟩
set_option maxRecDepth 100000 in
theorem Zpc (x:In) (v1 v2:Value) (w:World) (h1:Row w .i64 v1 x.to) (h2:Row w .i64 v2 x.ks) (c1:inOp x.o=true) (c2:inR 0 8191 x.a=true) :
 Calls Tryz.prog 253 #[.agg (x.vals v1 v2)] w fun e w'=>e=.returned (.bool (mayP x))∧Ext w w':=by
 have H1:=Lh h1
 have H2:=Lh h2
 obtain⟨A1,k1,rfl,hc1,hm1,-⟩:=h1
 obtain⟨A2,k2,rfl,hc2,hm2,-⟩:=h2
 unfold maxLen at hm1 hm2
 have HB:=Lh (fun W e=>Zd0 (w:=w) (W:=W) (x:=x) (v1:=.slice A1 x.to.length k1) (v2:=.slice A2 x.ks.length k2) e)
 obtain⟨d0,d1,d2,d3,d4,d5⟩:=HB.out _ (Ext.refl _)
 unfold In.vals at HB d0 d1 d2 d3 d4 d5 ⊢
 clear d0 d2 d3 d4 d5
 have C1:=Lh c1
 have C2:=Lh c2
 clear c1 c2
 have hz:=Zb2 x.o
 obtain⟨z,hzz⟩:∃ z,Zad x.o=z:=⟨_,rfl⟩
 rw [hzz] at hz
 have HZ:=Lh hzz
 clear hzz
 obtain⟨r0,hr0⟩:∃ r,rnl z=r:=⟨_,rfl⟩
 obtain⟨r1,hr1⟩:∃ r,rnh z=r:=⟨_,rfl⟩
 obtain⟨r2,hr2⟩:∃ r,rml z=r:=⟨_,rfl⟩
 obtain⟨r3,hr3⟩:∃ r,rmh z=r:=⟨_,rfl⟩
 obtain⟨r4,hr4⟩:∃ r,rtl z=r:=⟨_,rfl⟩
 obtain⟨r5,hr5⟩:∃ r,rth z=r:=⟨_,rfl⟩
 have hi:=fun W=>Zf6 W z hz.1 hz.2
 rw [hr0,hr1,hr2,hr3,hr4,hr5] at hi
 have HR:=Lh (And.intro hr0 (And.intro hr1 (And.intro hr2 (And.intro hr3 (And.intro hr4 hr5)))))
 clear hr0 hr1 hr2 hr3 hr4 hr5
 go_enter Tryz.func253,Tryz.ntmps253
 go_wp2_with (first
  | (go_at_call 233;refine(ZbD _ _).mono ?_;rintro e w1 ⟨rfl,x1⟩;rw [C1.out,HZ.out];obtain⟨d10,d11,d12,d13,d14,d15⟩:=HB.out _ x1))
 have E0:=HB.out _ ((x1.alloc (.cells #[.string (Zfl x.o),.int .i64 z,.bool (Zbe x.o)] 257)).drew)
 obtain⟨d20,d21,d22,d23,d24,d25⟩:=E0
 go_region_held3 (fun w'=>w'.cell? ⟨w.heap.size,0,none⟩=some (.int .i64 x.a)) (first | assumption | go_keep) (first
  | (go_at_call 269;((with_reducible refine(Zg9 _).mono ?_);rintro e w2 ⟨rfl,x2⟩);have X2:=x1.trans (((Ext.refl _).alloc _).drew.trans x2);obtain⟨d20,d21,d22,d23,d24,d25⟩:=HB.out _ X2)
  | (go_at_call 270;((with_reducible refine(Zbk _ _ _ _).mono ?_);rintro e w3 ⟨rfl,x3⟩;rw [C2.out]);have X3:=X2.trans x3;obtain⟨d30,d31,d32,d33,d34,d35⟩:=HB.out _ X3))
 clear d1 d10 d11 d12 d13 d14 d15 d20 d21 d22 d23 d24 d25
 go_wp2_with fail
 go_cut [5] from 21 to 25 (fun r wr=>∃ g:Nat,r=.pointer (some ⟨g,0,none⟩)∧w.heap.size<g∧Ext (w.alloc (.cells #[.int .i64 x.a,.int .i64 x.o,.int .i64 x.n,.int .i64 x.m,.slice A1 x.to.length k1,.slice A2 x.ks.length k2] 178)) wr∧wr.heap[g]?=some (.cells #[.int .i64 r0,.int .i64 r1,.int .i64 r2,.int .i64 r3,.int .i64 r4,.int .i64 r5] 286 (0,0)))
 case first =>
  refine wp_region_noPanic ?_
  refine wp_region_held_drew (S:=fun w'=>Ext (w.alloc (.cells #[.int .i64 x.a,.int .i64 x.o,.int .i64 x.n,.int .i64 x.m,.slice A1 x.to.length k1,.slice A2 x.ks.length k2] 178)) w') (by kernel_rfl) X3.drew (fun e0=>?_)
  refine wpAnyH_take (i:=1) (v:=?_) rfl (by kernel_rfl) (by kernel_rfl) (by kernel_rfl) (fun _ _ _ h=>h) (Or.inl ⟨by rfl,?_⟩) e0 ?_
  rotate_left
  ·intro w' hw'
   go_simp
   try with_reducible rfl
  refine wpAnyH_take (i:=2) (v:=?_) rfl (by kernel_rfl) (by kernel_rfl) (by kernel_rfl) (fun _ _ _ h=>h) (Or.inl ⟨by rfl,?_⟩) e0 ?_
  rotate_left
  ·intro w' hw'
   have hc:=(HB.out _ hw').2.1
   go_simp
   try with_reducible rfl
  refine wpAnyH_ready (rs:=[0,5]) (by kernel_rfl) (by simp) ?_
  refine AllReadyH.cons rfl (fun K hK=>?_) ?_
  ·skip
   refine ZaA rfl 271 _ _ rfl #[] (by simp [go_sem]) (by simp [go_sem]) ?_
   refine(Zjg _).mono ?_;rintro e w3 ⟨rfl,x2⟩;refine⟨_,rfl,?_⟩
   refine hK.out _ _ (e0.trans x2) (fun e1=>?_)
   clear hK K
   refine wpAnyH_ready (rs:=[3,5]) (by kernel_rfl) (by simp) ?_
   refine AllReadyH.cons rfl (fun K hK=>?_) ?_
   ·skip
    refine ZaA rfl 262 _ _ rfl #[.int .i64 x.o] (by simp [go_sem]) (by simp [go_sem]) ?_
    refine(ZaI _ _).mono ?_;rintro e w6 ⟨rfl,x5⟩;rw [HZ.out];refine⟨_,rfl,?_⟩
    refine hK.out _ _ (e1.trans x5) (fun e4=>?_)
    clear hK K
    refine wpAnyH_take (i:=4) (v:=?_) rfl (by kernel_rfl) (by kernel_rfl) (by kernel_rfl) (fun _ _ _ h=>h) (Or.inl ⟨by rfl,?_⟩) e4 ?_
    rotate_left
    ·intro w' hw'
     go_simp
     try with_reducible rfl
    refine wpAnyH_ready (rs:=[5]) (by kernel_rfl) (by simp) ?_
    refine AllReadyH.cons rfl (fun K hK=>?_) ?_
    ·skip
     go_simp
     have l9:=e4.size
     have g8:=Zh1 _ e4
     refine hK.out _ _ (e4.alloc _) (fun e7=>?_)
     clear hK K
     refine wpAnyH_ready (rs:=[6]) (by kernel_rfl) (by simp) ?_
     refine AllReadyH.cons rfl (fun K hK=>?_) ?_
     ·refine Zco rfl _ _ _ rfl _ #[.int .i64 r0,.int .i64 r1,.int .i64 r2,.int .i64 r3,.int .i64 r4,.int .i64 r5] rfl rfl 286 Z6 (id g8).2 (by kernel_rfl) rfl (by kernel_rfl) ?_
      refine hK.out _ _ (e7.setRow_ (id g8).1 _) (fun e10=>?_)
      clear hK K
      refine wpAnyH_done (by kernel_rfl) ?_ _
      refine NoPanic.normal ?_
      go_wp2_with fail
      go_meet
      exact⟨_,rfl,(by have:=(id g8).1;simp at this;omega),e10,setRow_heap _ _ Z6 _ _ _ (id g8).2⟩
     ·exact AllReadyH.nil
    ·exact AllReadyH.nil
   refine AllReadyH.cons rfl (fun K hK=>?_) ?_
   ·skip
    go_simp
    have l13:=e1.size
    have g12:=Zh1 _ e1
    refine hK.out _ _ (e1.alloc _) (fun e11=>?_)
    clear hK K
    refine wpAnyH_ready (rs:=[3]) (by kernel_rfl) (by simp) ?_
    refine AllReadyH.cons rfl (fun K hK=>?_) ?_
    ·skip
     refine ZaA rfl 262 _ _ rfl #[.int .i64 x.o] (by simp [go_sem]) (by simp [go_sem]) ?_
     refine(ZaI _ _).mono ?_;rintro e w16 ⟨rfl,x15⟩;rw [HZ.out];refine⟨_,rfl,?_⟩
     refine hK.out _ _ (e11.trans x15) (fun e14=>?_)
     clear hK K
     refine wpAnyH_take (i:=4) (v:=?_) rfl (by kernel_rfl) (by kernel_rfl) (by kernel_rfl) (fun _ _ _ h=>h) (Or.inl ⟨by rfl,?_⟩) e14 ?_
     rotate_left
     ·intro w' hw'
      go_simp
      try with_reducible rfl
     refine wpAnyH_ready (rs:=[6]) (by kernel_rfl) (by simp) ?_
     refine AllReadyH.cons rfl (fun K hK=>?_) ?_
     ·refine Zco rfl _ _ _ rfl _ #[.int .i64 r0,.int .i64 r1,.int .i64 r2,.int .i64 r3,.int .i64 r4,.int .i64 r5] rfl rfl 286 Z6 (Zbj g12 x15).2 (by kernel_rfl) rfl (by kernel_rfl) ?_
      refine hK.out _ _ (e14.setRow_ (Zbj g12 x15).1 _) (fun e17=>?_)
      clear hK K
      refine wpAnyH_done (by kernel_rfl) ?_ _
      refine NoPanic.normal ?_
      go_wp2_with fail
      go_meet
      exact⟨_,rfl,(by have:=(Zbj g12 x15).1;simp at this;omega),e17,setRow_heap _ _ Z6 _ _ _ (Zbj g12 x15).2⟩
     ·exact AllReadyH.nil
    ·exact AllReadyH.nil
   ·exact AllReadyH.nil
  refine AllReadyH.cons rfl (fun K hK=>?_) ?_
  ·skip
   go_simp
   have l20:=e0.size
   have g19:=Zh1 _ e0
   refine hK.out _ _ (e0.alloc _) (fun e18=>?_)
   clear hK K
   refine wpAnyH_ready (rs:=[0]) (by kernel_rfl) (by simp) ?_
   refine AllReadyH.cons rfl (fun K hK=>?_) ?_
   ·skip
    refine ZaA rfl 271 _ _ rfl #[] (by simp [go_sem]) (by simp [go_sem]) ?_
    refine(Zjg _).mono ?_;rintro e w23 ⟨rfl,x22⟩;refine⟨_,rfl,?_⟩
    refine hK.out _ _ (e18.trans x22) (fun e21=>?_)
    clear hK K
    refine wpAnyH_ready (rs:=[3]) (by kernel_rfl) (by simp) ?_
    refine AllReadyH.cons rfl (fun K hK=>?_) ?_
    ·skip
     refine ZaA rfl 262 _ _ rfl #[.int .i64 x.o] (by simp [go_sem]) (by simp [go_sem]) ?_
     refine(ZaI _ _).mono ?_;rintro e w26 ⟨rfl,x25⟩;rw [HZ.out];refine⟨_,rfl,?_⟩
     refine hK.out _ _ (e21.trans x25) (fun e24=>?_)
     clear hK K
     refine wpAnyH_take (i:=4) (v:=?_) rfl (by kernel_rfl) (by kernel_rfl) (by kernel_rfl) (fun _ _ _ h=>h) (Or.inl ⟨by rfl,?_⟩) e24 ?_
     rotate_left
     ·intro w' hw'
      go_simp
      try with_reducible rfl
     refine wpAnyH_ready (rs:=[6]) (by kernel_rfl) (by simp) ?_
     refine AllReadyH.cons rfl (fun K hK=>?_) ?_
     ·refine Zco rfl _ _ _ rfl _ #[.int .i64 r0,.int .i64 r1,.int .i64 r2,.int .i64 r3,.int .i64 r4,.int .i64 r5] rfl rfl 286 Z6 (Zbj (Zbj g19 x22) x25).2 (by kernel_rfl) rfl (by kernel_rfl) ?_
      refine hK.out _ _ (e24.setRow_ (Zbj (Zbj g19 x22) x25).1 _) (fun e27=>?_)
      clear hK K
      refine wpAnyH_done (by kernel_rfl) ?_ _
      refine NoPanic.normal ?_
      go_wp2_with fail
      go_meet
      exact⟨_,rfl,(by have:=(Zbj (Zbj g19 x22) x25).1;simp at this;omega),e27,setRow_heap _ _ Z6 _ _ _ (Zbj (Zbj g19 x22) x25).2⟩
     ·exact AllReadyH.nil
    ·exact AllReadyH.nil
   ·exact AllReadyH.nil
  ·exact AllReadyH.nil
 case rest =>
  obtain⟨g,rfl,hgg,X4,hgr⟩:=hcut
  have HG:=Lh (fun W (e:Ext wc W)=>ZsT hgr e)
  have X0:=(Ext.refl w).alloc (.cells #[.int .i64 x.a,.int .i64 x.o,.int .i64 x.n,.int .i64 x.m,.slice A1 x.to.length k1,.slice A2 x.ks.length k2] 178)
  have hM:mayP x=(inR r0 r1 x.n&&inR r2 r3 x.m&&inR r4 r5 x.to.length&&x.to.all (inR 0 8191)&&ZcS x&&ZeM x):=by
   obtain⟨q0,q1,q2,q3,q4,q5⟩:=HR.out
   unfold mayP
   rw [C1.out,C2.out,HZ.out,q0,q1,q2,q3,q4,q5]
   simp only [Bool.true_and]
  have HM:=Lh hM
  have hb7:inR r0 r1 x.n=true→inR r4 r5 x.to.length=true→Zad x.o=6→(-2147483648≤x.n∧x.n≤2147483647)∧x.to.length≤1001:=by
   intro e1 e2 e3
   obtain⟨q0,q1,q2,q3,q4,q5⟩:=HR.out
   have e4:=HZ.out
   rw [e3] at e4
   subst e4
   simp [rnl,rnh,rtl,rth] at q0 q1 q4 q5
   have e5:=of_decide_eq_true e1
   have e6:=of_decide_eq_true e2
   omega
  have HN:=Lh (fun W (e:Ext w W) (e1:inR r0 r1 x.n=true) (e2:inR r4 r5 x.to.length=true)=>Zgy x _ _ W (H1.out.ext e) (H2.out.ext e) (hb7 e1 e2))
  have HK:=Lh (fun W (e:Ext w W)=>Zjp x _ _ W (H1.out.ext e) (H2.out.ext e))
  unfold In.vals at HN HK
  clear hb7 hM hi hgr d30 d31 d32 d33 d34 d35
  obtain⟨d40,d41,d42,d43,d44,d45⟩:=HB.out _ X4
  obtain⟨g40,g41,g42,g43,g44,g45⟩:=HG.out _ (Ext.refl _)
  go_wp2_with fail
  by_cases hb:inR r0 r1 x.n=true
  ·have B3:=Lh hb
   clear hb
   refine(Zbk _ _ _ _).mono ?_
   rintro e w5 ⟨rfl,x5⟩
   rw [B3.out]
   have X5:=X4.trans x5
   have Y5:=x5
   obtain⟨d30,d31,d32,d33,d34,d35⟩:=HB.out _ X5
   obtain⟨g30,g31,g32,g33,g34,g35⟩:=HG.out _ Y5
   go_wp2_with fail
   by_cases hb:inR r2 r3 x.m=true
   ·have B4:=Lh hb
    clear hb
    refine(Zbk _ _ _ _).mono ?_
    rintro e w6 ⟨rfl,x6⟩
    rw [B4.out]
    have X6:=X5.trans x6
    have Y6:=Y5.trans x6
    obtain⟨d40,d41,d42,d43,d44,d45⟩:=HB.out _ X6
    obtain⟨g40,g41,g42,g43,g44,g45⟩:=HG.out _ Y6
    go_wp2_with fail
    by_cases hb:inR r4 r5 x.to.length=true
    ·have B5:=Lh hb
     clear hb
     refine(Zbk _ _ _ _).mono ?_
     rintro e w7 ⟨rfl,x7⟩
     rw [B5.out]
     have X7:=X6.trans x7
     have Y7:=Y6.trans x7
     obtain⟨d50,d51,d52,d53,d54,d55⟩:=HB.out _ X7
     go_wp2_with fail
     by_cases hb:x.to.all (inR 0 8191)=true
     ·have B6:=Lh hb
      clear hb
      refine(Zeo _ _ _ (H1.out.ext (X0.trans X7))).mono ?_
      rintro e w8 ⟨rfl,x8⟩
      rw [B6.out]
      have X8:=X7.trans x8
      have Y8:=Y7.trans x8
      obtain⟨d60,d61,d62,d63,d64,d65⟩:=HB.out _ X8
      go_wp2_with fail
      by_cases hb:ZcS x=true
      ·have B7:=Lh hb
       clear hb
       refine(HN.out _ (X0.trans X8) B3.out B5.out).mono ?_
       rintro e w9 ⟨rfl,x9⟩
       rw [B7.out]
       have X9:=X8.trans x9
       have Y9:=Y8.trans x9
       obtain⟨d70,d71,d72,d73,d74,d75⟩:=HB.out _ X9
       go_wp2_with fail
       by_cases hb:ZeM x=true
       ·have B8:=Lh hb
        clear hb
        refine(HK.out _ (X0.trans X9)).mono ?_
        rintro e w10 ⟨rfl,x10⟩
        rw [B8.out]
        have X10:=X9.trans x10
        go_wp2
        go_ret
        exact⟨Zag (by rw [HM.out,B3.out,B4.out,B5.out,B6.out,B7.out,B8.out];rfl),X0.trans X10⟩
       ·have B8:=Lh (show ZeM x=false by simpa using hb)
        clear hb
        refine(HK.out _ (X0.trans X9)).mono ?_
        rintro e w10 ⟨rfl,x10⟩
        rw [B8.out]
        have X10:=X9.trans x10
        go_wp2
        go_ret
        exact⟨Zag (by rw [HM.out,B8.out];simp),X0.trans X10⟩
      ·have B7:=Lh (show ZcS x=false by simpa using hb)
       clear hb
       refine(HN.out _ (X0.trans X8) B3.out B5.out).mono ?_
       rintro e w9 ⟨rfl,x9⟩
       rw [B7.out]
       have X9:=X8.trans x9
       have Y9:=Y8.trans x9
       obtain⟨d70,d71,d72,d73,d74,d75⟩:=HB.out _ X9
       go_wp2
       go_ret
       exact⟨Zag (by rw [HM.out,B7.out];simp),X0.trans X9⟩
     ·have B6:=Lh (show x.to.all (inR 0 8191)=false by simpa using hb)
      clear hb
      refine(Zeo _ _ _ (H1.out.ext (X0.trans X7))).mono ?_
      rintro e w8 ⟨rfl,x8⟩
      rw [B6.out]
      have X8:=X7.trans x8
      have Y8:=Y7.trans x8
      obtain⟨d60,d61,d62,d63,d64,d65⟩:=HB.out _ X8
      go_wp2
      go_ret
      exact⟨Zag (by rw [HM.out,B6.out];simp),X0.trans X8⟩
    ·have B5:=Lh (show inR r4 r5 x.to.length=false by simpa using hb)
     clear hb
     refine(Zbk _ _ _ _).mono ?_
     rintro e w7 ⟨rfl,x7⟩
     rw [B5.out]
     have X7:=X6.trans x7
     have Y7:=Y6.trans x7
     obtain⟨d50,d51,d52,d53,d54,d55⟩:=HB.out _ X7
     go_wp2
     go_ret
     exact⟨Zag (by rw [HM.out,B5.out];simp),X0.trans X7⟩
   ·have B4:=Lh (show inR r2 r3 x.m=false by simpa using hb)
    clear hb
    refine(Zbk _ _ _ _).mono ?_
    rintro e w6 ⟨rfl,x6⟩
    rw [B4.out]
    have X6:=X5.trans x6
    have Y6:=Y5.trans x6
    obtain⟨d40,d41,d42,d43,d44,d45⟩:=HB.out _ X6
    obtain⟨g40,g41,g42,g43,g44,g45⟩:=HG.out _ Y6
    go_wp2
    go_ret
    exact⟨Zag (by rw [HM.out,B4.out];simp),X0.trans X6⟩
  ·have B3:=Lh (show inR r0 r1 x.n=false by simpa using hb)
   clear hb
   refine(Zbk _ _ _ _).mono ?_
   rintro e w5 ⟨rfl,x5⟩
   rw [B3.out]
   have X5:=X4.trans x5
   have Y5:=x5
   obtain⟨d30,d31,d32,d33,d34,d35⟩:=HB.out _ X5
   obtain⟨g30,g31,g32,g33,g34,g35⟩:=HG.out _ Y5
   go_wp2
   go_ret
   exact⟨Zag (by rw [HM.out,B3.out];simp),X0.trans X5⟩
set_option maxRecDepth 100000 in
theorem ZpB (x:In) (v1 v2:Value) (w:World) (h1:Row w .i64 v1 x.to) (h2:Row w .i64 v2 x.ks) (c1:inOp x.o=false) :
 Calls Tryz.prog 253 #[.agg (x.vals v1 v2)] w fun e w'=>e=.returned (.bool false)∧Ext w w':=by
 obtain⟨A1,k1,rfl,-⟩:=h1
 obtain⟨A2,k2,rfl,-⟩:=h2
 have HB:=Lh (fun W e=>Zd0 (w:=w) (W:=W) (x:=x) (v1:=.slice A1 x.to.length k1) (v2:=.slice A2 x.ks.length k2) e)
 obtain⟨d0,d1,d2,d3,d4,d5⟩:=HB.out _ (Ext.refl _)
 unfold In.vals at HB d0 d1 d2 d3 d4 d5 ⊢
 clear d0 d2 d3 d4 d5
 have C1:=Lh c1
 clear c1
 go_enter Tryz.func253,Tryz.ntmps253
 go_wp2_with (first
  | (go_at_call 233;refine(ZbD _ _).mono ?_;rintro e w1 ⟨rfl,x1⟩;rw [C1.out]))
 go_quiet (fail)
 go_wp2
 go_ret
 exact⟨rfl,((Ext.refl w).alloc _).trans ((x1.alloc _).drewN _)⟩
set_option maxRecDepth 100000 in
theorem Zqb (x:In) (v1 v2:Value) (w:World) (h1:Row w .i64 v1 x.to) (h2:Row w .i64 v2 x.ks) (c1:inOp x.o=true) (c2:inR 0 8191 x.a=false) :
 Calls Tryz.prog 253 #[.agg (x.vals v1 v2)] w fun e w'=>e=.returned (.bool false)∧Ext w w':=by
 obtain⟨A1,k1,rfl,-⟩:=h1
 obtain⟨A2,k2,rfl,-⟩:=h2
 have HB:=Lh (fun W e=>Zd0 (w:=w) (W:=W) (x:=x) (v1:=.slice A1 x.to.length k1) (v2:=.slice A2 x.ks.length k2) e)
 obtain⟨d0,d1,d2,d3,d4,d5⟩:=HB.out _ (Ext.refl _)
 unfold In.vals at HB d0 d1 d2 d3 d4 d5 ⊢
 clear d0 d2 d3 d4 d5
 have C1:=Lh c1
 have C2:=Lh c2
 clear c1 c2
 go_enter Tryz.func253,Tryz.ntmps253
 go_wp2_with (first
  | (go_at_call 233;refine(ZbD _ _).mono ?_;rintro e w1 ⟨rfl,x1⟩;rw [C1.out];obtain⟨d10,d11,d12,d13,d14,d15⟩:=HB.out _ x1))
 have E0:=HB.out _ ((x1.alloc (.cells #[.string (Zfl x.o),.int .i64 (Zad x.o),.bool (Zbe x.o)] 257)).drew)
 obtain⟨d20,d21,d22,d23,d24,d25⟩:=E0
 go_region_held3 (fun w'=>w'.cell? ⟨w.heap.size,0,none⟩=some (.int .i64 x.a)) (first | assumption | go_keep) (first
  | (go_at_call 269;((with_reducible refine(Zg9 _).mono ?_);rintro e w2 ⟨rfl,x2⟩);have X2:=x1.trans (((Ext.refl _).alloc _).drew.trans x2);obtain⟨d20,d21,d22,d23,d24,d25⟩:=HB.out _ X2)
  | (go_at_call 270;((with_reducible refine(Zbk _ _ _ _).mono ?_);rintro e w3 ⟨rfl,x3⟩;rw [C2.out]);have X3:=X2.trans x3;obtain⟨d30,d31,d32,d33,d34,d35⟩:=HB.out _ X3))
 go_wp2
 go_ret
 exact⟨rfl,((Ext.refl w).alloc _).trans X3⟩
theorem Zop (x:In) (v1 v2:Value) (w:World) (h1:Row w .i64 v1 x.to) (h2:Row w .i64 v2 x.ks) :
 Calls Tryz.prog 253 #[.agg (x.vals v1 v2)] w fun e w'=>e=.returned (.bool (mayI x))∧Ext w w':=by
 rw [← Zro]
 by_cases c1:inOp x.o=true
 ·by_cases c2:inR 0 8191 x.a=true
  ·exact Zpc x v1 v2 w h1 h2 c1 c2
  ·have c2':inR 0 8191 x.a=false:=by simpa using c2
   rw [show mayP x=false by unfold mayP;rw [c1,c2'];rfl]
   exact Zqb x v1 v2 w h1 h2 c1 c2'
 ·have c1':inOp x.o=false:=by simpa using c1
  rw [show mayP x=false by unfold mayP;rw [c1'];rfl]
  exact ZpB x v1 v2 w h1 h2 c1'
def Zff (B:Nat) (r:In × Int × Int) (v:Value) (w':World):Prop :=
 ∃ v1 v2,v=.tuple #[.agg (r.1.vals v1 v2),.int .i64 r.2.1,.int .i64 r.2.2]∧Own B w' 3 .i64 v1 r.1.to∧Own B w' 3 .i64 v2 r.1.ks
theorem res6 {w W:World} {a b c d e f:Value} {T:TypeId} (x:Ext (w.alloc (.cells #[a,b,c,d,e,f] T)) W):W.heap[w.heap.size]?=some (.cells #[a,b,c,d,e,f] T (0,0)) ∧
 W.cell? ⟨w.heap.size,0,none⟩=some a∧W.cell? ⟨w.heap.size,1,none⟩=some b∧W.cell? ⟨w.heap.size,2,none⟩=some c∧W.cell? ⟨w.heap.size,3,none⟩=some d∧W.cell? ⟨w.heap.size,4,none⟩=some e∧W.cell? ⟨w.heap.size,5,none⟩=some f:=by
 have h:=(x.block w.heap.size (by simp)).trans (heap_alloc_new w (.cells #[a,b,c,d,e,f] T))
 exact⟨h,ZsT h (Ext.refl _)⟩
theorem Zk4 {w W:World} {cs:Array Value} {T:TypeId} (x:Ext (w.alloc (.cells cs T)) W) (j:Nat):W.frozen? ⟨w.heap.size,j,none⟩=false:=by
 have h:=(x.block w.heap.size (by simp)).trans (heap_alloc_new w (.cells cs T))
 simp [World.frozen?,h]
theorem Zsz (w:World) (L:Obj) (V:Value) (k:Int):PR ((w.alloc L).alloc (.cells #[V,.int .i64 k,.bool false] 269)) (w.heap.size+1) V k false:=by
 have h:=heap_alloc_new (w.alloc L) (.cells #[V,.int .i64 k,.bool false] 269)
 rwa [show (w.alloc L).heap.size=w.heap.size+1 by simp] at h
theorem PR.kept {w W:World} {g c:Nat} {v:Value} {a:Int} {en:Bool} (h:PR w g v a en) (hg:w.grownBy W (some c)) (hne:some g≠some c):PR W g v a en:=(hg.block g (Zab h) hne).trans h
theorem ZoZ {a o:Int} {l r:List Int} {x:In} (h:insM true a o (l,false)=(x,r,false)):body a o l=some (x,r):=by
 have hb:=Zer (st:=true) (a:=a) (o:=o) (l:=l)
 cases hy:body a o l with
 | none=>rw [hy,h] at hb;cases hb
 | some y =>
  rw [hy] at hb
  simp only at hb
  rw [h] at hb
  injection hb with e1 e2
  injection e2 with e2 e3
  rw [e1,e2]
theorem Zqk {a o:Int} {l r:List Int} {x:In} (h:insM true a o (l,false)=(x,r,true)):body a o l=none:=by
 have hb:=Zer (st:=true) (a:=a) (o:=o) (l:=l)
 cases hy:body a o l with
 | none=>rfl
 | some y =>
  rw [hy] at hb
  simp only at hb
  rw [h] at hb
  injection hb with e1 e2
  injection e2 with e2 e3
  cases e3
theorem Zam (w:World) (a:Addr):w.drew.cell? a=w.cell? a:=rfl
theorem Zlh (w:World):Ext w w.drew:=(Ext.refl w).drew
set_option maxRecDepth 100000 in
theorem Zmt (v:Value) (l:List Int) (k:Int) (w:World) (h:Row w .u8 v l) (hk:k<0∨(l.length:Int)≤k∨8192≤k) :
 Calls Tryz.prog 229 #[v,.int .i64 k] w (Ret w (Zff w.heap.size (i0,0,9))):=by
 obtain⟨A,c,rfl,-⟩:=h
 have hc:k<0∨(¬ k<0∧(l.length:Int)≤k)∨(¬ k<0∧¬ (l.length:Int)≤k∧8192≤k):=by omega
 clear hk
 rcases hc with hc | ⟨hc,hd⟩ | ⟨hc,hd,he⟩
 all_goals
  go_enter Tryz.func229,Tryz.ntmps229
  go_wp2
  refine bodyPost_ret (v:=.tuple #[.agg #[.int .i64 0,.int .i64 0,.int .i64 0,.int .i64 0,.slice none 0 0,.slice none 0 0],.int .i64 0,.int .i64 9]) (by simp [results,Tryz.results229,go_sem]) rfl ?_
  exact Ret.mk ⟨_,_,rfl,Own.nil _ _ _ _,Own.nil _ _ _ _⟩ ((Ext.refl w).alloc _)
theorem Zca {l:List Int} {k:Nat} (h:k<l.length):l.drop k=gi l k :: l.drop (k+1):=by
 rw [List.drop_eq_getElem_cons h]
 simp [gi,h]
def decB (l:List Int) (m:Option (In × List Int)):In × Int × Int:=match m with
 | none=>(i0,0,3)
 | some (x,r)=>if mayI x=true then (x,(l.length:Int)-r.length,0) else (i0,0,4)
theorem Zld {l:List Int} {k:Nat} (h:k<l.length) (h2:k<8192):Zas l k=if 89<gi l k then (i0,0,60) else decB l (body k (gi l k) (l.drop (k+1))):=by
 unfold Zas decB
 rw [if_neg (by omega),Int.toNat_natCast,Zca h]
 simp only
 split
 ·rfl
 ·cases body k (gi l k) (l.drop (k+1)) <;> rfl
set_option maxRecDepth 100000 in
theorem Znk (v:Value) (l:List Int) (k:Nat) (w:World) (h:Row w .u8 v l) (hk:k<l.length) (hk2:k<8192) (ho:89<gi l k) :
 Calls Tryz.prog 229 #[v,.int .i64 k] w (Ret w (Zff w.heap.size (i0,0,60))):=by
 have H0:=Lh h
 obtain⟨A,c,rfl,hc,hm,-⟩:=h
 unfold maxLen at hm
 have hb:=H0.out.fit.u8 (Zbb hk)
 obtain⟨b,o,rfl,hat⟩:=H0.out.all (by omega)
 have X0:=(Ext.refl w).alloc (.cells #[.int .i64 0,.int .i64 0,.int .i64 0,.int .i64 0,.slice none 0 0,.slice none 0 0] 178)
 have y0:=hat _ X0 k hk
 have hop:inOp (gi l k)=false:=by unfold inOp;simp;omega
 have HO:=Lh hop
 have hk0:¬ ((k:Int)<0):=by omega
 have hk3:¬ (8192≤(k:Int)):=by omega
 obtain⟨op,hop'⟩:∃ op,gi l k=op:=⟨_,rfl⟩
 rw [hop'] at y0 HO hb ho
 have hwo:IntKind.i64.wrap op=op:=by rw [IntKind.wrap_i64];omega
 clear hat hop hop'
 go_enter Tryz.func229,Tryz.ntmps229
 go_wp2_with fail
 refine(ZbD _ _).mono ?_
 rintro e w1 ⟨rfl,x1⟩
 rw [HO.out]
 obtain⟨-,c0,c1,c2,c3,c4,c5⟩:=res6 (x1.alloc (.cells #[.string (Zfl op),.int .i64 (Zad op),.bool (Zbe op)] 257))
 have fz:=Zk4 (x1.alloc (.cells #[.string (Zfl op),.int .i64 (Zad op),.bool (Zbe op)] 257))
 go_wp2
 refine bodyPost_ret (v:=.tuple #[.agg #[.int .i64 0,.int .i64 0,.int .i64 0,.int .i64 0,.slice none 0 0,.slice none 0 0],.int .i64 0,.int .i64 60]) (by simp [results,Tryz.results229,go_sem,c0,c1,c2,c3,c4,c5]) rfl ?_
 refine Ret.mk ⟨_,_,rfl,Own.nil _ _ _ _,Own.nil _ _ _ _⟩ ?_
 exact(X0.trans (x1.alloc _)).grown (Za0 _ _ _ _ _ _ _) (fun g hg=>by injection hg with hg;omega)
set_option maxRecDepth 100000 in
theorem ZmA (v:Value) (l:List Int) (k:Nat) (w:World) (h:Row w .u8 v l) (hk:k<l.length) (hk2:k<8192) (ho:gi l k≤89) :
 Calls Tryz.prog 229 #[v,.int .i64 k] w (Ret w (Zff w.heap.size (Zas l k))):=by
 rw [Zld hk hk2,if_neg (by omega)]
 have H0:=Lh h
 obtain⟨A,c,rfl,hc,hm,-⟩:=h
 unfold maxLen at hm
 have hb:=H0.out.fit.u8 (Zbb hk)
 obtain⟨b,o,rfl,hat⟩:=H0.out.all (by omega)
 have X0:=(Ext.refl w).alloc (.cells #[.int .i64 0,.int .i64 0,.int .i64 0,.int .i64 0,.slice none 0 0,.slice none 0 0] 178)
 have y0:=hat _ X0 k hk
 have hop:inOp (gi l k)=true:=by unfold inOp;simp;omega
 have HO:=Lh hop
 have hk0:¬ ((k:Int)<0):=by omega
 have hk3:¬ (8192≤(k:Int)):=by omega
 have hw1:IntKind.i64.wrap ((k:Int)+1)=k+1:=by rw [IntKind.wrap_i64];omega
 obtain⟨op,hop'⟩:∃ op,gi l k=op:=⟨_,rfl⟩
 rw [hop'] at y0 HO hb ho ⊢
 have hwo:IntKind.i64.wrap op=op:=by rw [IntKind.wrap_i64];omega
 have hcap:k+1<c∨k+1=c:=by omega
 obtain⟨q,hq⟩:∃ q,l.drop (k+1)=q:=⟨_,rfl⟩
 have hql:q.length=l.length-(k+1):=by rw [← hq,List.length_drop]
 rw [hq]
 have ht:(k+1<c∧Row w .u8 (.slice (some ⟨b,o+(k+1),none⟩) (l.length-(k+1)) (c-(k+1))) q)∨(k+1=c∧Row w .u8 (.slice (some ⟨b,o,none⟩) 0 0) q):=by
  rcases hcap with hcap | hcap
  ·exact .inl ⟨hcap,hq ▸ H0.out.tail (k+1) (by omega)⟩
  ·refine .inr ⟨hcap,?_⟩
   have:q=[]:=List.eq_nil_of_length_eq_zero (by omega)
   rw [this]
   exact Row.none_ _ _ _
 clear hat hop hop' hcap
 rcases ht with⟨hcap,ht⟩ | ⟨hcap,ht⟩
 all_goals
  have HT:=Lh ht
  clear ht
  go_enter Tryz.func229,Tryz.ntmps229
  go_wp2_with fail
  refine(ZbD _ _).mono ?_
  rintro e w1 ⟨rfl,x1⟩
  rw [HO.out]
  go_wp2_with fail
  have hi:=Zse (w1.alloc (.cells #[.string (Zfl op),.int .i64 (Zad op),.bool (Zbe op)] 257)) _ (w1.heap.size+1) _ k op (q,false) (Zsz w1 _ _ k) (HT.out.ext (X0.trans (x1.alloc _))) ((Ext.refl _).alloc _) (by simp) ⟨by omega,by omega⟩
  obtain⟨X,hX⟩:∃ X,insM true k op (q,false)=X:=⟨_,rfl⟩
  rw [hX] at hi
  have HX:=Lh hX
  clear hX
  refine hi.mono ?_
  rintro e w2 ⟨u1,u2,v3,rfl,o1,o2,hp2,hr2,x2⟩
  obtain⟨A1,n1,k1,rfl⟩:=o1.slice
  obtain⟨A2,n2,k2,rfl⟩:=o2.slice
  have X2:=(x1.alloc _).trans x2
  obtain⟨hres,c0,c1,c2,c3,c4,c5⟩:=res6 X2
  have fz:=Zk4 X2
  obtain⟨p0,p1,p2,-,-,-⟩:=hp2.cells
  have hle:=x1.size
  have hne:w.heap.size≠w1.heap.size+1:=by simp at hle;omega
  have hne':w1.heap.size+1≠w.heap.size:=fun e=>hne e.symm
  have hs6:=Za0 (W:=w2) w.heap.size (.int .i64 X.1.a) (.int .i64 X.1.o) (.int .i64 X.1.n) (.int .i64 X.1.m) (.slice A1 n1 k1) (.slice A2 n2 k2)
  have o1':=(o1.kept hs6 (fun g hg e=>by injection e with e;subst e;exact Zau o1 hres (by decide) hg)).base (show w.heap.size≤_ by simp at hle ⊢;omega)
  have o2':=(o2.kept hs6 (fun g hg e=>by injection e with e;subst e;exact Zau o2 hres (by decide) hg)).base (show w.heap.size≤_ by simp at hle ⊢;omega)
  have hx3:=Ziu (y:=i0) (u1:=.slice none 0 0) (u2:=.slice none 0 0) hres X.1 (.slice A1 n1 k1) (.slice A2 n2 k2)
  have hp3:=hp2.kept hs6 (fun e=>by injection e with e;exact hne' e)
  have X3:Ext w _:=(X0.trans X2).grown hs6 (fun g hg=>by injection hg with hg;omega)
  unfold In.vals
  obtain⟨⟨xa,xo,xn,xm,xt,xk⟩,qr,en⟩:=X
  simp only at o1 o2 hp2 hr2 p0 p1 p2 o1' o2' hx3 hp3 X3 ⊢
  cases en
  ·have HBO:=Lh (ZoZ HX.out)
   go_wp2_with fail
   obtain⟨W3,hW3⟩:∃ W3,W3=(((((w2.setCell ⟨w.heap.size,0,none⟩ (.int .i64 xa)).setCell ⟨w.heap.size,1,none⟩ (.int .i64 xo)).setCell ⟨w.heap.size,2,none⟩ (.int .i64 xn)).setCell ⟨w.heap.size,3,none⟩ (.int .i64 xm)).setCell ⟨w.heap.size,4,none⟩ (.slice A1 n1 k1)).setCell ⟨w.heap.size,5,none⟩ (.slice A2 n2 k2):=⟨_,rfl⟩
   rw [← hW3] at o1' o2' hx3 hp3 X3 ⊢
   clear hW3 hs6 hp2 p0 p1 p2 c0 c1 c2 c3 c4 c5 fz hres o1 o2
   have hmb:=Zop ⟨xa,xo,xn,xm,xt,xk⟩ _ _ W3 o1'.row o2'.row
   unfold In.vals at hmb
   refine hmb.mono ?_
   rintro e w4 ⟨rfl,x4⟩
   obtain⟨c0,c1,c2,c3,c4,c5⟩:=XP.cells (h:=w.heap.size) (show XP w4 w.heap.size _ _ _ from(x4.block _ hx3.lt).trans hx3)
   have fz:=XP.free (h:=w.heap.size) (show XP w4 w.heap.size _ _ _ from(x4.block _ hx3.lt).trans hx3)
   obtain⟨p0,p1,p2,-,-,-⟩:=(hp3.ext x4).cells
   simp only at c0 c1 c2 c3
   by_cases hm:mayI ⟨xa,xo,xn,xm,xt,xk⟩=true
   ·have HD:=Lh (show decB l (some (⟨xa,xo,xn,xm,xt,xk⟩,qr))=(⟨xa,xo,xn,xm,xt,xk⟩,(l.length:Int)-qr.length,0) by unfold decB;simp [hm])
    rw [hm]
    clear hm
    obtain⟨A3,k3,rfl,h30,h31,-⟩:=hr2
    unfold maxLen at h31
    have hsub:IntKind.i64.wrap ((l.length:Int)-qr.length)=l.length-qr.length:=by rw [IntKind.wrap_i64];omega
    have hxd:XP w4 w.heap.size ⟨xa,xo,xn,xm,xt,xk⟩ (.slice A1 n1 k1) (.slice A2 n2 k2):=(x4.block _ hx3.lt).trans hx3
    have hp5:=(PR.kept (W:=(((((w4.setCell ⟨w.heap.size,0,none⟩ (.int .i64 xa)).setCell ⟨w.heap.size,1,none⟩ (.int .i64 xo)).setCell ⟨w.heap.size,2,none⟩ (.int .i64 xn)).setCell ⟨w.heap.size,3,none⟩ (.int .i64 xm)).setCell ⟨w.heap.size,4,none⟩ (.slice A1 n1 k1)).setCell ⟨w.heap.size,5,none⟩ (.slice A2 n2 k2)) (hp3.ext x4) (Za0 _ _ _ _ _ _ _) (fun e=>by injection e with e;exact hne' e)).cells.1
    have hs5:=Za0 (W:=w4) w.heap.size (.int .i64 xa) (.int .i64 xo) (.int .i64 xn) (.int .i64 xm) (.slice A1 n1 k1) (.slice A2 n2 k2)
    have o15:=(o1'.ext x4).kept hs5 (fun g hg e=>by injection e with e;subst e;exact Zau o1' hx3 (by decide) hg)
    have o25:=(o2'.ext x4).kept hs5 (fun g hg e=>by injection e with e;subst e;exact Zau o2' hx3 (by decide) hg)
    have X5:Ext w _:=(X3.trans x4).grown hs5 (fun g hg=>by injection hg with hg;omega)
    have hx5:=Ziu hxd ⟨xa,xo,xn,xm,xt,xk⟩ (.slice A1 n1 k1) (.slice A2 n2 k2)
    obtain⟨e0,e1,e2,e3,e4,e5⟩:=hx5.cells
    simp only at e0 e1 e2 e3
    have E1:(w4.drew.cell? ⟨w.heap.size,0,none⟩=some (.int .i64 xa)∧w4.drew.cell? ⟨w.heap.size,1,none⟩=some (.int .i64 xo)∧w4.drew.cell? ⟨w.heap.size,2,none⟩=some (.int .i64 xn)∧w4.drew.cell? ⟨w.heap.size,3,none⟩=some (.int .i64 xm)∧w4.drew.cell? ⟨w.heap.size,4,none⟩=some (.slice A1 n1 k1)∧w4.drew.cell? ⟨w.heap.size,5,none⟩=some (.slice A2 n2 k2)∧w4.drew.cell? ⟨w1.heap.size+1,0,none⟩=some (.slice A3 qr.length k3)):=⟨(Zam _ _).trans c0,(Zam _ _).trans c1,(Zam _ _).trans c2,(Zam _ _).trans c3,(Zam _ _).trans c4,(Zam _ _).trans c5,(Zam _ _).trans p0⟩
    have E2:(((((((w4.setCell ⟨w.heap.size,0,none⟩ (.int .i64 xa)).setCell ⟨w.heap.size,1,none⟩ (.int .i64 xo)).setCell ⟨w.heap.size,2,none⟩ (.int .i64 xn)).setCell ⟨w.heap.size,3,none⟩ (.int .i64 xm)).setCell ⟨w.heap.size,4,none⟩ (.slice A1 n1 k1)).setCell ⟨w.heap.size,5,none⟩ (.slice A2 n2 k2)).drew.cell? ⟨w.heap.size,0,none⟩=some (.int .i64 xa)∧((((((w4.setCell ⟨w.heap.size,0,none⟩ (.int .i64 xa)).setCell ⟨w.heap.size,1,none⟩ (.int .i64 xo)).setCell ⟨w.heap.size,2,none⟩ (.int .i64 xn)).setCell ⟨w.heap.size,3,none⟩ (.int .i64 xm)).setCell ⟨w.heap.size,4,none⟩ (.slice A1 n1 k1)).setCell ⟨w.heap.size,5,none⟩ (.slice A2 n2 k2)).drew.cell? ⟨w.heap.size,1,none⟩=some (.int .i64 xo)∧((((((w4.setCell ⟨w.heap.size,0,none⟩ (.int .i64 xa)).setCell ⟨w.heap.size,1,none⟩ (.int .i64 xo)).setCell ⟨w.heap.size,2,none⟩ (.int .i64 xn)).setCell ⟨w.heap.size,3,none⟩ (.int .i64 xm)).setCell ⟨w.heap.size,4,none⟩ (.slice A1 n1 k1)).setCell ⟨w.heap.size,5,none⟩ (.slice A2 n2 k2)).drew.cell? ⟨w.heap.size,2,none⟩=some (.int .i64 xn)∧((((((w4.setCell ⟨w.heap.size,0,none⟩ (.int .i64 xa)).setCell ⟨w.heap.size,1,none⟩ (.int .i64 xo)).setCell ⟨w.heap.size,2,none⟩ (.int .i64 xn)).setCell ⟨w.heap.size,3,none⟩ (.int .i64 xm)).setCell ⟨w.heap.size,4,none⟩ (.slice A1 n1 k1)).setCell ⟨w.heap.size,5,none⟩ (.slice A2 n2 k2)).drew.cell? ⟨w.heap.size,3,none⟩=some (.int .i64 xm)∧((((((w4.setCell ⟨w.heap.size,0,none⟩ (.int .i64 xa)).setCell ⟨w.heap.size,1,none⟩ (.int .i64 xo)).setCell ⟨w.heap.size,2,none⟩ (.int .i64 xn)).setCell ⟨w.heap.size,3,none⟩ (.int .i64 xm)).setCell ⟨w.heap.size,4,none⟩ (.slice A1 n1 k1)).setCell ⟨w.heap.size,5,none⟩ (.slice A2 n2 k2)).drew.cell? ⟨w.heap.size,4,none⟩=some (.slice A1 n1 k1)∧((((((w4.setCell ⟨w.heap.size,0,none⟩ (.int .i64 xa)).setCell ⟨w.heap.size,1,none⟩ (.int .i64 xo)).setCell ⟨w.heap.size,2,none⟩ (.int .i64 xn)).setCell ⟨w.heap.size,3,none⟩ (.int .i64 xm)).setCell ⟨w.heap.size,4,none⟩ (.slice A1 n1 k1)).setCell ⟨w.heap.size,5,none⟩ (.slice A2 n2 k2)).drew.cell? ⟨w.heap.size,5,none⟩=some (.slice A2 n2 k2)∧((((((w4.setCell ⟨w.heap.size,0,none⟩ (.int .i64 xa)).setCell ⟨w.heap.size,1,none⟩ (.int .i64 xo)).setCell ⟨w.heap.size,2,none⟩ (.int .i64 xn)).setCell ⟨w.heap.size,3,none⟩ (.int .i64 xm)).setCell ⟨w.heap.size,4,none⟩ (.slice A1 n1 k1)).setCell ⟨w.heap.size,5,none⟩ (.slice A2 n2 k2)).drew.cell? ⟨w1.heap.size+1,0,none⟩=some (.slice A3 qr.length k3)):=⟨(Zam _ _).trans e0,(Zam _ _).trans e1,(Zam _ _).trans e2,(Zam _ _).trans e3,(Zam _ _).trans e4,(Zam _ _).trans e5,(Zam _ _).trans hp5⟩
    have F2:=Zlh ((((((w4.setCell ⟨w.heap.size,0,none⟩ (.int .i64 xa)).setCell ⟨w.heap.size,1,none⟩ (.int .i64 xo)).setCell ⟨w.heap.size,2,none⟩ (.int .i64 xn)).setCell ⟨w.heap.size,3,none⟩ (.int .i64 xm)).setCell ⟨w.heap.size,4,none⟩ (.slice A1 n1 k1)).setCell ⟨w.heap.size,5,none⟩ (.slice A2 n2 k2))
    clear hmb hi
    go_wp2_with fail
    go_region_held3 (fun w'=>w'.cell? ⟨w.heap.size,0,none⟩=some (.int .i64 xa)∧w'.cell? ⟨w.heap.size,1,none⟩=some (.int .i64 xo)∧w'.cell? ⟨w.heap.size,2,none⟩=some (.int .i64 xn)∧w'.cell? ⟨w.heap.size,3,none⟩=some (.int .i64 xm)∧w'.cell? ⟨w.heap.size,4,none⟩=some (.slice A1 n1 k1)∧w'.cell? ⟨w.heap.size,5,none⟩=some (.slice A2 n2 k2)∧w'.cell? ⟨w1.heap.size+1,0,none⟩=some (.slice A3 qr.length k3)) (first | with_reducible exact E1 | with_reducible exact E2) (first | (fail))
    all_goals
     go_wp2
     refine bodyPost_ret (v:=.tuple #[.agg #[.int .i64 xa,.int .i64 xo,.int .i64 xn,.int .i64 xm,.slice A1 n1 k1,.slice A2 n2 k2],.int .i64 ((l.length:Int)-qr.length),.int .i64 0]) (by simp [results,Tryz.results229,go_sem,e0,e1,e2,e3,e4,e5]) rfl ?_
     rw [HBO.out,HD.out]
     exact Ret.mk ⟨_,_,rfl,o15.ext F2,o25.ext F2⟩ (X5.trans F2)
   ·have hm':mayI ⟨xa,xo,xn,xm,xt,xk⟩=false:=by simpa using hm
    rw [hm']
    have HD:=Lh (show decB l (some (⟨xa,xo,xn,xm,xt,xk⟩,qr))=(i0,0,4) by unfold decB;simp [hm'])
    clear hm hm'
    go_wp2
    refine bodyPost_ret (v:=.tuple #[.agg #[.int .i64 0,.int .i64 0,.int .i64 0,.int .i64 0,.slice none 0 0,.slice none 0 0],.int .i64 0,.int .i64 4]) (by simp [results,Tryz.results229,go_sem,c0,c1,c2,c3,c4,c5]) rfl ?_
    rw [HBO.out,HD.out]
    refine Ret.mk ⟨_,_,rfl,Own.nil _ _ _ _,Own.nil _ _ _ _⟩ ?_
    exact(X3.trans x4).grown (Za0 _ _ _ _ _ _ _) (fun g hg=>by injection hg with hg;omega)
  ·have HBO:=Lh (Zqk HX.out)
   go_wp2
   have hx4:=Ziu hx3 i0 (.slice none 0 0) (.slice none 0 0)
   obtain⟨e0,e1,e2,e3,e4,e5⟩:=hx4.cells
   simp only [i0] at e0 e1 e2 e3 e4 e5
   refine bodyPost_ret (v:=.tuple #[.agg #[.int .i64 0,.int .i64 0,.int .i64 0,.int .i64 0,.slice none 0 0,.slice none 0 0],.int .i64 0,.int .i64 3]) (by simp [results,Tryz.results229,go_sem,e0,e1,e2,e3,e4,e5]) rfl ?_
   rw [HBO.out]
   refine Ret.mk ⟨_,_,rfl,Own.nil _ _ _ _,Own.nil _ _ _ _⟩ ?_
   exact X3.grown (Za0 _ _ _ _ _ _ _) (fun g hg=>by injection hg with hg;omega)
theorem ZlQ (v:Value) (l:List Int) (k:Int) (w:World) (h:Row w .u8 v l) :
 Calls Tryz.prog 229 #[v,.int .i64 k] w (Ret w (Zff w.heap.size (Zas l k))):=by
 by_cases hk:k<0∨(l.length:Int)≤k∨8192≤k
 ·rw [show Zas l k=(i0,0,9) by unfold Zas;rw [if_pos hk]]
  exact Zmt v l k w h hk
 ·obtain⟨n,rfl⟩:∃ n:Nat,k=n:=⟨k.toNat,by omega⟩
  by_cases ho:89<gi l n
  ·rw [Zld (by omega) (by omega),if_pos ho]
   exact Znk v l n w h (by omega) (by omega) ho
  ·exact ZmA v l n w h (by omega) (by omega) (by omega)
theorem Zhg (w:World) (A B:Obj):((w.alloc A).alloc B).heap[w.heap.size+1]?=some B:=by
 have h:=heap_alloc_new (w.alloc A) B
 rwa [show (w.alloc A).heap.size=w.heap.size+1 by simp] at h
theorem Zov (w:World) (A B C:Obj):(((w.alloc A).alloc B).alloc C).heap[w.heap.size+2]?=some C:=by
 have h:=heap_alloc_new ((w.alloc A).alloc B) C
 rwa [show ((w.alloc A).alloc B).heap.size=w.heap.size+2 by simp] at h
def CutAns (B:Nat) (r:List In × Int × Int) (v:Value) (w':World):Prop:=∃ u,v=.tuple #[u,.int .i64 r.2.1,.int .i64 r.2.2]∧OwnI B w' u r.1
theorem Zdh {w:World} {v:Value} {b:List Int} (h:Row w .u8 v b):Zen b:=fun c hc=>h.fit.u8 hc
theorem CutAns.bad {w:World} {B:Nat} {R:List In × Int × Int} {k e:Int} (h:R=([],k,e)):CutAns B R (.tuple #[.slice none 0 0,.int .i64 k,.int .i64 e]) w:=by
 subst h
 exact⟨_,rfl,OwnI.nil _ _⟩
theorem CutAns.good {w:World} {B:Nat} {R:List In × Int × Int} {u:Value} {l:List In} (h:R=(l,0,0)) (ho:OwnI B w u l):CutAns B R (.tuple #[u,.int .i64 0,.int .i64 0]) w:=by
 subst h
 exact⟨_,rfl,ho⟩
set_option maxRecDepth 100000 in
theorem ZhY (v:Value) (b:List Int) (w:World) (h:Row w .u8 v b) (hl:b.length≤8192) :
 Calls Tryz.prog 194 #[v] w (Ret w (CutAns w.heap.size (cutF b 0))):=by
 have H:=Lh h
 have HB:=Lh (Zdh h)
 obtain⟨A,c,rfl,hc,hm,-⟩:=h
 unfold maxLen at hm
 obtain⟨R,hR⟩:∃ R,cutF b 0=R:=⟨_,rfl⟩
 have HC:Hid (Come b R [] 0):=Lh (hR ▸ Come.start b)
 rw [hR]
 clear hR
 obtain⟨n,hn⟩:∃ n,n=b.length:=⟨_,rfl⟩
 rw [← hn] at hc hl H ⊢
 have Hn:=Lh hn
 clear hn
 go_enter Tryz.func194,Tryz.ntmps194
 go_wp2
 go_loopw [2,3] (fun u i wr=>∃ (k:Nat) (acc:List In),i=.int .i64 k∧k≤n∧acc.length≤k∧Hid (OwnI w.heap.size wr u acc)∧Hid (Come b R acc k)∧Hid (Ext w wr)) (fun _ i _=>n-(intOf i).toNat)
 case atStart=>exact⟨0,[],rfl,by omega,by simp,Lh (OwnI.nil _ _),HC,Lh (Ext.refl w)⟩
 case round =>
  obtain⟨k,acc,rfl,hk,hak,HO,HCk,HX⟩:=hrel
  by_cases hlt:k<n
  ·have hd:=ZlQ _ b k wr (H.out.ext HX.out)
   obtain⟨D,hD⟩:∃ D,Zas b k=D:=⟨_,rfl⟩
   rw [hD] at hd
   obtain⟨x,j,er⟩:=D
   have HD:=Lh hd
   by_cases he:er=0
   ·subst he
    obtain⟨i,hi1,hi2,hi3⟩:=ZcK HB.out (k:=k) (by rw [hD])
    rw [hD] at hi1
    simp only at hi1
    subst hi1
    have HN:=Lh (HCk.out.next HB.out (by have:=Hn.out;omega) hD)
    rw [← Hn.out] at hi3
    clear hd hD
    go_wp2_with fail
    refine HD.out.mono ?_
    rintro e w1 ⟨v',rfl,⟨u1,u2,rfl,o1,o2⟩,x1⟩
    obtain⟨B1,n1,c1,rfl⟩:=o1.slice
    obtain⟨B2,n2,c2,rfl⟩:=o2.slice
    have O1:=Lh o1
    have O2:=Lh o2
    have X1:=Lh x1
    have hsz:=HX.out.size
    have hsz1:=x1.size
    clear o1 o2 x1
    unfold In.vals
    go_wp2_with (at_builtin;go_loud (refine ZfT _ rfl _ _ w.heap.size rfl _ acc rfl ((HO.out.ext X1.out).ext (((Ext.refl _).alloc _).alloc _)) (w1.heap.size+1) x (.slice B1 n1 c1) (.slice B2 n2 c2) 178 rfl (Zhg _ _ _) ((O1.out.base hsz).ext (((Ext.refl _).alloc _).alloc _)) ((O2.out.base hsz).ext (((Ext.refl _).alloc _).alloc _)) (by omega) (by simp;omega) ?_);intro u' w2 ho2 hg2 _)
    have X2:=Lh ((((HX.out.trans X1.out).alloc (.cells #[.int .i64 x.a,.int .i64 x.o,.int .i64 x.n,.int .i64 x.m,.slice B1 n1 c1,.slice B2 n2 c2] 178)).alloc (.cells #[.int .i64 x.a,.int .i64 x.o,.int .i64 x.n,.int .i64 x.m,.slice B1 n1 c1,.slice B2 n2 c2] 178)).grown hg2 (fun g hg=>HO.out.low g hg))
    have HO2:=Lh ho2
    clear ho2 hg2
    go_wp2_with fail
    go_roundw
    case rel=>exact⟨i,acc++[x],rfl,hi3,by simp;omega,HO2,HN,X2⟩
    case measure=>simp [intOf];omega
   ·have HE:=Lh (HCk.out.bad (by have:=Hn.out;omega) (by rw [hD];exact he))
    rw [hD] at HE
    have hb:(er != 0)=true:=by simpa using he
    clear hd hD
    go_wp2_with fail
    refine HD.out.mono ?_
    rintro e w1 ⟨v',rfl,⟨u1,u2,rfl,o1,o2⟩,x1⟩
    obtain⟨B1,n1,c1,rfl⟩:=o1.slice
    obtain⟨B2,n2,c2,rfl⟩:=o2.slice
    have X1:=Lh x1
    clear o1 o2 x1
    unfold In.vals
    go_wp2
    go_ret3
    exact Ret.mk (CutAns.bad HE.out) ((HX.out.trans X1.out).alloc _)
  ·have HE:=Lh (HCk.out.end_ (by have:=Hn.out;omega))
   go_wp2
   go_ret3
   exact Ret.mk (CutAns.good HE.out HO.out) HX.out
end Go.Proofs.YtclamhhgldkhnaaGreatDoor
