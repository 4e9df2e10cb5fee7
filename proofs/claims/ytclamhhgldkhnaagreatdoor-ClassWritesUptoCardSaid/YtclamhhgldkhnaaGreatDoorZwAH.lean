/- Several texts of this proof, one behind the other. -/
import Derived.Test.YtclamhhgldkhnaaGreatDoorZwAG
import Derived.Lib.AppendZeros
import Derived.Test.YtclamhhgldkhnaaGreatDoorZwAC
import Derived.Test.YtclamhhgldkhnaaGreatDoorZwV
import Derived.Lib.SmallJoins
namespace Go.Proofs.YtclamhhgldkhnaaGreatDoor
open Go.RowKit Go.Lib
set_option linter.unusedVariables false
set_option maxHeartbeats 16000000
theorem Zqz (w:World) (n:Nat) (h0:0<n) (hn:n≤140737488355328) :
 Calls Tryz.prog 57 #[.slice none 0 0,.int .i64 n] w fun x w'=>∃ v,x=.returned v∧Own w.heap.size w' 5 .u8 v []∧Ext w w':=by
 obtain⟨i0,hi,hz0,hz1,hz2⟩:=info_parts ZqG
 have hn1:¬ ((n:Int)<0):=by omega
 have hn2:(0:Int)<n:=by omega
 have hge:=grownCap_ge w n 0 5
 have hle:=grownCap_le_maxLen w n 0 5 (by unfold maxLen;omega)
 have hw:IntKind.i64.wrap (n:Int)=n:=by rw [IntKind.wrap_i64];omega
 have hA:=Lh (run_append_nil_zeros (P:=Tryz.prog) w 29 3 29 5 i0 _ .i64 .i64 Tryz.underlying29 Tryz.underlying3 hi hz0 n h0 (by rw [hz1];decide) (by omega) (by rw [hz2];omega))
 obtain⟨c,hc⟩:∃ c,grownCap w n 0 5=c:=⟨_,rfl⟩
 rw [hc] at hA hge hle
 have hO:Own w.heap.size (w.drew.alloc (.cells (Builtin.zeroCells (Value.cells (.int .u8 0)) n++Builtin.zeroCells (Value.cells (.int .u8 0)) (c-n)) 5)) 5 .u8 (.slice (some ⟨w.heap.size,0,none⟩) 0 c) []:=by
  refine⟨⟨rfl,.inr ⟨w.heap.size,_,_,rfl,Nat.le_refl _,heap_alloc_new w.drew _,Nat.zero_le _,hle,?_,by simp⟩⟩,fun x hx=>by simp at hx⟩
  simp only [Array.size_append,size_zeroCells]
  simp [Value.cells]
  omega
 have hX:Ext w (w.drew.alloc (.cells (Builtin.zeroCells (Value.cells (.int .u8 0)) n++Builtin.zeroCells (Value.cells (.int .u8 0)) (c-n)) 5)):=((Ext.refl w).drew).alloc _
 have HO:=Lh hO
 have HX:=Lh hX
 clear hO hX hi hz0 hz1 hz2
 go_enter Tryz.func57,Tryz.ntmps57
 go_wp2_with (at_builtin;refine Lib.wpList_append_run _ rfl _ _ _ _ rfl _ _ rfl rfl _ _ hA.out ?_)
 refine bodyPost_ret (results_tmp rfl _ _ _) rfl ?_
 exact⟨_,rfl,HO.out,HX.out⟩
theorem ZjP (w:World) (gn:Nat) (va vb:Value) (la lb:List Int) (h:BK w gn #[va,vb] 29) (ha:Row w .u8 va la) (hb:Row w .u8 vb lb) (h0:0<la.length) (hl:la.length+lb.length≤140737488355328) :
 Calls Tryz.prog 24 #[.slice (some ⟨gn,0,none⟩) 2 2] w fun x w'=>∃ v,x=.returned v∧Own w.heap.size w' 5 .u8 v (la++lb)∧Ext w w':=by
 have HA:=Lh ha
 have HB:=Lh hb
 obtain⟨A1,c1,rfl,-⟩:=ha
 obtain⟨A2,c2,rfl,-⟩:=hb
 obtain⟨na,hna⟩:∃ n,la.length=n:=⟨_,rfl⟩
 obtain⟨nb,hnb⟩:∃ n,lb.length=n:=⟨_,rfl⟩
 have C1:=Lh (Zqz w (na+nb) (by omega) (by omega))
 rw [show ((na+nb:Nat):Int)=(na:Int)+(nb:Int) by omega] at C1
 have HLA:=Lh hna
 have HLB:=Lh hnb
 rw [hna,hnb] at hl
 rw [hna] at HA h h0
 rw [hnb] at HB h
 have B0:=Lh h
 have y0:w.cell? ⟨gn,0,none⟩=some (.slice A1 na c1):=h.cell 0
 have y1:w.cell? ⟨gn,1,none⟩=some (.slice A2 nb c2):=h.cell 1
 clear h hna hnb
 go_enter Tryz.func24,Tryz.ntmps24
 go_wp2_with fail
 refine wp_loop_rounds 3 ?_
 rw [rounds_succ]
 go_wp2_with fail
 rw [rounds_succ]
 go_wp2_with fail
 rw [rounds_succ]
 go_wp2_with fail
 refine C1.out.mono ?_
 rintro x w1 ⟨v1,rfl,o1,x1⟩
 obtain⟨A3,n3,c3,rfl⟩:=o1.slice
 have O1:=Lh o1
 have X1:=Lh x1
 have z0:w1.cell? ⟨gn,0,none⟩=some (.slice A1 na c1):=(B0.out.ext x1).cell 0
 clear o1 x1 y0 y1 C1
 go_wp2_with fail
 refine wp_loop_rounds 3 ?_
 rw [rounds_succ]
 go_wp2_with (at_builtin;go_loud (refine wpList_app _ rfl _ _ w.heap.size 29 5 _ 1 .u8 rfl Tryz.underlying29 Zaq rfl (by omega) (.slice A3 n3 c3) [] rfl O1.out (.slice A1 na c1) la rfl (HA.out.ext X1.out) (by have:=HLA.out;simp;omega) X1.out.size ?_);intro v2 w2 o2 g2 _;obtain⟨A4,n4,c4,rfl⟩:=o2.slice)
 have X2:=Lh (X1.out.grown g2 (fun g hg=>O1.out.low g hg))
 have O2:=Lh o2
 have z1:w2.cell? ⟨gn,1,none⟩=some (.slice A2 nb c2):=(B0.out.ext X2.out).cell 1
 clear o2 g2 z0
 rw [rounds_succ]
 go_wp2_with (at_builtin;go_loud (refine wpList_app _ rfl _ _ w.heap.size 29 5 _ 1 .u8 rfl Tryz.underlying29 Zaq rfl (by omega) (.slice A4 n4 c4) ([]++la) rfl O2.out (.slice A2 nb c2) lb rfl (HB.out.ext X2.out) (by have:=HLA.out;have:=HLB.out;simp;omega) X2.out.size ?_);intro v3 w3 o3 g3 _;obtain⟨A5,n5,c5,rfl⟩:=o3.slice)
 have X3:=Lh (X2.out.grown g3 (fun g hg=>O2.out.low g hg))
 have O3:=Lh o3
 clear o3 g3 z1
 rw [rounds_succ]
 go_wp2
 refine bodyPost_ret (results_tmp rfl _ _ _) rfl ?_
 exact⟨_,rfl,O3.out,X3.out⟩
end Go.Proofs.YtclamhhgldkhnaaGreatDoor
namespace Go.Proofs.YtclamhhgldkhnaaGreatDoor
open Go.RowKit
set_option linter.unusedVariables false
set_option maxRecDepth 100000 in
theorem ZgG (f:Fd) (w:World) (hn:f.nm.size≤140737488351232) (ht:TyOk f.ty) :
 Calls Tryz.prog 74 #[.agg f.vals] w fun e w'=>e=.returned (.bool (okFd f))∧Ext w w':=by
 have H1:=Lh (fun W=>Zej f.nm W hn)
 have H2:=Lh (fun W=>Zkm f.ty W ht)
 obtain⟨st,nm,ty⟩:=f
 obtain⟨k,s⟩:=ty
 unfold okFd Fd.vals
 simp only at H1 H2 ⊢
 obtain⟨a,ha⟩:∃ a,nmB nm=a:=⟨_,rfl⟩
 have hb:Zdp (tyD ⟨k,s⟩)=if okT (tyD ⟨k,s⟩)=true then 0 else 2:=rfl
 obtain⟨b,hb2⟩:∃ b,okT (tyD ⟨k,s⟩)=b:=⟨_,rfl⟩
 rw [hb2] at hb ⊢
 rw [hb] at H2
 rw [ha] at H1 ⊢
 clear ha hb hb2 hn ht
 go_enter Tryz.func74,Tryz.ntmps74
 go_wp2_with fail
 refine(H1.out _).mono ?_
 rintro e w1 ⟨rfl,x1⟩
 have X1:=Lh x1
 have y0:=(ZaE x1 2).trans rfl
 have y1:=(ZaE x1 3).trans rfl
 have nb:w.heap.size<w1.heap.size:=by have:=x1.size;simp at this;omega
 clear x1
 cases a
 ·go_wp2
  go_ret
  exact⟨rfl,((Ext.refl w).alloc _).trans X1.out⟩
 ·go_wp2_with fail
  refine(H2.out _).mono ?_
  rintro e w2 ⟨rfl,x2⟩
  cases b
  ·go_wp2
   go_ret
   exact⟨rfl,(((Ext.refl w).alloc _).trans X1.out).trans x2⟩
  ·go_wp2
   go_ret
   exact⟨rfl,(((Ext.refl w).alloc _).trans X1.out).trans x2⟩
theorem Zln {m:Me} {a b c d e:Bool} (h0:m.ab=true) (h1:m.st=a) (h2:decide (m.sk=0)=b) (h3:decide (m.lo=0)=c) (h4:decide (m.code.length=0)=d) (h5:decide (m.hs.length=0)=e) (pool:List Cst) :
 okMe pool m=(nmB m.nm&&(decide (Zap m.pr=0)&&(!a&&(b&&(c&&(d&&e)))))):=by
 unfold okMe
 rw [h0,if_pos rfl,h1,h2,h3,h4,h5]
theorem Zkv {m:Me} (h0:m.ab=false) (pool:List Cst):okMe pool m=(nmB m.nm&&(decide (Zap m.pr=0)&&decide ((Zcc m pool).2.2=0))):=by
 unfold okMe
 rw [h0,if_neg (by decide)]
set_option maxRecDepth 100000 in
theorem ZfF (m:Me) (va vc vh vp:Value) (pool:List Cst) (w:World) (hm:MeAt w m va vc vh) (hr:MeRoom m) (hp:ShC.Row w vp pool) :
 Calls Tryz.prog 77 #[.agg (m.vals va vc vh),vp] w fun e w'=>e=.returned (.bool (okMe pool m))∧Ext w w':=by
 have H1:=Lh (fun W=>Zej m.nm W hr.nm)
 have H2:=Lh (fun W (e:Ext w W)=>ZiY m va W (hm.1.ext e) hr)
 have H3:=Lh (fun W (e:Ext w W)=>Znc m va vc vh vp pool W (hm.ext e) (hp.ext e))
 have q0:m.ab=true→okMe pool m=(nmB m.nm&&(decide (Zap m.pr=0)&&(!m.st&&(decide (m.sk=0)&&(decide (m.lo=0)&&(decide (m.code.length=0)&&decide (m.hs.length=0))))))):=fun h=>Zln h rfl rfl rfl rfl rfl pool
 have q1:m.ab=false→okMe pool m=(nmB m.nm&&(decide (Zap m.pr=0)&&decide ((Zcc m pool).2.2=0))):=fun h=>Zkv h pool
 obtain⟨Aa,ca,rfl,-⟩:=hm.1.cut
 obtain⟨Ac,cc,rfl,-⟩:=id hm.2.1
 obtain⟨Ah,ch,rfl,-⟩:=hm.2.2.cut
 obtain⟨Ap,cp,rfl,-⟩:=hp.cut
 obtain⟨R,hR⟩:∃ R,Zcc m pool=R:=⟨_,rfl⟩
 obtain⟨l,at',er⟩:=R
 obtain⟨Z,hZ⟩:∃ Z,okMe pool m=Z:=⟨_,rfl⟩
 obtain⟨a,ha⟩:∃ a,nmB m.nm=a:=⟨_,rfl⟩
 obtain⟨p,hpp⟩:∃ p,Zap m.pr=p:=⟨_,rfl⟩
 rw [hR] at H3 q1
 rw [ha] at H1
 rw [hpp] at H2
 rw [hZ,ha,hpp] at q0 q1
 rw [hZ]
 have Q0:=Lh q0
 have Q1:=Lh q1
 unfold Me.vals at H3 ⊢
 clear q0 q1 hm hr hp hR hZ ha hpp
 obtain⟨st,ab,nm,ret,args,sk,lo,code,hs⟩:=m
 simp only at H1 H2 H3 Q0 Q1 ⊢
 obtain⟨na,hna⟩:∃ n,args.length=n:=⟨_,rfl⟩
 obtain⟨nc,hnc⟩:∃ n,code.length=n:=⟨_,rfl⟩
 obtain⟨nh,hnh⟩:∃ n,hs.length=n:=⟨_,rfl⟩
 rw [hna,hnc,hnh] at H3 ⊢
 rw [hna] at H2
 rw [hnc,hnh] at Q0
 clear hna hnc hnh
 go_enter Tryz.func77,Tryz.ntmps77
 go_wp2_with fail
 refine(H1.out _).mono ?_
 rintro e w1 ⟨rfl,x1⟩
 have X1:=Lh x1
 have nb:w.heap.size<w1.heap.size:=by have:=x1.size;simp at this;omega
 have y3:=(ZaE x1 3).trans rfl
 have y4:=(ZaE x1 4).trans rfl
 have y5:=(ZaE x1 5).trans rfl
 have W1:=Lh (((Ext.refl w).alloc _).trans x1)
 clear x1
 cases a
 ·have HZ:=Lh (show Z=false by cases ab <;> first | (rw [Q0.out rfl];rfl) | (rw [Q1.out rfl];rfl))
  go_wp2
  go_ret
  exact⟨by rw [HZ.out];rfl,W1.out⟩
 ·go_wp2_with fail
  refine(H2.out _ W1.out).mono ?_
  rintro e w2 ⟨rfl,x2⟩
  have X2:=Lh (X1.out.trans x2)
  have nb2:w.heap.size<w2.heap.size:=by have:=x2.size;omega
  have W2:=Lh (W1.out.trans x2)
  clear x2 y3 y4 y5
  by_cases hp0:p=0
  ·subst hp0
   have y0:=(ZaE X2.out 0).trans rfl
   have y1:=(ZaE X2.out 1).trans rfl
   have y2:=(ZaE X2.out 2).trans rfl
   have y3:=(ZaE X2.out 3).trans rfl
   have y4:=(ZaE X2.out 4).trans rfl
   have y5:=(ZaE X2.out 5).trans rfl
   have y6:=(ZaE X2.out 6).trans rfl
   have y7:=(ZaE X2.out 7).trans rfl
   have y8:=(ZaE X2.out 8).trans rfl
   have y9:=(ZaE X2.out 9).trans rfl
   cases ab
   ·have HZ:=Lh (show Z=decide (er=0) by rw [Q1.out rfl];simp)
    go_wp2_with fail
    refine(H3.out _ W2.out).mono ?_
    rintro e w3 ⟨v3,rfl,⟨u3,rfl,-⟩,x3⟩
    have W3:=Lh (W2.out.trans x3)
    clear x3
    by_cases he:er=0
    ·subst he
     go_wp2
     go_ret
     exact⟨by rw [HZ.out];rfl,W3.out⟩
    ·have hb:(er==0)=false:=by simpa using he
     rw [decide_eq_false he] at HZ
     clear he
     go_wp2
     go_ret
     exact⟨by rw [HZ.out];rfl,W3.out⟩
   ·have HZ:=Lh (show Z=(!st&&(decide (sk=0)&&(decide (lo=0)&&(decide (nc=0)&&decide (nh=0))))) by rw [Q0.out rfl];simp)
    cases st
    ·by_cases h1:sk=0
     ·subst h1
      by_cases h2:lo=0
      ·subst h2
       by_cases h3:nc=0
       ·subst h3
        by_cases h4:nh=0
        ·subst h4
         go_wp2
         go_ret
         exact⟨by rw [HZ.out];rfl,W2.out⟩
        ·have hb:((nh:Int)==0)=false:=by simp;omega
         rw [decide_eq_false h4] at HZ
         clear h4
         go_wp2
         go_ret
         exact⟨by rw [HZ.out];rfl,W2.out⟩
       ·have hb:((nc:Int)==0)=false:=by simp;omega
        rw [decide_eq_false h3] at HZ
        clear h3
        go_wp2
        go_ret
        exact⟨by rw [HZ.out];simp,W2.out⟩
      ·have hb:(lo==0)=false:=by simpa using h2
       rw [decide_eq_false h2] at HZ
       clear h2
       go_wp2
       go_ret
       exact⟨by rw [HZ.out];simp,W2.out⟩
     ·have hb:(sk==0)=false:=by simpa using h1
      rw [decide_eq_false h1] at HZ
      clear h1
      go_wp2
      go_ret
      exact⟨by rw [HZ.out];simp,W2.out⟩
    ·go_wp2
     go_ret
     exact⟨by rw [HZ.out];rfl,W2.out⟩
  ·have hb:(p != 0)=true:=by simpa using hp0
   have HZ:=Lh (show Z=false by
    rw [decide_eq_false hp0] at Q0 Q1
    cases ab
    ·rw [Q1.out rfl];rfl
    ·rw [Q0.out rfl];rfl)
   clear hp0
   go_wp2
   go_ret
   exact⟨by rw [HZ.out];rfl,W2.out⟩
set_option maxRecDepth 100000 in
theorem ZlN (m:Me) (va vc vh:Value) (c:Cl) (vp vi vf vm:Value) (g:Nat) (w:World) (hm:MeAt w m va vc vh) (hr:MeRoom m) (hp:ShC.Row w vp c.pool) (hb:ClB w g c vp vi vf vm) :
 Calls Tryz.prog 76 (#[.agg (m.vals va vc vh)]++#[.pointer (some ⟨g,0,none⟩)]) w fun e w'=>e=.returned (.bool (okMe c.pool m))∧Ext w w':=by
 have H:=Lh (fun W (e:Ext w W)=>ZfF m va vc vh vp c.pool W (hm.ext e) hr (hp.ext e))
 obtain⟨Aa,ca,rfl,-⟩:=hm.1.cut
 obtain⟨Ac,cc,rfl,-⟩:=id hm.2.1
 obtain⟨Ah,ch,rfl,-⟩:=hm.2.2.cut
 obtain⟨Ap,cp,rfl,-⟩:=hp.cut
 have yc:=hb.cells.1
 have lc:=hb.lt
 have n0:¬ g=w.heap.size:=by omega
 obtain⟨Z,hZ⟩:∃ Z,okMe c.pool m=Z:=⟨_,rfl⟩
 rw [hZ] at H ⊢
 obtain⟨np,hnp⟩:∃ n,c.pool.length=n:=⟨_,rfl⟩
 rw [hnp] at H yc
 unfold Me.vals at H ⊢
 clear hm hr hp hb hZ hnp
 go_enter Tryz.func76,Tryz.ntmps76
 go_wp2_with fail
 refine(H.out _ ((Ext.refl w).alloc _)).mono ?_
 rintro e w1 ⟨rfl,x1⟩
 go_wp2
 go_ret
 exact⟨rfl,((Ext.refl w).alloc _).trans x1⟩
set_option maxRecDepth 100000 in
theorem Zgz (c:Cl) (vp vi vf vm:Value) (w:World) (h:ClAt w c vp vi vf vm) (hr:ClRoom c) (hT:Tabs w) (hM:Most w) :
 Calls Tryz.prog 27 #[.agg (c.vals vp vi vf vm)] w fun e w'=>e=.returned (.bool (okCl c))∧Ext w w':=by
 have H1:=Lh (fun W (e:Ext w W)=>ZdA vp c.pool W (Ze1 (h.1.ext e) fun x hx=>(hr.pool x hx).1) (hT.ext e) hr.texts)
 have H2:=Lh (fun W=>Zej c.nm W hr.nm)
 have H3:=Lh (fun W=>Zej c.sup W hr.sup)
 have H4:=Lh (fun W (e:Ext w W)=>ZqB 71 #[] nmB 0 (by decide) 0 rfl vi c.ifs W (hM.ext e) (h.2.1.ext e) (fun args W=>Tryz.call71 args W) (fun W _ x hx=>Zej x W (hr.ifs x hx)))
 have H5:=Lh (fun W (e:Ext w W)=>Zp1 74 #[] okFd 1 (by decide) 1 rfl vf c.fds W (hM.ext e) (h.2.2.1.ext e) (fun args W=>Tryz.call74 args W) (fun W _ x hx=>ZgG x W (hr.fds x hx).1 (hr.fds x hx).2))
 have H6:=Lh (fun W g (e:Ext w W) (hb:ClB W g c vp vi vf vm)=>Zql 76 #[.pointer (some ⟨g,0,none⟩)] (okMe c.pool) 2 (by decide) 2 rfl vm c.mts W (hM.ext e) (h.2.2.2.ext e) (fun args W=>Tryz.call76 args W)
  (fun W' e' x hx va vc vh hm=>ZlN x va vc vh c vp vi vf vm g W' hm (hr.mts x hx) (h.1.ext (e.trans e')) (hb.ext e')))
 have HB:=Lh (fun W (e:Ext (w.alloc (.cells (c.vals vp vi vf vm) 27)) W)=>(ClB.new w c vp vi vf vm).ext e)
 obtain⟨Ap,cp,rfl,-⟩:=h.1.cut
 obtain⟨Ai,ci,rfl,-⟩:=h.2.1.cut
 obtain⟨Af,cf,rfl,-⟩:=h.2.2.1.cut
 obtain⟨Am,cm,rfl,-⟩:=h.2.2.2.cut
 obtain⟨k1,hk1⟩:∃ k,ZaD c.pool=k:=⟨_,rfl⟩
 obtain⟨k2,hk2⟩:∃ k,nmB c.nm=k:=⟨_,rfl⟩
 obtain⟨k3,hk3⟩:∃ k,nmB c.sup=k:=⟨_,rfl⟩
 obtain⟨k4,hk4⟩:∃ k,(decide ((c.ifs.length:Int)≤mst 0)&&c.ifs.all nmB)=k:=⟨_,rfl⟩
 obtain⟨k5,hk5⟩:∃ k,(decide ((c.fds.length:Int)≤mst 1)&&c.fds.all okFd)=k:=⟨_,rfl⟩
 obtain⟨k6,hk6⟩:∃ k,(decide ((c.mts.length:Int)≤mst 2)&&c.mts.all (okMe c.pool))=k:=⟨_,rfl⟩
 have dI:∀ (n K:Nat),decide ((n:Int)≤(K:Int))=decide (n≤K):=fun n K=>by by_cases h:n≤K <;> simp [h]
 have hz:okCl c=(decide (k1=0)&&(k2&&((decide (c.sup=.empty) || k3)&&(k4&&(k5&&k6))))):=by
  unfold okCl
  rw [← hk1,← hk2,← hk3,← hk4,← hk5,← hk6]
  rw [show mst 0=((64:Nat):Int) from rfl,show mst 1=((256:Nat):Int) from rfl,show mst 2=((256:Nat):Int) from rfl,dI,dI,dI]
  simp only [Bool.and_assoc]
 obtain⟨Z,hZ⟩:∃ Z,okCl c=Z:=⟨_,rfl⟩
 rw [hZ] at hz ⊢
 have HZ:=Lh hz
 rw [hk1] at H1
 rw [hk2] at H2
 rw [hk3] at H3
 rw [hk4] at H4
 rw [hk5] at H5
 rw [hk6] at H6
 unfold Cl.vals at HB ⊢
 clear h hr hT hM hk1 hk2 hk3 hk4 hk5 hk6 hz hZ dI
 obtain⟨pool,inf,nm,sup,ifs,fds,mts⟩:=c
 simp only at H1 H2 H3 H4 H5 H6 HB HZ ⊢
 obtain⟨np,hnp⟩:∃ n,pool.length=n:=⟨_,rfl⟩
 obtain⟨ni,hni⟩:∃ n,ifs.length=n:=⟨_,rfl⟩
 obtain⟨nf,hnf⟩:∃ n,fds.length=n:=⟨_,rfl⟩
 obtain⟨nm',hnm⟩:∃ n,mts.length=n:=⟨_,rfl⟩
 rw [hnp,hni,hnf,hnm] at HB H6 ⊢
 rw [hnp] at H1
 rw [hni] at H4
 rw [hnf] at H5
 clear hnp hni hnf hnm
 have y0:=(ZaE (Ext.refl (w.alloc (.cells #[.slice Ap np cp,.string nm,.string sup,.bool inf,.slice Ai ni ci,.slice Af nf cf,.slice Am nm' cm] 27))) 0).trans rfl
 go_enter Tryz.func27,Tryz.ntmps27
 go_wp2_with fail
 refine(H1.out _ ((Ext.refl w).alloc _)).mono ?_
 rintro e w1 ⟨rfl,x1⟩
 have X1:=Lh x1
 have W1:=Lh (((Ext.refl w).alloc _).trans x1)
 have y1:=(ZaE x1 1).trans rfl
 have nb1:w.heap.size<w1.heap.size:=by have:=x1.size;simp at this;omega
 clear x1 y0
 by_cases e1:k1=0
 case neg =>
  have hb:(k1==0)=false:=by simpa using e1
  rw [decide_eq_false e1,Bool.false_and] at HZ
  clear e1
  go_wp2
  go_ret
  exact⟨by rw [HZ.out];rfl,W1.out⟩
 subst e1
 rw [show decide ((0:Int)=0)=true from rfl,Bool.true_and] at HZ
 go_wp2_with fail
 refine(H2.out _).mono ?_
 rintro e w2 ⟨rfl,x2⟩
 have X2:=Lh (X1.out.trans x2)
 have W2:=Lh (W1.out.trans x2)
 have y2:=(ZaE X2.out 2).trans rfl
 have y4:=(ZaE X2.out 4).trans rfl
 have nb2:w.heap.size<w2.heap.size:=by have:=x2.size;omega
 clear x2 y1
 cases k2
 case false =>
  rw [Bool.false_and] at HZ
  go_wp2
  go_ret
  exact⟨by rw [HZ.out];rfl,W2.out⟩
 rw [Bool.true_and] at HZ
 have nz:∀ {x:ByteArray},¬ x=⟨#[]⟩→(x.toList==[])=false:=fun {x} h=>by
  rw [beq_eq_false_iff_ne]
  exact fun e=>h (ZeR e)
 by_cases es:sup=⟨#[]⟩
 ·subst es
  rw [show decide ((⟨#[]⟩:ByteArray)=ByteArray.empty)=true from decide_eq_true rfl,Bool.true_or,Bool.true_and] at HZ
  clear nz
  go_wp2_with fail
  refine(H4.out _ W2.out).mono ?_
  rintro e w5 ⟨rfl,x5⟩
  have X5:=Lh (X2.out.trans x5)
  have W5:=Lh (W2.out.trans x5)
  have y5:=(ZaE X5.out 5).trans rfl
  have nb5:w.heap.size<w5.heap.size:=by have:=x5.size;omega
  clear x5 y4
  cases k4
  case false =>
   rw [Bool.false_and] at HZ
   go_wp2
   go_ret
   exact⟨by rw [HZ.out];rfl,W5.out⟩
  rw [Bool.true_and] at HZ
  go_wp2_with fail
  refine(H5.out _ W5.out).mono ?_
  rintro e w6 ⟨rfl,x6⟩
  have X6:=Lh (X5.out.trans x6)
  have W6:=Lh (W5.out.trans x6)
  have y6:=(ZaE X6.out 6).trans rfl
  have nb6:w.heap.size<w6.heap.size:=by have:=x6.size;omega
  clear x6 y5
  cases k5
  case false =>
   rw [Bool.false_and] at HZ
   go_wp2
   go_ret
   exact⟨by rw [HZ.out];rfl,W6.out⟩
  rw [Bool.true_and] at HZ
  go_wp2_with fail
  refine(H6.out _ w.heap.size W6.out (HB.out _ X6.out)).mono ?_
  rintro e w7 ⟨rfl,x7⟩
  go_wp2
  go_ret
  exact⟨by rw [HZ.out];rfl,W6.out.trans x7⟩
 ·have hb:=nz es
  rw [show decide (sup=ByteArray.empty)=false from decide_eq_false es,Bool.false_or] at HZ
  clear nz es
  go_wp2_with fail
  refine(H3.out _).mono ?_
  rintro e w4 ⟨rfl,x4⟩
  have X4:=Lh (X2.out.trans x4)
  have W4:=Lh (W2.out.trans x4)
  have y4:=(ZaE X4.out 4).trans rfl
  have nb4:w.heap.size<w4.heap.size:=by have:=x4.size;omega
  clear x4 y2 hb
  cases k3
  case false =>
   rw [Bool.false_and] at HZ
   go_wp2
   go_ret
   exact⟨by rw [HZ.out];rfl,W4.out⟩
  rw [Bool.true_and] at HZ
  go_wp2_with fail
  refine(H4.out _ W4.out).mono ?_
  rintro e w5 ⟨rfl,x5⟩
  have X5:=Lh (X4.out.trans x5)
  have W5:=Lh (W4.out.trans x5)
  have y5:=(ZaE X5.out 5).trans rfl
  have nb5:w.heap.size<w5.heap.size:=by have:=x5.size;omega
  clear x5 y4
  cases k4
  case false =>
   rw [Bool.false_and] at HZ
   go_wp2
   go_ret
   exact⟨by rw [HZ.out];rfl,W5.out⟩
  rw [Bool.true_and] at HZ
  go_wp2_with fail
  refine(H5.out _ W5.out).mono ?_
  rintro e w6 ⟨rfl,x6⟩
  have X6:=Lh (X5.out.trans x6)
  have W6:=Lh (W5.out.trans x6)
  have y6:=(ZaE X6.out 6).trans rfl
  have nb6:w.heap.size<w6.heap.size:=by have:=x6.size;omega
  clear x6 y5
  cases k5
  case false =>
   rw [Bool.false_and] at HZ
   go_wp2
   go_ret
   exact⟨by rw [HZ.out];rfl,W6.out⟩
  rw [Bool.true_and] at HZ
  go_wp2_with fail
  refine(H6.out _ w.heap.size W6.out (HB.out _ X6.out)).mono ?_
  rintro e w7 ⟨rfl,x7⟩
  go_wp2
  go_ret
  exact⟨by rw [HZ.out];rfl,W6.out.trans x7⟩
set_option maxRecDepth 100000 in
theorem Zcm (c:Cl) (vp vi vf vm:Value) (w:World) (h:ClAt w c vp vi vf vm) (hr:ClRoom c) (hT:Tabs w) (hM:Most w) :
 Calls Tryz.prog 9 #[.agg (c.vals vp vi vf vm)] w fun e w'=>e=.returned (.int .i64 (chkK c))∧Ext w w':=by
 have H:=Lh (fun W (e:Ext w W)=>Zgz c vp vi vf vm W (h.ext e) hr (hT.ext e) (hM.ext e))
 obtain⟨Ap,cp,rfl,-⟩:=h.1.cut
 obtain⟨Ai,ci,rfl,-⟩:=h.2.1.cut
 obtain⟨Af,cf,rfl,-⟩:=h.2.2.1.cut
 obtain⟨Am,cm,rfl,-⟩:=h.2.2.2.cut
 unfold chkK
 obtain⟨Z,hZ⟩:∃ Z,okCl c=Z:=⟨_,rfl⟩
 rw [hZ] at H ⊢
 unfold Cl.vals at H ⊢
 clear h hr hT hM hZ
 go_enter Tryz.func9,Tryz.ntmps9
 go_wp2_with fail
 refine(H.out _ ((Ext.refl w).alloc _)).mono ?_
 rintro e w1 ⟨rfl,x1⟩
 cases Z
 ·go_wp2
  go_ret
  exact⟨rfl,((Ext.refl w).alloc _).trans x1⟩
 ·go_wp2
  go_ret
  exact⟨rfl,((Ext.refl w).alloc _).trans x1⟩
end Go.Proofs.YtclamhhgldkhnaaGreatDoor
namespace Go.Proofs.YtclamhhgldkhnaaGreatDoor
open Go.RowKit Go.Lib
set_option linter.unusedVariables false
def BAns (B:Nat) (r:List Int × Int) (u:Value) (w':World):Prop:=∃ v,u=.tuple #[v,.int .i64 r.2]∧Own B w' 5 .u8 v r.1
theorem Zo7 (w:World):Row (w.alloc (.cells #[.int .u8 87,.int .u8 66,.int .u8 1] 5 (3,4))) .u8 (.slice (some ⟨w.heap.size,0,none⟩) 3 3) [87,66,1]:=by
 refine⟨_,3,rfl,Nat.le_refl _,by decide,fun h=>(by cases h),fun x hx=>?_,fun _=>⟨w.heap.size,0,rfl,by simp,fun j hj=>?_⟩⟩
 ·simp at hx
  rcases hx with rfl | rfl | rfl <;> decide
 ·rw [World.cell?_alloc_mark]
  have:j<3:=hj
  match j,this with
  | 0,_=>rfl
  | 1,_=>rfl
  | 2,_=>rfl
set_option maxRecDepth 100000 in
theorem ZdS (c:Cl) (vp vi vf vm:Value) (w:World) (h:ClAt w c vp vi vf vm) (hr:ClRoom c) (hg:Good c) (hT:Tabs w) (hM:Most w) (hZ:okCl c=true→(Zbd c.pool).length+6000000≤140737488355328) :
 Calls Tryz.prog 7 #[.agg (c.vals vp vi vf vm)] w (Ret w (BAns w.heap.size (Zc3 c))):=by
 have X0:=(Ext.refl w).alloc (.cells (c.vals vp vi vf vm) 27)
 have HC:=Lh (Zcm c vp vi vf vm _ (h.ext X0) hr (hT.ext X0) (hM.ext X0))
 have B0:=Lh (BK.new w (c.vals vp vi vf vm) 27)
 obtain⟨G,hG⟩:∃ G,Zc3 c=G:=⟨_,rfl⟩
 have HX0:=Lh X0
 rw [hG]
 obtain⟨Ap,cp,rfl,-⟩:=h.1.cut
 obtain⟨Ai,ci,rfl,-⟩:=h.2.1.cut
 obtain⟨Af,cf,rfl,-⟩:=h.2.2.1.cut
 obtain⟨Am,cm,rfl,-⟩:=h.2.2.2.cut
 obtain⟨np,hnp⟩:∃ n,c.pool.length=n:=⟨_,rfl⟩
 obtain⟨ni,hni⟩:∃ n,c.ifs.length=n:=⟨_,rfl⟩
 obtain⟨nf,hnf⟩:∃ n,c.fds.length=n:=⟨_,rfl⟩
 obtain⟨nM,hnm⟩:∃ n,c.mts.length=n:=⟨_,rfl⟩
 rw [hnp,hni,hnf,hnm] at HC HX0 B0 h ⊢
 have H:=Lh h
 have HT:=Lh hT
 by_cases hok:okCl c=true
 ·have hck:chkK c=0:=by unfold chkK;rw [if_pos hok]
  rw [hck] at HC
  have HG:=Lh (show G=if 65535<(clZ c).length then ([],5) else (clZ c,0) by rw [← hG];unfold Zc3;rw [if_pos hok])
  have hz:=hZ hok
  have hp0:=(Zao hok).1
  have HP:=Lh (fun W (e:Ext w W)=>Zot (.slice Ap np cp) c.pool W (Ze1 (h.1.ext e) (fun x hx=>(hr.pool x hx).1)) (hT.ext e) (fun x hx=>(hr.pool x hx).2) (fun _=>by omega))
  have HW:=Lh (fun W g (l:List Int) (hW:WR w W g l) (hl:l.length+5000000≤140737488355328)=>Zmu w W g l c _ _ _ _ hW h hok hg hr hl)
  have HZ:=Lh hz
  have HP0:=Lh hp0
  have HCZ:Hid ((([87,66,1]++Zbd c.pool)++tlZ c)=clZ c):=Lh rfl
  obtain⟨pz,hpz⟩:∃ l,Zbd c.pool=l:=⟨_,rfl⟩
  obtain⟨cz,hcz⟩:∃ l,clZ c=l:=⟨_,rfl⟩
  rw [hpz] at HZ HCZ
  rw [hcz] at HCZ HG
  have HPZ:=Lh hpz
  clear hG h hr hg hT hM hZ hok hck hz hp0 hnp hni hnf hnm hpz hcz X0
  unfold Cl.vals at HC B0 HX0 HW ⊢
  go_enter Tryz.func7,Tryz.ntmps7
  go_wp2_with fail
  refine HC.out.mono ?_
  rintro x w1 ⟨rfl,x1⟩
  have X1:=Lh (HX0.out.trans x1)
  have B1:=Lh (B0.out.ext x1)
  have y0:w1.cell? ⟨w.heap.size,0,none⟩=some (.slice Ap np cp):=B1.out.cell 0
  clear x1
  go_wp2_with fail
  refine(HP.out w1 X1.out).mono ?_
  rintro x w2 ⟨u,rfl,(⟨-,b,rfl,o2⟩ | ⟨hn,-⟩),x2⟩
  ·rw [HPZ.out] at o2
   have X2:=Lh (X1.out.trans x2)
   have B2:=Lh (B1.out.ext x2)
   obtain⟨Ab,nb,cb,rfl⟩:=o2.slice
   have O2:=Lh o2.row
   clear x2 o2 y0 HP
   have hcv:=run_convert_bytes_const (P:=Tryz.prog) w2 29 5 #[.int .u8 87,.int .u8 66,.int .u8 1] 3 3 Tryz.underlying29 Tryz.underlying5
   rw [show (#[Value.int .u8 87,.int .u8 66,.int .u8 1]:Array Value).size=3 from rfl] at hcv
   have B3:=Lh (BK.new (w2.alloc (.cells #[.int .u8 87,.int .u8 66,.int .u8 1] 5 (3,4))) #[.slice (some ⟨w2.heap.size,0,none⟩) 3 3,.slice Ab nb cb] 29)
   go_wp2_with fail
   have X3:Ext w2 ((w2.alloc (.cells #[.int .u8 87,.int .u8 66,.int .u8 1] 5 (3,4))).alloc (.cells #[.slice (some ⟨w2.heap.size,0,none⟩) 3 3,.slice Ab nb cb] 29)):=((Ext.refl w2).alloc _).alloc _
   have C4:=ZjP _ (w2.heap.size+1) _ _ [87,66,1] pz (by have:=B3.out;simpa [BK] using this) ((Zo7 w2).ext ((Ext.refl _).alloc _)) (O2.out.ext X3) (by simp) (by have:=HZ.out;simp;omega)
   refine C4.mono ?_
   rintro x w5 ⟨v5,rfl,o5,x5⟩
   have X5:=Lh ((X2.out.trans X3).trans x5)
   have B5:=Lh ((B2.out.ext X3).ext x5)
   have O5:=Lh (o5.base (B':=w.heap.size) (Nat.le_trans X2.out.size X3.size))
   obtain⟨A5,n5,c5,rfl⟩:=o5.slice
   obtain⟨z0,z1,z2,z3,z4,z5,z6⟩:=ZaC B5.out
   have lg:w.heap.size<w5.heap.size:=B5.out.lt
   have ng:¬ w.heap.size=w5.heap.size:=by omega
   clear hcv B3 X3 C4 o5 x5 O2
   go_wp2_with fail
   have HR6:WR w (w5.alloc (.cells #[.slice A5 n5 c5] 64)) w5.heap.size ([87,66,1]++pz):=⟨_,BK.new w5 _ _,O5.out.ext ((Ext.refl w5).alloc _),X5.out.alloc _,Nat.le_of_lt lg⟩
   have e3:([87,66,1]++pz:List Int).length+5000000≤140737488355328:=by
    have h3:=HZ.out
    have h4:([87,66,1]++pz:List Int).length=pz.length+3:=rfl
    rw [h4]
    omega
   refine(HW.out _ _ _ HR6 e3).mono ?_
   rintro x w6 ⟨rfl,⟨v6,b6,o6,x6,-⟩,-⟩
   rw [HCZ.out] at o6
   obtain⟨A6,c6,rfl,-⟩:=id o6.row
   have O6:=Lh o6
   have X6:=Lh x6
   obtain⟨m,hm⟩:∃ m,cz.length=m:=⟨_,rfl⟩
   rw [hm] at b6 O6 HG
   have d0:w6.cell? ⟨w5.heap.size,0,none⟩=some (.slice A6 m c6):=b6.cell 0
   clear z0 z1 z2 z3 z4 z5 z6 o6 x6 b6 HR6 hm e3
   by_cases hbig:65535<m
   ·have HE:=Lh (show G=([],5) by rw [HG.out,if_pos hbig])
    go_wp2
    refine bodyPost_ret (v:=.tuple #[.slice none 0 0,.int .i64 5]) (by simp [results,Tryz.results7,go_sem];try first | exact⟨rfl,rfl⟩ | rfl) rfl ?_
    rw [HE.out]
    exact Ret.mk ⟨_,rfl,Own.nil _ _ _ _⟩ X6.out
   ·have HE:=Lh (show G=(cz,0) by rw [HG.out,if_neg hbig])
    go_wp2
    refine bodyPost_ret (v:=.tuple #[.slice A6 m c6,.int .i64 0]) (by simp [results,Tryz.results7,go_sem];try first | exact⟨rfl,rfl⟩ | rfl) rfl ?_
    rw [HE.out]
    exact Ret.mk ⟨_,rfl,O6.out⟩ X6.out
  ·exact absurd HP0.out hn
 ·have hck:chkK c=80:=by unfold chkK;rw [if_neg hok]
  rw [hck] at HC
  have HE:=Lh (show G=([],80) by rw [← hG];unfold Zc3;rw [if_neg hok])
  clear hG h hr hg hT hM hZ hok hck hnp hni hnf hnm X0
  unfold Cl.vals at HC B0 HX0 ⊢
  go_enter Tryz.func7,Tryz.ntmps7
  go_wp2_with fail
  refine HC.out.mono ?_
  rintro x w1 ⟨rfl,x1⟩
  have X1:=Lh (HX0.out.trans x1)
  clear x1
  go_wp2
  refine bodyPost_ret (v:=.tuple #[.slice none 0 0,.int .i64 80]) (by simp [results,Tryz.results7,go_sem];try first | exact⟨rfl,rfl⟩ | rfl) rfl ?_
  rw [HE.out]
  exact Ret.mk ⟨_,rfl,Own.nil _ _ _ _⟩ X1.out
end Go.Proofs.YtclamhhgldkhnaaGreatDoor
