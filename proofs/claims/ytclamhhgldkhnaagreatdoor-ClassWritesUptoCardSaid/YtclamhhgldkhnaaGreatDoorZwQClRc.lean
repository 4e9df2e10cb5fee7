/- The document's method and Check of layer 8, walked. (gen_clrc.py) -/
import Derived.Test.YtclamhhgldkhnaaGreatDoorZwAH
import Derived.Test.YtclamhhgldkhnaaGreatDoorZwAF
import Derived.Test.YtclamhhgldkhnaaGreatDoorZwAL
import Derived.Test.YtclamhhgldkhnaaGreatDoorZwO
import Derived.Deep.RegionHeld3
namespace Go.Proofs.YtclamhhgldkhnaaGreatDoor
open Go.RowKit
set_option linter.unusedVariables false
set_option maxHeartbeats 16000000
theorem Znd {c:Cl} (h1:ZaD c.pool=0) (h2:nmB c.nm=true) (h3:c.sup=.empty∨nmB c.sup=true) (h4:c.ifs.length≤64) (h5:∀ x∈c.ifs,nmB x=true) (h6:c.fds.length≤256) (h7:∀ x∈c.fds,okFd x=true) (h8:c.mts.length≤256) (h9:∀ x∈c.mts,okMe c.pool x=true):okCl c=true:=by
 unfold okCl
 simp only [Bool.and_eq_true,Bool.or_eq_true,decide_eq_true_eq,List.all_eq_true]
 exact⟨h1,h2,h3,h4,h5,h6,h7,h8,h9⟩
theorem ZdM {α:Type} {l:List α} {k:Nat} {x:α} {t:List α} {P:α→Prop} (h:t=l.take k++[x]) (h1:∀ y∈l.take k,P y) (h2:P x):∀ y∈t,P y:=by
 subst h
 intro y hy
 rcases List.mem_append.1 hy with hy | hy
 ·exact h1 y hy
 ·rw [List.mem_singleton.1 hy];exact h2
theorem Ztq {x:ByteArray} (h:¬ x=⟨#[]⟩):(x.toList==[])=false:=by
 rw [beq_eq_false_iff_ne]
 exact fun e=>h (ZeR e)
set_option maxRecDepth 100000 in
theorem Zdn (m:Me) (va vc vh vp:Value) (pool:List Cst) (w:World) (hm:MeAt w m va vc vh) (hr:MeRoom m) (hp:ShC.Row w vp pool) :
 Calls Tryz.prog 31 #[.agg (m.vals va vc vh),vp] w fun e w'=>e=.returned (.bool (okMe pool m))∧Ext w w':=by
 have H1:=Lh (fun W=>Zb3 m.nm W hr.nm)
 have H2:=Lh (fun W (e:Ext w W)=>Zf0 m va W (hm.1.ext e) hr)
 have H3:=Lh (fun W (e:Ext w W)=>ZiU m va vc vh vp pool W (hm.ext e) (hp.ext e) (by have:=hr.code;omega))
 have q0:m.ab=true→okMe pool m=(nmB m.nm&&(decide (Zap m.pr=0)&&(!m.st&&(decide (m.sk=0)&&(decide (m.lo=0)&&(decide (m.code.length=0)&&decide (m.hs.length=0))))))):=fun h=>Zln h rfl rfl rfl rfl rfl pool
 have q1:m.ab=false→okMe pool m=(nmB m.nm&&(decide (Zap m.pr=0)&&decide ((Zcc m pool).2.2=0))):=fun h=>Zkv h pool
 obtain⟨Aa,ca,rfl,-⟩:=hm.1.cut
 obtain⟨Ac,cc,rfl,-⟩:=id hm.2.1
 obtain⟨Ah,ch,rfl,-⟩:=hm.2.2.cut
 obtain⟨Ap,cp,rfl,-⟩:=hp.cut
 obtain⟨R,hR⟩:∃ R,Zcc m pool=R:=⟨_,rfl⟩
 obtain⟨l,at',er⟩:=R
 obtain⟨Z,hZ⟩:∃ Z,okMe pool m=Z:=⟨_,rfl⟩
 obtain⟨a,ha⟩:∃ a,nmB m.nm=a:=⟨_,rfl⟩
 obtain⟨p,hpp⟩:∃ p,Zap m.pr=p:=⟨_,rfl⟩
 rw [hR] at H3 q1
 rw [ha] at H1
 rw [hpp] at H2
 rw [hZ,ha,hpp] at q0 q1
 rw [hZ]
 have Q0:=Lh q0
 have Q1:=Lh q1
 unfold Me.vals at H3 ⊢
 clear q0 q1 hm hr hp hR hZ ha hpp
 obtain⟨st,ab,nm,ret,args,sk,lo,code,hs⟩:=m
 simp only at H1 H2 H3 Q0 Q1 ⊢
 obtain⟨na,hna⟩:∃ n,args.length=n:=⟨_,rfl⟩
 obtain⟨nc,hnc⟩:∃ n,code.length=n:=⟨_,rfl⟩
 obtain⟨nh,hnh⟩:∃ n,hs.length=n:=⟨_,rfl⟩
 rw [hna,hnc,hnh] at H3 ⊢
 rw [hna] at H2
 rw [hnc,hnh] at Q0
 clear hna hnc hnh
 go_enter Tryz.func31,Tryz.ntmps31
 go_wp2_with fail
 refine(H1.out _).mono ?_
 rintro e w1 ⟨rfl,x1⟩
 have X1:=Lh x1
 have nb:w.heap.size<w1.heap.size:=by have:=x1.size;simp at this;omega
 have y3:=(ZaE x1 3).trans rfl
 have y4:=(ZaE x1 4).trans rfl
 have y5:=(ZaE x1 5).trans rfl
 have W1:=Lh (((Ext.refl w).alloc _).trans x1)
 clear x1
 cases a
 ·have HZ:=Lh (show Z=false by cases ab <;> first | (rw [Q0.out rfl];rfl) | (rw [Q1.out rfl];rfl))
  go_wp2
  go_ret
  exact⟨by rw [HZ.out];rfl,W1.out⟩
 ·go_wp2_with fail
  refine(H2.out _ W1.out).mono ?_
  rintro e w2 ⟨rfl,x2⟩
  have X2:=Lh (X1.out.trans x2)
  have nb2:w.heap.size<w2.heap.size:=by have:=x2.size;omega
  have W2:=Lh (W1.out.trans x2)
  clear x2 y3 y4 y5
  by_cases hp0:p=0
  ·subst hp0
   have y0:=(ZaE X2.out 0).trans rfl
   have y1:=(ZaE X2.out 1).trans rfl
   have y2:=(ZaE X2.out 2).trans rfl
   have y3:=(ZaE X2.out 3).trans rfl
   have y4:=(ZaE X2.out 4).trans rfl
   have y5:=(ZaE X2.out 5).trans rfl
   have y6:=(ZaE X2.out 6).trans rfl
   have y7:=(ZaE X2.out 7).trans rfl
   have y8:=(ZaE X2.out 8).trans rfl
   have y9:=(ZaE X2.out 9).trans rfl
   cases ab
   ·have HZ:=Lh (show Z=decide (er=0) by rw [Q1.out rfl];simp)
    go_wp2_with fail
    refine(H3.out _ W2.out).mono ?_
    rintro e w3 ⟨v3,rfl,⟨u3,rfl,-⟩,x3⟩
    have W3:=Lh (W2.out.trans x3)
    clear x3
    by_cases he:er=0
    ·subst he
     go_wp2
     go_ret
     exact⟨by rw [HZ.out];rfl,W3.out⟩
    ·have hb:(er==0)=false:=by simpa using he
     rw [decide_eq_false he] at HZ
     clear he
     go_wp2
     go_ret
     exact⟨by rw [HZ.out];rfl,W3.out⟩
   ·have HZ:=Lh (show Z=(!st&&(decide (sk=0)&&(decide (lo=0)&&(decide (nc=0)&&decide (nh=0))))) by rw [Q0.out rfl];simp)
    cases st
    ·by_cases h1:sk=0
     ·subst h1
      by_cases h2:lo=0
      ·subst h2
       by_cases h3:nc=0
       ·subst h3
        by_cases h4:nh=0
        ·subst h4
         go_wp2
         go_ret
         exact⟨by rw [HZ.out];rfl,W2.out⟩
        ·have hb:((nh:Int)==0)=false:=by simp;omega
         rw [decide_eq_false h4] at HZ
         clear h4
         go_wp2
         go_ret
         exact⟨by rw [HZ.out];rfl,W2.out⟩
       ·have hb:((nc:Int)==0)=false:=by simp;omega
        rw [decide_eq_false h3] at HZ
        clear h3
        go_wp2
        go_ret
        exact⟨by rw [HZ.out];simp,W2.out⟩
      ·have hb:(lo==0)=false:=by simpa using h2
       rw [decide_eq_false h2] at HZ
       clear h2
       go_wp2
       go_ret
       exact⟨by rw [HZ.out];simp,W2.out⟩
     ·have hb:(sk==0)=false:=by simpa using h1
      rw [decide_eq_false h1] at HZ
      clear h1
      go_wp2
      go_ret
      exact⟨by rw [HZ.out];simp,W2.out⟩
    ·go_wp2
     go_ret
     exact⟨by rw [HZ.out];rfl,W2.out⟩
  ·have hb:(p != 0)=true:=by simpa using hp0
   have HZ:=Lh (show Z=false by
    rw [decide_eq_false hp0] at Q0 Q1
    cases ab
    ·rw [Q1.out rfl];rfl
    ·rw [Q0.out rfl];rfl)
   clear hp0
   go_wp2
   go_ret
   exact⟨by rw [HZ.out];rfl,W2.out⟩
set_option maxRecDepth 100000 in
theorem ZcE (c:Cl) (vp vi vf vm:Value) (w:World) (h:ClAt w c vp vi vf vm) (hr:ClRoom c) (hT:Tabs w) (hR:Room c.pool) :
 Calls Tryz.prog 10 #[.agg (c.vals vp vi vf vm)] w fun e w'=>e=.returned (.int .i64 (chkK c))∧Ext w w':=by
 have H1:=Lh (fun W (e:Ext w W)=>ZcO vp c.pool W (Ze1 (h.1.ext e) fun x hx=>(hr.pool x hx).1) (hT.ext e) hR)
 have H2:=Lh (fun W=>Zb3 c.nm W hr.nm)
 have H3:=Lh (fun W=>Zb3 c.sup W hr.sup)
 have H4:=Lh (fun W x (hx:x∈c.ifs)=>Zb3 x W (hr.ifs x hx))
 have H5:=Lh (fun W (x:Fd) (hx:x∈c.fds)=>Zb3 x.nm W (hr.fds x hx).1)
 have H6:=Lh (fun W (x:Fd) (hx:x∈c.fds)=>ZgE x.ty W (hr.fds x hx).2)
 have HS:=Lh h.2.1
 have HF:=Lh h.2.2.1
 have HM:=Lh h.2.2.2
 have HP:=Lh h.1
 have HR:=Lh hr.mts
 obtain⟨Ap,Akp,rfl,-⟩:=h.1.cut
 obtain⟨Ai,Aki,rfl,ki1,km1,-⟩:=h.2.1.cut
 obtain⟨Af,Akf,rfl,ki2,km2,-⟩:=h.2.2.1.cut
 obtain⟨Am,Akm,rfl,ki3,km3,-⟩:=h.2.2.2.cut
 unfold maxLen at km1 km2 km3
 have BX:=Lh (fun W (e:Ext (w.alloc (.cells #[.slice Ap c.pool.length Akp,.string c.nm,.string c.sup,.bool c.inf,.slice Ai c.ifs.length Aki,.slice Af c.fds.length Akf,.slice Am c.mts.length Akm] 27)) W)=>(BK.new w #[.slice Ap c.pool.length Akp,.string c.nm,.string c.sup,.bool c.inf,.slice Ai c.ifs.length Aki,.slice Af c.fds.length Akf,.slice Am c.mts.length Akm] 27).ext e)
 have X0:=Lh ((Ext.refl w).alloc (.cells #[.slice Ap c.pool.length Akp,.string c.nm,.string c.sup,.bool c.inf,.slice Ai c.ifs.length Aki,.slice Af c.fds.length Akf,.slice Am c.mts.length Akm] 27))
 obtain⟨q0,q1,q2,q3,q4,q5,q6⟩:=ZaC (BX.out (w.alloc (.cells #[.slice Ap c.pool.length Akp,.string c.nm,.string c.sup,.bool c.inf,.slice Ai c.ifs.length Aki,.slice Af c.fds.length Akf,.slice Am c.mts.length Akm] 27)) (Ext.refl _))
 clear h hr hT hR
 unfold Cl.vals
 go_enter Tryz.func10,Tryz.ntmps10
 go_wp2_with fail
 refine(H1.out _ X0.out).mono ?_
 rintro e w1 ⟨rfl,x1⟩
 have E1:=Lh x1
 have X1:=Lh (X0.out.trans x1)
 clear q0 q1 q2 q3 q4 q5 q6
 obtain⟨q0,q1,q2,q3,q4,q5,q6⟩:=ZaC (BX.out w1 x1)
 clear x1
 obtain⟨k1,hk1⟩:∃ k,ZaD c.pool=k:=⟨_,rfl⟩
 have HK1:=Lh hk1
 rw [hk1]
 clear hk1
 by_cases e1:k1=0
 case neg =>
  have hb:(k1 != 0)=true:=by simpa using e1
  have e1':=Lh e1
  clear e1
  have HE:=Lh (show chkK c=80 from Za5 fun h=>by
   obtain⟨p1,p2,p3,p4,p5,p6,p7,p8,p9⟩:=Zao h
   exact e1'.out (HK1.out.symm.trans p1))
  go_wp2
  go_ret
  exact⟨by rw [HE.out];rfl,X1.out⟩
 subst e1
 go_wp2_with fail
 refine(H2.out _).mono ?_
 rintro e w2 ⟨rfl,x2⟩
 have E2:=Lh (E1.out.trans x2)
 have X2:=Lh (X1.out.trans x2)
 clear q0 q1 q2 q3 q4 q5 q6
 obtain⟨q0,q1,q2,q3,q4,q5,q6⟩:=ZaC (BX.out w2 E2.out)
 clear x2
 obtain⟨k2,hk2⟩:∃ k,nmB c.nm=k:=⟨_,rfl⟩
 have HK2:=Lh hk2
 rw [hk2]
 clear hk2
 cases k2
 case false =>
  have HE:=Lh (show chkK c=80 from Za5 fun h=>by
   obtain⟨p1,p2,p3,p4,p5,p6,p7,p8,p9⟩:=Zao h
   exact absurd (HK2.out.symm.trans p2) (by decide))
  go_wp2
  go_ret
  exact⟨by rw [HE.out];rfl,X2.out⟩
 by_cases es:c.sup=⟨#[]⟩
 ·have hb0:(c.sup.toList==[])=true:=by rw [es,show (⟨#[]⟩:ByteArray).toList=[] from Zdd []];rfl
  have hb1:=Zav hb0
  have ES:=Lh es
  clear es
  by_cases l1:c.ifs.length≤64
  case neg =>
   have hb:(64:Int)<c.ifs.length:=by omega
   have l1':=Lh l1
   clear l1
   have HE:=Lh (show chkK c=80 from Za5 fun h=>by
    obtain⟨p1,p2,p3,p4,p5,p6,p7,p8,p9⟩:=Zao h
    exact l1'.out p4)
   go_wp2
   go_ret
   exact⟨by rw [HE.out];rfl,X2.out⟩
  by_cases l2:c.fds.length≤256
  case neg =>
   have ha:¬ (64:Int)<c.ifs.length:=by omega
   have hb:(256:Int)<c.fds.length:=by omega
   have l2':=Lh l2
   clear l1 l2
   have HE:=Lh (show chkK c=80 from Za5 fun h=>by
    obtain⟨p1,p2,p3,p4,p5,p6,p7,p8,p9⟩:=Zao h
    exact l2'.out p6)
   go_wp2
   go_ret
   exact⟨by rw [HE.out];rfl,X2.out⟩
  by_cases l3:c.mts.length≤256
  case neg =>
   have ha:¬ (64:Int)<c.ifs.length:=by omega
   have ha2:¬ (256:Int)<c.fds.length:=by omega
   have hb:(256:Int)<c.mts.length:=by omega
   have l3':=Lh l3
   clear l1 l2 l3
   have HE:=Lh (show chkK c=80 from Za5 fun h=>by
    obtain⟨p1,p2,p3,p4,p5,p6,p7,p8,p9⟩:=Zao h
    exact l3'.out p8)
   go_wp2
   go_ret
   exact⟨by rw [HE.out];rfl,X2.out⟩
  have ha:¬ (64:Int)<c.ifs.length:=by omega
  have ha2:¬ (256:Int)<c.fds.length:=by omega
  have ha3:¬ (256:Int)<c.mts.length:=by omega
  have L1:=Lh l1
  have L2:=Lh l2
  have L3:=Lh l3
  clear l1 l2 l3
  go_wp2_with fail
  clear q0 q1 q2 q3 q4 q5 q6 ha ha2 ha3
  obtain⟨ni,hni⟩:∃ n,c.ifs.length=n:=⟨_,rfl⟩
  have Hni:=Lh hni
  clear hni
  go_loopw [3] (fun i wr=>∃ k:Nat,k≤ni∧i=.int .i64 k∧Hid (Ext w2 wr)∧Hid (∀ x∈c.ifs.take k,nmB x=true)) (fun i _=>ni-(intOf i).toNat)
  case atStart=>exact⟨0,by omega,rfl,Lh (Ext.refl _),Lh fun _ h=>by cases h⟩
  case round =>
   obtain⟨k,hk,rfl,HY,Ht⟩:=hrel
   rename World=>wr
   obtain⟨q0,q1,q2,q3,q4,q5,q6⟩:=ZaC (BX.out wr (E2.out.trans HY.out))
   by_cases hlt:k<ni
   ·have hkl:k<c.ifs.length:=by have:=Hni.out;omega
    have hlt2:(k:Int)<(c.ifs.length:Int):=by omega
    obtain⟨b1,o1,rfl,hx1⟩:=ZcT HS.out (by omega)
    have y0:=hx1 wr (X2.out.trans HY.out) k hkl
    have hN:=H4.out
    have HN:=Lh (fun W=>H4.out W _ (Zgd hkl))
    have ht1:=Lh (Zd5 hkl)
    have hmem:=Lh (Zgd hkl)
    obtain⟨s,hs⟩:∃ s,gs c.ifs k=s:=⟨_,rfl⟩
    rw [hs] at y0 HN ht1 hmem
    clear hx1 hs hN hkl
    go_wp2_with fail
    refine(HN.out _).mono ?_
    rintro e w5 ⟨rfl,x5⟩
    have HY5:=Lh (HY.out.trans x5)
    clear x5 y0 q0 q1 q2 q3 q4 q5 q6
    obtain⟨z,hz⟩:∃ k,nmB s=k:=⟨_,rfl⟩
    have HZ:=Lh hz
    rw [hz]
    clear hz
    cases z
    case false =>
     have HE:=Lh (show chkK c=80 from Za5 fun h=>by
      obtain⟨p1,p2,p3,p4,p5,p6,p7,p8,p9⟩:=Zao h
      exact absurd (HZ.out.symm.trans (p5 _ hmem.out)) (by decide))
     go_wp2
     go_ret
     exact⟨by rw [HE.out];rfl,X2.out.trans HY5.out⟩
    go_wp2_with fail
    go_roundw
    case rel=>exact⟨k+1,by omega,by go_num,HY5,Lh (ZdM ht1.out Ht.out HZ.out)⟩
    case measure=>simp [intOf];omega
   ·have hIA:=Lh (show ∀ x∈c.ifs,nmB x=true by have h1:=Ht.out;have e1:=Hni.out;rwa [List.take_of_length_le (by omega)] at h1)
    have hlt2:¬ (k:Int)<(c.ifs.length:Int):=by have e1:=Hni.out;omega
    have E4:=Lh (E2.out.trans HY.out)
    have X4:=Lh (X2.out.trans HY.out)
    clear hlt
    go_wp2_with fail
    clear q0 q1 q2 q3 q4 q5 q6 hlt2
    obtain⟨nf,hnf⟩:∃ n,c.fds.length=n:=⟨_,rfl⟩
    have Hnf:=Lh hnf
    clear hnf
    go_loopw [4] (fun i ws=>∃ k:Nat,k≤nf∧i=.int .i64 k∧Hid (Ext wr ws)∧Hid (∀ x∈c.fds.take k,okFd x=true)) (fun i _=>nf-(intOf i).toNat)
    case atStart=>exact⟨0,by omega,rfl,Lh (Ext.refl _),Lh fun _ h=>by cases h⟩
    case round =>
     obtain⟨j,hj,rfl,HZ,Hu⟩:=hrel
     rename World=>ws
     obtain⟨q0,q1,q2,q3,q4,q5,q6⟩:=ZaC (BX.out ws (E4.out.trans HZ.out))
     by_cases hlt:j<nf
     ·have hkl:j<c.fds.length:=by have:=Hnf.out;omega
      have hlt2:(j:Int)<(c.fds.length:Int):=by omega
      obtain⟨b1,o1,rfl,hx1⟩:=ZcL HF.out (by omega)
      obtain⟨y0,y1,y2,y3⟩:=hx1 ws (X4.out.trans HZ.out) j hkl
      have hx2:=fun wt (e:Ext ws wt)=>hx1 wt ((X4.out.trans HZ.out).trans e) j hkl
      have HN:=Lh (fun W=>H5.out W _ (Zex hkl))
      have HN2:=Lh (fun W=>H6.out W _ (Zex hkl))
      have ht1:=Lh (ZdW hkl)
      have hmem:=Lh (Zex hkl)
      obtain⟨s,hs⟩:∃ s,gf c.fds j=s:=⟨_,rfl⟩
      rw [hs] at y0 y1 y2 y3 HN HN2 ht1 hmem
      simp only [hs] at hx2
      have HX2:=Lh hx2
      clear hx1 hs hkl hx2
      go_wp2_with fail
      refine(HN.out _).mono ?_
      rintro e w5 ⟨rfl,x5⟩
      have HZ5:=Lh (HZ.out.trans x5)
      have z5:=Lh x5
      clear y0 y1 y2 y3 q0 q1 q2 q3 q4 q5 q6
      obtain⟨q0,q1,q2,q3,q4,q5,q6⟩:=ZaC (BX.out w5 (E4.out.trans HZ5.out))
      obtain⟨y0,y1,y2,y3⟩:=HX2.out w5 x5
      clear x5
      obtain⟨z,hz⟩:∃ k,nmB s.nm=k:=⟨_,rfl⟩
      have HZn:=Lh hz
      rw [hz]
      clear hz
      cases z
      case false =>
       have HE:=Lh (show chkK c=80 from Za5 fun h=>by
        obtain⟨p1,p2,p3,p4,p5,p6,p7,p8,p9⟩:=Zao h
        have:=p7 _ hmem.out;unfold okFd at this;rw [HZn.out] at this;exact absurd this (by simp))
       go_wp2
       go_ret
       exact⟨by rw [HE.out];rfl,X4.out.trans HZ5.out⟩
      go_wp2_with fail
      refine(HN2.out _).mono ?_
      rintro e w6 ⟨rfl,x6⟩
      have HZ6:=Lh (HZ5.out.trans x6)
      clear x6 y0 y1 y2 y3 q0 q1 q2 q3 q4 q5 q6
      obtain⟨z,hz⟩:∃ k,okT (tyD s.ty)=k:=⟨_,rfl⟩
      have HZt:=Lh hz
      have hb2:Zdp (tyD s.ty)=if okT (tyD s.ty)=true then 0 else 2:=rfl
      rw [hb2,hz]
      clear hz hb2
      cases z
      case false =>
       rw [if_neg (by decide)]
       have HE:=Lh (show chkK c=80 from Za5 fun h=>by
        obtain⟨p1,p2,p3,p4,p5,p6,p7,p8,p9⟩:=Zao h
        have:=p7 _ hmem.out;unfold okFd at this;rw [HZt.out] at this;exact absurd this (by simp))
       go_wp2
       go_ret
       exact⟨by rw [HE.out];rfl,X4.out.trans HZ6.out⟩
      rw [if_pos rfl]
      go_wp2_with fail
      go_roundw
      case rel=>exact⟨j+1,by omega,by go_num,HZ6,Lh (ZdM ht1.out Hu.out (by unfold okFd;rw [HZn.out,HZt.out];rfl))⟩
      case measure=>simp [intOf];omega
     ·have hFA:=Lh (show ∀ x∈c.fds,okFd x=true by have h1:=Hu.out;have e1:=Hnf.out;rwa [List.take_of_length_le (by omega)] at h1)
      have hlt2:¬ (j:Int)<(c.fds.length:Int):=by have e1:=Hnf.out;omega
      have E5:=Lh (E4.out.trans HZ.out)
      have X5:=Lh (X4.out.trans HZ.out)
      clear hlt
      go_wp2_with fail
      clear q0 q1 q2 q3 q4 q5 q6 hlt2
      obtain⟨nm,hnm⟩:∃ n,c.mts.length=n:=⟨_,rfl⟩
      have Hnm:=Lh hnm
      clear hnm
      go_loopw [5] (fun i wt=>∃ k:Nat,k≤nm∧i=.int .i64 k∧Hid (Ext ws wt)∧Hid (∀ x∈c.mts.take k,okMe c.pool x=true)) (fun i _=>nm-(intOf i).toNat)
      case atStart=>exact⟨0,by omega,rfl,Lh (Ext.refl _),Lh fun _ h=>by cases h⟩
      case round =>
       obtain⟨q,hq,rfl,HQ,Hv⟩:=hrel
       rename World=>wt
       obtain⟨q0,q1,q2,q3,q4,q5,q6⟩:=ZaC (BX.out wt (E5.out.trans HQ.out))
       by_cases hlt:q<nm
       ·have hkl:q<c.mts.length:=by have:=Hnm.out;omega
        have hlt2:(q:Int)<(c.mts.length:Int):=by omega
        obtain⟨b1,o1,rfl,hx1⟩:=HM.out.at (by omega)
        obtain⟨va,vc,vh,hx1⟩:=hx1 q hkl
        have hrm:=HR.out _ (Zc8 hkl)
        have ht1:=Lh (Zdm hkl)
        have hmem:=Lh (Zc8 hkl)
        obtain⟨x,hx⟩:∃ x,gm c.mts q=x:=⟨_,rfl⟩
        rw [hx] at hx1 hrm ht1 hmem
        have m1:=(hx1 _ (X5.out.trans HQ.out)).2
        obtain⟨Va,ca,rfl,-⟩:=(show ShT.Row wt va x.args from m1.1).cut
        obtain⟨Vc,cc,rfl,-⟩:=id (show Row wt .u8 vc x.code from m1.2.1)
        obtain⟨Vh,ch,rfl,-⟩:=(show ShH.Row wt vh x.hs from m1.2.2).cut
        have hF:∀ W,Ext wt W→W.cell? ⟨b1,o1+q*10,none⟩=some (.bool x.st)∧W.cell? ⟨b1,o1+q*10+1,none⟩=some (.bool x.ab)∧W.cell? ⟨b1,o1+q*10+2,none⟩=some (.string x.nm)∧W.cell? ⟨b1,o1+q*10+3,none⟩=some (.int .i64 x.ret.k)∧W.cell? ⟨b1,o1+q*10+4,none⟩=some (.string x.ret.s)∧W.cell? ⟨b1,o1+q*10+5,none⟩=some (.slice Va x.args.length ca)∧W.cell? ⟨b1,o1+q*10+6,none⟩=some (.int .i64 x.sk)∧W.cell? ⟨b1,o1+q*10+7,none⟩=some (.int .i64 x.lo)∧W.cell? ⟨b1,o1+q*10+8,none⟩=some (.slice Vc x.code.length cc)∧W.cell? ⟨b1,o1+q*10+9,none⟩=some (.slice Vh x.hs.length ch)∧W.cell? ⟨w.heap.size,6,none⟩=some (.slice (some ⟨b1,o1,none⟩) c.mts.length Akm)∧W.cell? ⟨w.heap.size,0,none⟩=some (.slice Ap c.pool.length Akp):=fun W e=>by
         obtain⟨⟨y0,y1,y2,y3,y4,y5,y6,y7,y8,y9⟩,-⟩:=hx1 W ((X5.out.trans HQ.out).trans e)
         have a6:=(BX.out _ ((E5.out.trans HQ.out).trans e)).cell 6
         have a0:=(BX.out _ ((E5.out.trans HQ.out).trans e)).cell 0
         simp at a6 a0
         exact⟨y0,y1,y2,y3,y4,y5,y6,y7,y8,y9,a6,a0⟩
        have e1:=(Ext.refl wt).drew
        have f0:=hF _ e1
        have HFF:=Lh hF
        have HO:=Lh (fun W (e:Ext wt W)=>Zdn x _ _ _ _ c.pool W (m1.ext e) hrm (HP.out.ext ((X5.out.trans HQ.out).trans e)))
        unfold Me.vals at HO
        obtain⟨z,hz⟩:∃ k,okMe c.pool x=k:=⟨_,rfl⟩
        have HZm:=Lh hz
        rw [hz] at HO
        clear hx1 hx hrm m1 hkl hz hF
        go_wp2_with fail
        go_region_held3 (fun w'=>w'.cell? ⟨b1,o1+q*10,none⟩=some (.bool x.st)∧w'.cell? ⟨b1,o1+q*10+1,none⟩=some (.bool x.ab)∧w'.cell? ⟨b1,o1+q*10+2,none⟩=some (.string x.nm)∧w'.cell? ⟨b1,o1+q*10+3,none⟩=some (.int .i64 x.ret.k)∧w'.cell? ⟨b1,o1+q*10+4,none⟩=some (.string x.ret.s)∧w'.cell? ⟨b1,o1+q*10+5,none⟩=some (.slice Va x.args.length ca)∧w'.cell? ⟨b1,o1+q*10+6,none⟩=some (.int .i64 x.sk)∧w'.cell? ⟨b1,o1+q*10+7,none⟩=some (.int .i64 x.lo)∧w'.cell? ⟨b1,o1+q*10+8,none⟩=some (.slice Vc x.code.length cc)∧w'.cell? ⟨b1,o1+q*10+9,none⟩=some (.slice Vh x.hs.length ch)∧w'.cell? ⟨w.heap.size,6,none⟩=some (.slice (some ⟨b1,o1,none⟩) c.mts.length Akm)∧w'.cell? ⟨w.heap.size,0,none⟩=some (.slice Ap c.pool.length Akp)) (first | with_reducible assumption) (first
         | (go_at_call 31;(with_reducible refine(HO.out _ e1).mono ?_);rintro e w5 ⟨rfl,x5⟩;have f1:=HFF.out w5 (e1.trans x5)))
        have HQ5:=Lh (HQ.out.trans (e1.trans x5))
        clear x5 e1 f0 f1 q0 q1 q2 q3 q4 q5 q6
        cases z
        case false =>
         have HE:=Lh (show chkK c=80 from Za5 fun h=>by
          obtain⟨p1,p2,p3,p4,p5,p6,p7,p8,p9⟩:=Zao h
          exact absurd (HZm.out.symm.trans (p9 _ hmem.out)) (by decide))
         go_wp2
         go_ret
         exact⟨by rw [HE.out];rfl,X5.out.trans HQ5.out⟩
        go_wp2_with fail
        go_roundw
        case rel=>exact⟨q+1,by omega,by go_num,HQ5,Lh (ZdM ht1.out Hv.out HZm.out)⟩
        case measure=>simp [intOf];omega
       ·have hMA:=Lh (show ∀ x∈c.mts,okMe c.pool x=true by have h1:=Hv.out;have e1:=Hnm.out;rwa [List.take_of_length_le (by omega)] at h1)
        have hlt2:¬ (q:Int)<(c.mts.length:Int):=by have e1:=Hnm.out;omega
        have HE:=Lh (show chkK c=0 from Znn (Znd HK1.out HK2.out (.inl ES.out) L1.out hIA.out L2.out hFA.out L3.out hMA.out))
        clear hlt
        go_wp2
        go_ret
        exact⟨by rw [HE.out];rfl,X5.out.trans HQ.out⟩
 ·have hb0:=Ztq es
  have hb1:=ZdQ hb0
  have ES:=Lh es
  clear es
  go_wp2_with fail
  refine(H3.out _).mono ?_
  rintro e w3 ⟨rfl,x3⟩
  have E3:=Lh (E2.out.trans x3)
  have X3:=Lh (X2.out.trans x3)
  clear q0 q1 q2 q3 q4 q5 q6 hb0 hb1
  obtain⟨q0,q1,q2,q3,q4,q5,q6⟩:=ZaC (BX.out w3 E3.out)
  clear x3
  obtain⟨k3,hk3⟩:∃ k,nmB c.sup=k:=⟨_,rfl⟩
  have HK3:=Lh hk3
  rw [hk3]
  clear hk3
  cases k3
  case false =>
   have HE:=Lh (show chkK c=80 from Za5 fun h=>by
    obtain⟨p1,p2,p3,p4,p5,p6,p7,p8,p9⟩:=Zao h
    rcases p3 with p3 | p3;exact ES.out p3;exact absurd (HK3.out.symm.trans p3) (by decide))
   go_wp2
   go_ret
   exact⟨by rw [HE.out];rfl,X3.out⟩
  by_cases l1:c.ifs.length≤64
  case neg =>
   have hb:(64:Int)<c.ifs.length:=by omega
   have l1':=Lh l1
   clear l1
   have HE:=Lh (show chkK c=80 from Za5 fun h=>by
    obtain⟨p1,p2,p3,p4,p5,p6,p7,p8,p9⟩:=Zao h
    exact l1'.out p4)
   go_wp2
   go_ret
   exact⟨by rw [HE.out];rfl,X3.out⟩
  by_cases l2:c.fds.length≤256
  case neg =>
   have ha:¬ (64:Int)<c.ifs.length:=by omega
   have hb:(256:Int)<c.fds.length:=by omega
   have l2':=Lh l2
   clear l1 l2
   have HE:=Lh (show chkK c=80 from Za5 fun h=>by
    obtain⟨p1,p2,p3,p4,p5,p6,p7,p8,p9⟩:=Zao h
    exact l2'.out p6)
   go_wp2
   go_ret
   exact⟨by rw [HE.out];rfl,X3.out⟩
  by_cases l3:c.mts.length≤256
  case neg =>
   have ha:¬ (64:Int)<c.ifs.length:=by omega
   have ha2:¬ (256:Int)<c.fds.length:=by omega
   have hb:(256:Int)<c.mts.length:=by omega
   have l3':=Lh l3
   clear l1 l2 l3
   have HE:=Lh (show chkK c=80 from Za5 fun h=>by
    obtain⟨p1,p2,p3,p4,p5,p6,p7,p8,p9⟩:=Zao h
    exact l3'.out p8)
   go_wp2
   go_ret
   exact⟨by rw [HE.out];rfl,X3.out⟩
  have ha:¬ (64:Int)<c.ifs.length:=by omega
  have ha2:¬ (256:Int)<c.fds.length:=by omega
  have ha3:¬ (256:Int)<c.mts.length:=by omega
  have L1:=Lh l1
  have L2:=Lh l2
  have L3:=Lh l3
  clear l1 l2 l3
  go_wp2_with fail
  clear q0 q1 q2 q3 q4 q5 q6 ha ha2 ha3
  obtain⟨ni,hni⟩:∃ n,c.ifs.length=n:=⟨_,rfl⟩
  have Hni:=Lh hni
  clear hni
  go_loopw [3] (fun i wr=>∃ k:Nat,k≤ni∧i=.int .i64 k∧Hid (Ext w3 wr)∧Hid (∀ x∈c.ifs.take k,nmB x=true)) (fun i _=>ni-(intOf i).toNat)
  case atStart=>exact⟨0,by omega,rfl,Lh (Ext.refl _),Lh fun _ h=>by cases h⟩
  case round =>
   obtain⟨k,hk,rfl,HY,Ht⟩:=hrel
   rename World=>wr
   obtain⟨q0,q1,q2,q3,q4,q5,q6⟩:=ZaC (BX.out wr (E3.out.trans HY.out))
   by_cases hlt:k<ni
   ·have hkl:k<c.ifs.length:=by have:=Hni.out;omega
    have hlt2:(k:Int)<(c.ifs.length:Int):=by omega
    obtain⟨b1,o1,rfl,hx1⟩:=ZcT HS.out (by omega)
    have y0:=hx1 wr (X3.out.trans HY.out) k hkl
    have hN:=H4.out
    have HN:=Lh (fun W=>H4.out W _ (Zgd hkl))
    have ht1:=Lh (Zd5 hkl)
    have hmem:=Lh (Zgd hkl)
    obtain⟨s,hs⟩:∃ s,gs c.ifs k=s:=⟨_,rfl⟩
    rw [hs] at y0 HN ht1 hmem
    clear hx1 hs hN hkl
    go_wp2_with fail
    refine(HN.out _).mono ?_
    rintro e w5 ⟨rfl,x5⟩
    have HY5:=Lh (HY.out.trans x5)
    clear x5 y0 q0 q1 q2 q3 q4 q5 q6
    obtain⟨z,hz⟩:∃ k,nmB s=k:=⟨_,rfl⟩
    have HZ:=Lh hz
    rw [hz]
    clear hz
    cases z
    case false =>
     have HE:=Lh (show chkK c=80 from Za5 fun h=>by
      obtain⟨p1,p2,p3,p4,p5,p6,p7,p8,p9⟩:=Zao h
      exact absurd (HZ.out.symm.trans (p5 _ hmem.out)) (by decide))
     go_wp2
     go_ret
     exact⟨by rw [HE.out];rfl,X3.out.trans HY5.out⟩
    go_wp2_with fail
    go_roundw
    case rel=>exact⟨k+1,by omega,by go_num,HY5,Lh (ZdM ht1.out Ht.out HZ.out)⟩
    case measure=>simp [intOf];omega
   ·have hIA:=Lh (show ∀ x∈c.ifs,nmB x=true by have h1:=Ht.out;have e1:=Hni.out;rwa [List.take_of_length_le (by omega)] at h1)
    have hlt2:¬ (k:Int)<(c.ifs.length:Int):=by have e1:=Hni.out;omega
    have E4:=Lh (E3.out.trans HY.out)
    have X4:=Lh (X3.out.trans HY.out)
    clear hlt
    go_wp2_with fail
    clear q0 q1 q2 q3 q4 q5 q6 hlt2
    obtain⟨nf,hnf⟩:∃ n,c.fds.length=n:=⟨_,rfl⟩
    have Hnf:=Lh hnf
    clear hnf
    go_loopw [4] (fun i ws=>∃ k:Nat,k≤nf∧i=.int .i64 k∧Hid (Ext wr ws)∧Hid (∀ x∈c.fds.take k,okFd x=true)) (fun i _=>nf-(intOf i).toNat)
    case atStart=>exact⟨0,by omega,rfl,Lh (Ext.refl _),Lh fun _ h=>by cases h⟩
    case round =>
     obtain⟨j,hj,rfl,HZ,Hu⟩:=hrel
     rename World=>ws
     obtain⟨q0,q1,q2,q3,q4,q5,q6⟩:=ZaC (BX.out ws (E4.out.trans HZ.out))
     by_cases hlt:j<nf
     ·have hkl:j<c.fds.length:=by have:=Hnf.out;omega
      have hlt2:(j:Int)<(c.fds.length:Int):=by omega
      obtain⟨b1,o1,rfl,hx1⟩:=ZcL HF.out (by omega)
      obtain⟨y0,y1,y2,y3⟩:=hx1 ws (X4.out.trans HZ.out) j hkl
      have hx2:=fun wt (e:Ext ws wt)=>hx1 wt ((X4.out.trans HZ.out).trans e) j hkl
      have HN:=Lh (fun W=>H5.out W _ (Zex hkl))
      have HN2:=Lh (fun W=>H6.out W _ (Zex hkl))
      have ht1:=Lh (ZdW hkl)
      have hmem:=Lh (Zex hkl)
      obtain⟨s,hs⟩:∃ s,gf c.fds j=s:=⟨_,rfl⟩
      rw [hs] at y0 y1 y2 y3 HN HN2 ht1 hmem
      simp only [hs] at hx2
      have HX2:=Lh hx2
      clear hx1 hs hkl hx2
      go_wp2_with fail
      refine(HN.out _).mono ?_
      rintro e w5 ⟨rfl,x5⟩
      have HZ5:=Lh (HZ.out.trans x5)
      have z5:=Lh x5
      clear y0 y1 y2 y3 q0 q1 q2 q3 q4 q5 q6
      obtain⟨q0,q1,q2,q3,q4,q5,q6⟩:=ZaC (BX.out w5 (E4.out.trans HZ5.out))
      obtain⟨y0,y1,y2,y3⟩:=HX2.out w5 x5
      clear x5
      obtain⟨z,hz⟩:∃ k,nmB s.nm=k:=⟨_,rfl⟩
      have HZn:=Lh hz
      rw [hz]
      clear hz
      cases z
      case false =>
       have HE:=Lh (show chkK c=80 from Za5 fun h=>by
        obtain⟨p1,p2,p3,p4,p5,p6,p7,p8,p9⟩:=Zao h
        have:=p7 _ hmem.out;unfold okFd at this;rw [HZn.out] at this;exact absurd this (by simp))
       go_wp2
       go_ret
       exact⟨by rw [HE.out];rfl,X4.out.trans HZ5.out⟩
      go_wp2_with fail
      refine(HN2.out _).mono ?_
      rintro e w6 ⟨rfl,x6⟩
      have HZ6:=Lh (HZ5.out.trans x6)
      clear x6 y0 y1 y2 y3 q0 q1 q2 q3 q4 q5 q6
      obtain⟨z,hz⟩:∃ k,okT (tyD s.ty)=k:=⟨_,rfl⟩
      have HZt:=Lh hz
      have hb2:Zdp (tyD s.ty)=if okT (tyD s.ty)=true then 0 else 2:=rfl
      rw [hb2,hz]
      clear hz hb2
      cases z
      case false =>
       rw [if_neg (by decide)]
       have HE:=Lh (show chkK c=80 from Za5 fun h=>by
        obtain⟨p1,p2,p3,p4,p5,p6,p7,p8,p9⟩:=Zao h
        have:=p7 _ hmem.out;unfold okFd at this;rw [HZt.out] at this;exact absurd this (by simp))
       go_wp2
       go_ret
       exact⟨by rw [HE.out];rfl,X4.out.trans HZ6.out⟩
      rw [if_pos rfl]
      go_wp2_with fail
      go_roundw
      case rel=>exact⟨j+1,by omega,by go_num,HZ6,Lh (ZdM ht1.out Hu.out (by unfold okFd;rw [HZn.out,HZt.out];rfl))⟩
      case measure=>simp [intOf];omega
     ·have hFA:=Lh (show ∀ x∈c.fds,okFd x=true by have h1:=Hu.out;have e1:=Hnf.out;rwa [List.take_of_length_le (by omega)] at h1)
      have hlt2:¬ (j:Int)<(c.fds.length:Int):=by have e1:=Hnf.out;omega
      have E5:=Lh (E4.out.trans HZ.out)
      have X5:=Lh (X4.out.trans HZ.out)
      clear hlt
      go_wp2_with fail
      clear q0 q1 q2 q3 q4 q5 q6 hlt2
      obtain⟨nm,hnm⟩:∃ n,c.mts.length=n:=⟨_,rfl⟩
      have Hnm:=Lh hnm
      clear hnm
      go_loopw [5] (fun i wt=>∃ k:Nat,k≤nm∧i=.int .i64 k∧Hid (Ext ws wt)∧Hid (∀ x∈c.mts.take k,okMe c.pool x=true)) (fun i _=>nm-(intOf i).toNat)
      case atStart=>exact⟨0,by omega,rfl,Lh (Ext.refl _),Lh fun _ h=>by cases h⟩
      case round =>
       obtain⟨q,hq,rfl,HQ,Hv⟩:=hrel
       rename World=>wt
       obtain⟨q0,q1,q2,q3,q4,q5,q6⟩:=ZaC (BX.out wt (E5.out.trans HQ.out))
       by_cases hlt:q<nm
       ·have hkl:q<c.mts.length:=by have:=Hnm.out;omega
        have hlt2:(q:Int)<(c.mts.length:Int):=by omega
        obtain⟨b1,o1,rfl,hx1⟩:=HM.out.at (by omega)
        obtain⟨va,vc,vh,hx1⟩:=hx1 q hkl
        have hrm:=HR.out _ (Zc8 hkl)
        have ht1:=Lh (Zdm hkl)
        have hmem:=Lh (Zc8 hkl)
        obtain⟨x,hx⟩:∃ x,gm c.mts q=x:=⟨_,rfl⟩
        rw [hx] at hx1 hrm ht1 hmem
        have m1:=(hx1 _ (X5.out.trans HQ.out)).2
        obtain⟨Va,ca,rfl,-⟩:=(show ShT.Row wt va x.args from m1.1).cut
        obtain⟨Vc,cc,rfl,-⟩:=id (show Row wt .u8 vc x.code from m1.2.1)
        obtain⟨Vh,ch,rfl,-⟩:=(show ShH.Row wt vh x.hs from m1.2.2).cut
        have hF:∀ W,Ext wt W→W.cell? ⟨b1,o1+q*10,none⟩=some (.bool x.st)∧W.cell? ⟨b1,o1+q*10+1,none⟩=some (.bool x.ab)∧W.cell? ⟨b1,o1+q*10+2,none⟩=some (.string x.nm)∧W.cell? ⟨b1,o1+q*10+3,none⟩=some (.int .i64 x.ret.k)∧W.cell? ⟨b1,o1+q*10+4,none⟩=some (.string x.ret.s)∧W.cell? ⟨b1,o1+q*10+5,none⟩=some (.slice Va x.args.length ca)∧W.cell? ⟨b1,o1+q*10+6,none⟩=some (.int .i64 x.sk)∧W.cell? ⟨b1,o1+q*10+7,none⟩=some (.int .i64 x.lo)∧W.cell? ⟨b1,o1+q*10+8,none⟩=some (.slice Vc x.code.length cc)∧W.cell? ⟨b1,o1+q*10+9,none⟩=some (.slice Vh x.hs.length ch)∧W.cell? ⟨w.heap.size,6,none⟩=some (.slice (some ⟨b1,o1,none⟩) c.mts.length Akm)∧W.cell? ⟨w.heap.size,0,none⟩=some (.slice Ap c.pool.length Akp):=fun W e=>by
         obtain⟨⟨y0,y1,y2,y3,y4,y5,y6,y7,y8,y9⟩,-⟩:=hx1 W ((X5.out.trans HQ.out).trans e)
         have a6:=(BX.out _ ((E5.out.trans HQ.out).trans e)).cell 6
         have a0:=(BX.out _ ((E5.out.trans HQ.out).trans e)).cell 0
         simp at a6 a0
         exact⟨y0,y1,y2,y3,y4,y5,y6,y7,y8,y9,a6,a0⟩
        have e1:=(Ext.refl wt).drew
        have f0:=hF _ e1
        have HFF:=Lh hF
        have HO:=Lh (fun W (e:Ext wt W)=>Zdn x _ _ _ _ c.pool W (m1.ext e) hrm (HP.out.ext ((X5.out.trans HQ.out).trans e)))
        unfold Me.vals at HO
        obtain⟨z,hz⟩:∃ k,okMe c.pool x=k:=⟨_,rfl⟩
        have HZm:=Lh hz
        rw [hz] at HO
        clear hx1 hx hrm m1 hkl hz hF
        go_wp2_with fail
        go_region_held3 (fun w'=>w'.cell? ⟨b1,o1+q*10,none⟩=some (.bool x.st)∧w'.cell? ⟨b1,o1+q*10+1,none⟩=some (.bool x.ab)∧w'.cell? ⟨b1,o1+q*10+2,none⟩=some (.string x.nm)∧w'.cell? ⟨b1,o1+q*10+3,none⟩=some (.int .i64 x.ret.k)∧w'.cell? ⟨b1,o1+q*10+4,none⟩=some (.string x.ret.s)∧w'.cell? ⟨b1,o1+q*10+5,none⟩=some (.slice Va x.args.length ca)∧w'.cell? ⟨b1,o1+q*10+6,none⟩=some (.int .i64 x.sk)∧w'.cell? ⟨b1,o1+q*10+7,none⟩=some (.int .i64 x.lo)∧w'.cell? ⟨b1,o1+q*10+8,none⟩=some (.slice Vc x.code.length cc)∧w'.cell? ⟨b1,o1+q*10+9,none⟩=some (.slice Vh x.hs.length ch)∧w'.cell? ⟨w.heap.size,6,none⟩=some (.slice (some ⟨b1,o1,none⟩) c.mts.length Akm)∧w'.cell? ⟨w.heap.size,0,none⟩=some (.slice Ap c.pool.length Akp)) (first | with_reducible assumption) (first
         | (go_at_call 31;(with_reducible refine(HO.out _ e1).mono ?_);rintro e w5 ⟨rfl,x5⟩;have f1:=HFF.out w5 (e1.trans x5)))
        have HQ5:=Lh (HQ.out.trans (e1.trans x5))
        clear x5 e1 f0 f1 q0 q1 q2 q3 q4 q5 q6
        cases z
        case false =>
         have HE:=Lh (show chkK c=80 from Za5 fun h=>by
          obtain⟨p1,p2,p3,p4,p5,p6,p7,p8,p9⟩:=Zao h
          exact absurd (HZm.out.symm.trans (p9 _ hmem.out)) (by decide))
         go_wp2
         go_ret
         exact⟨by rw [HE.out];rfl,X5.out.trans HQ5.out⟩
        go_wp2_with fail
        go_roundw
        case rel=>exact⟨q+1,by omega,by go_num,HQ5,Lh (ZdM ht1.out Hv.out HZm.out)⟩
        case measure=>simp [intOf];omega
       ·have hMA:=Lh (show ∀ x∈c.mts,okMe c.pool x=true by have h1:=Hv.out;have e1:=Hnm.out;rwa [List.take_of_length_le (by omega)] at h1)
        have hlt2:¬ (q:Int)<(c.mts.length:Int):=by have e1:=Hnm.out;omega
        have HE:=Lh (show chkK c=0 from Znn (Znd HK1.out HK2.out (.inr HK3.out) L1.out hIA.out L2.out hFA.out L3.out hMA.out))
        clear hlt
        go_wp2
        go_ret
        exact⟨by rw [HE.out];rfl,X5.out.trans HQ.out⟩
end Go.Proofs.YtclamhhgldkhnaaGreatDoor
