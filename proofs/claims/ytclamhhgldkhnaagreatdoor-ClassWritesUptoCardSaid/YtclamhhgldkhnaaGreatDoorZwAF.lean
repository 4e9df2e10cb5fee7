/- Several texts of this proof, one behind the other. -/
import Derived.Test.YtclamhhgldkhnaaGreatDoorZwAE
import Derived.Deep.RegionHeld3
import Derived.Test.YtclamhhgldkhnaaGreatDoorZwAD
import Derived.Lib.AppendStr
namespace Go.Proofs.YtclamhhgldkhnaaGreatDoor
open Go.RowKit
set_option linter.unusedVariables false
set_option maxHeartbeats 16000000
set_option maxRecDepth 100000 in
theorem ZbK (c d:Cl) (vp vi vf vm vp' vi' vf' vm':Value) (w:World) (hc:ClAt w c vp vi vf vm) (hd:ClAt w d vp' vi' vf' vm') (rc:ClRoom c) (rd:ClRoom d) :
 Calls Tryz.prog 13 #[.agg (c.vals vp vi vf vm),.agg (d.vals vp' vi' vf' vm')] w fun e w'=>e=.returned (.bool (decide (c=d)))∧Ext w w':=by
 have H4:=Lh (fun W (e:Ext w W)=>(ZiC vp vp' c.pool d.pool W (Ze1 (hc.1.ext e) fun x h=>(rc.pool x h).1) (Ze1 (hd.1.ext e) fun x h=>(rd.pool x h).1)).mono (R':=fun e w'=>e=.returned (.bool (decide (c.pool=d.pool)))∧Ext W w') (by
  rintro e w' ⟨rfl,m,rfl⟩
  refine⟨?_,(Ext.refl W).drewN m⟩
  by_cases h:c.pool=d.pool
  ·rw [Zoa h,decide_eq_true h]
  ·rw [ZmE h,decide_eq_false h]))
 have HS:=Lh hc.2.1
 have HS2:=Lh hd.2.1
 have HF:=Lh hc.2.2.1
 have HF2:=Lh hd.2.2.1
 have HM:=Lh hc.2.2.2
 have HM2:=Lh hd.2.2.2
 have R1:=Lh rc.mts
 have R2:=Lh rd.mts
 obtain⟨Ap,cp,rfl,-⟩:=hc.1.cut
 obtain⟨Ai,ci,rfl,kc1,km1,-⟩:=hc.2.1.cut
 obtain⟨Af,cf,rfl,kc2,km2,-⟩:=hc.2.2.1.cut
 obtain⟨Am,cm,rfl,kc3,km3,-⟩:=hc.2.2.2.cut
 obtain⟨Bp,dp,rfl,-⟩:=hd.1.cut
 obtain⟨Bi,di,rfl,-⟩:=hd.2.1.cut
 obtain⟨Bf,df,rfl,-⟩:=hd.2.2.1.cut
 obtain⟨Bm,dm,rfl,-⟩:=hd.2.2.2.cut
 unfold maxLen at km1 km2 km3
 have X0:Hid (∀ o p:Obj,Ext w ((w.alloc o).alloc p)):=Lh (fun o p=>((Ext.refl w).alloc o).alloc p)
 have BX:=Lh (fun W (e:Ext ((w.alloc (.cells (c.vals (.slice Ap c.pool.length cp) (.slice Ai c.ifs.length ci) (.slice Af c.fds.length cf) (.slice Am c.mts.length cm)) 27)).alloc (.cells (d.vals (.slice Bp d.pool.length dp) (.slice Bi d.ifs.length di) (.slice Bf d.fds.length df) (.slice Bm d.mts.length dm)) 27)) W)=>((BK.new w (c.vals (.slice Ap c.pool.length cp) (.slice Ai c.ifs.length ci) (.slice Af c.fds.length cf) (.slice Am c.mts.length cm)) 27).ext ((Ext.refl _).alloc (.cells (d.vals (.slice Bp d.pool.length dp) (.slice Bi d.ifs.length di) (.slice Bf d.fds.length df) (.slice Bm d.mts.length dm)) 27))).ext e)
 have BY:=Lh (fun W (e:Ext ((w.alloc (.cells (c.vals (.slice Ap c.pool.length cp) (.slice Ai c.ifs.length ci) (.slice Af c.fds.length cf) (.slice Am c.mts.length cm)) 27)).alloc (.cells (d.vals (.slice Bp d.pool.length dp) (.slice Bi d.ifs.length di) (.slice Bf d.fds.length df) (.slice Bm d.mts.length dm)) 27)) W)=>(show BK _ (w.heap.size+1) (d.vals (.slice Bp d.pool.length dp) (.slice Bi d.ifs.length di) (.slice Bf d.fds.length df) (.slice Bm d.mts.length dm)) 27 from by have:=BK.new (w.alloc (.cells (c.vals (.slice Ap c.pool.length cp) (.slice Ai c.ifs.length ci) (.slice Af c.fds.length cf) (.slice Am c.mts.length cm)) 27)) (d.vals (.slice Bp d.pool.length dp) (.slice Bi d.ifs.length di) (.slice Bf d.fds.length df) (.slice Bm d.mts.length dm)) 27;simpa [BK] using this).ext e)
 clear hc hd rc rd
 unfold Cl.vals at BX BY ⊢
 by_cases h1:c.pool=d.pool
 ·by_cases h2:c.nm=d.nm
  ·by_cases h3:c.sup=d.sup
   ·by_cases h4:c.inf=d.inf
    ·by_cases h5:c.ifs.length=d.ifs.length
     ·by_cases h6:c.fds.length=d.fds.length
      ·by_cases h7:c.mts.length=d.mts.length
       ·have HSM:=Lh (fun h5 h6 h7=>Zne h2 h3 h4 h1 h5 h6 h7)
        have e2:(c.nm.toList==d.nm.toList)=true:=by rw [h2];simp
        have f2:=Zav e2
        have e3:(c.sup.toList==d.sup.toList)=true:=by rw [h3];simp
        have f3:=Zav e3
        have e4:(c.inf==d.inf)=true:=by rw [h4];simp
        have f4:=Zav e4
        simp only [decide_eq_true h1] at H4
        obtain⟨ni,hni⟩:∃ n,c.ifs.length=n:=⟨_,rfl⟩
        have gni:d.ifs.length=ni:=by rw [← h5,hni]
        rw [hni] at HS kc1 BX BY ⊢
        rw [gni] at HS2 BX BY ⊢
        have Hni:=Lh hni
        have Gni:=Lh gni
        clear hni gni
        obtain⟨nf,hnf⟩:∃ n,c.fds.length=n:=⟨_,rfl⟩
        have gnf:d.fds.length=nf:=by rw [← h6,hnf]
        rw [hnf] at HF kc2 BX BY ⊢
        rw [gnf] at HF2 BX BY ⊢
        have Hnf:=Lh hnf
        have Gnf:=Lh gnf
        clear hnf gnf
        obtain⟨nm,hnm⟩:∃ n,c.mts.length=n:=⟨_,rfl⟩
        have gnm:d.mts.length=nm:=by rw [← h7,hnm]
        rw [hnm] at HM kc3 BX BY ⊢
        rw [gnm] at HM2 BX BY ⊢
        have Hnm:=Lh hnm
        have Gnm:=Lh gnm
        clear hnm gnm
        clear h1 h2 h3 h4 h5 h6 h7
        go_enter Tryz.func13,Tryz.ntmps13
        go_wp2_with fail
        refine(H4.out _ (X0.out _ _)).mono ?_
        rintro e w1 ⟨rfl,x1⟩
        have E1:=Lh x1
        have X1:=Lh ((X0.out _ _).trans x1)
        have c1:=(BX.out w1 x1).cell 1
        have d1:=(BY.out w1 x1).cell 1
        have c2:=(BX.out w1 x1).cell 2
        have d2:=(BY.out w1 x1).cell 2
        have c3:=(BX.out w1 x1).cell 3
        have d3:=(BY.out w1 x1).cell 3
        have c4:=(BX.out w1 x1).cell 4
        have d4:=(BY.out w1 x1).cell 4
        have c5:=(BX.out w1 x1).cell 5
        have d5:=(BY.out w1 x1).cell 5
        have c6:=(BX.out w1 x1).cell 6
        have d6:=(BY.out w1 x1).cell 6
        simp at c1 c2 c3 c4 c5 c6 d1 d2 d3 d4 d5 d6
        clear x1
        go_wp2_with fail
        clear c1 c2 c3 c4 c5 c6 d1 d2 d3 d4 d5 d6
        go_loopw [5] (fun i wr=>∃ k:Nat,k≤ni∧i=.int .i64 k∧Hid (Ext w1 wr)∧Hid (c.ifs.take k=d.ifs.take k)) (fun i _=>ni-(intOf i).toNat)
        case atStart=>exact⟨0,by omega,rfl,Lh (Ext.refl _),Lh rfl⟩
        case round =>
         obtain⟨k,hk,rfl,HY,Ht⟩:=hrel
         rename World=>wr
         have c4:=(BX.out wr (E1.out.trans HY.out)).cell 4
         have d4:=(BY.out wr (E1.out.trans HY.out)).cell 4
         simp at c4 d4
         by_cases hlt:k<ni
         ·obtain⟨b1,o1,rfl,hx1⟩:=ZcT HS.out (by have:=Hni.out;omega)
          obtain⟨b2,o2,rfl,hx2⟩:=ZcT HS2.out (by have:=Gni.out;omega)
          have y0:=hx1 wr (X1.out.trans HY.out) k (by have:=Hni.out;omega)
          have u0:=hx2 wr (X1.out.trans HY.out) k (by have:=Gni.out;omega)
          have ht1:=Lh (Zd5 (l:=c.ifs) (j:=k) (by have:=Hni.out;omega))
          have ht2:=Lh (Zd5 (l:=d.ifs) (j:=k) (by have:=Gni.out;omega))
          clear hx1 hx2
          obtain⟨s,hs⟩:∃ s,gs c.ifs k=s:=⟨_,rfl⟩
          obtain⟨t,ht⟩:∃ s,gs d.ifs k=s:=⟨_,rfl⟩
          rw [hs] at y0
          rw [ht] at u0
          by_cases he:s=t
          ·have HE:=Lh (show gs c.ifs k=gs d.ifs k by rw [hs,ht,he])
           subst he
           clear hs ht
           go_wp2_with fail
           go_quiet (fail)
           go_wp2_with fail
           go_roundw
           case rel=>exact⟨k+1,by omega,by go_num,Lh (HY.out.drewN _),Lh (by rw [ht1.out,ht2.out,Ht.out,HE.out])⟩
           case measure=>simp [intOf];omega
          ·have HE:=Lh (show decide (c=d)=false from decide_eq_false fun e=>he (by rw [← hs,← ht,e]))
           have en:=Zfa he
           have fn:=ZdQ en
           clear he hs ht
           go_wp2_with fail
           go_quiet (fail)
           go_wp2
           go_ret
           exact⟨ZbM HE.out.symm,(X1.out.trans HY.out).drewN _⟩
         ·obtain rfl:k=ni:=by omega
          have hI:c.ifs=d.ifs:=by
           have:=Ht.out
           have e1:=Hni.out
           have e2:=Gni.out
           rwa [List.take_of_length_le (by omega),List.take_of_length_le (by omega)] at this
          have HI:=Lh hI
          have E2:=Lh (E1.out.trans HY.out)
          have X2:=Lh (X1.out.trans HY.out)
          clear hI hlt
          go_wp2_with fail
          clear c4 d4
          go_loopw [6] (fun i ws=>∃ k:Nat,k≤nf∧i=.int .i64 k∧Hid (Ext wr ws)∧Hid (c.fds.take k=d.fds.take k)) (fun i _=>nf-(intOf i).toNat)
          case atStart=>exact⟨0,by omega,rfl,Lh (Ext.refl _),Lh rfl⟩
          case round =>
           obtain⟨j,hj,rfl,HZ,Hu⟩:=hrel
           rename World=>ws
           have c5:=(BX.out ws (E2.out.trans HZ.out)).cell 5
           have d5:=(BY.out ws (E2.out.trans HZ.out)).cell 5
           simp at c5 d5
           by_cases hlt:j<nf
           ·obtain⟨b1,o1,rfl,hx1⟩:=ZcL HF.out (by have:=Hnf.out;omega)
            obtain⟨b2,o2,rfl,hx2⟩:=ZcL HF2.out (by have:=Gnf.out;omega)
            obtain⟨y0,y1,y2,y3⟩:=hx1 ws (X2.out.trans HZ.out) j (by have:=Hnf.out;omega)
            obtain⟨u0,u1,u2,u3⟩:=hx2 ws (X2.out.trans HZ.out) j (by have:=Gnf.out;omega)
            have hne:=fun W=>ZkF (gf c.fds j) (gf d.fds j) W
            unfold Fd.vals at hne
            have ht1:=Lh (ZdW (l:=c.fds) (j:=j) (by have:=Hnf.out;omega))
            have ht2:=Lh (ZdW (l:=d.fds) (j:=j) (by have:=Gnf.out;omega))
            clear hx1 hx2
            by_cases he:gf c.fds j=gf d.fds j
            ·rw [decide_eq_true he] at hne
             have HE:=Lh he
             clear he
             go_wp2_with fail
             go_quiet (fail)
             go_wp2_with fail
             go_roundw
             case rel=>exact⟨j+1,by omega,by go_num,Lh (HZ.out.drewN _),Lh (by rw [ht1.out,ht2.out,Hu.out,HE.out])⟩
             case measure=>simp [intOf];omega
            ·rw [decide_eq_false he] at hne
             have HE:=Lh (show decide (c=d)=false from decide_eq_false fun e=>he (by rw [e]))
             clear he
             go_wp2_with fail
             go_quiet (fail)
             go_wp2
             go_ret
             exact⟨ZbM HE.out.symm,(X2.out.trans HZ.out).drewN _⟩
           ·obtain rfl:j=nf:=by omega
            have hF:c.fds=d.fds:=by
             have:=Hu.out
             have e1:=Hnf.out
             have e2:=Gnf.out
             rwa [List.take_of_length_le (by omega),List.take_of_length_le (by omega)] at this
            have HFF:=Lh hF
            have E3:=Lh (E2.out.trans HZ.out)
            have X3:=Lh (X2.out.trans HZ.out)
            clear hF hlt
            go_wp2_with fail
            clear c5 d5
            go_loopw [7] (fun i wt=>∃ k:Nat,k≤nm∧i=.int .i64 k∧Hid (Ext ws wt)∧Hid (c.mts.take k=d.mts.take k)) (fun i _=>nm-(intOf i).toNat)
            case atStart=>exact⟨0,by omega,rfl,Lh (Ext.refl _),Lh rfl⟩
            case round =>
             obtain⟨q,hq,rfl,HQ,Hv⟩:=hrel
             rename World=>wt
             have c6:=(BX.out wt (E3.out.trans HQ.out)).cell 6
             have d6:=(BY.out wt (E3.out.trans HQ.out)).cell 6
             simp at c6 d6
             by_cases hlt:q<nm
             ·obtain⟨b1,o1,rfl,hx1⟩:=HM.out.at (by have:=Hnm.out;omega)
              obtain⟨b2,o2,rfl,hx2⟩:=HM2.out.at (by have:=Gnm.out;omega)
              have hk1:q<c.mts.length:=by have:=Hnm.out;omega
              have hk2:q<d.mts.length:=by have:=Gnm.out;omega
              obtain⟨va,vc,vh,hx1⟩:=hx1 q hk1
              obtain⟨va',vc',vh',hx2⟩:=hx2 q hk2
              have ht1:=Zdm hk1
              have ht2:=Zdm hk2
              have rx:=R1.out _ (Zc8 hk1)
              have ry:=R2.out _ (Zc8 hk2)
              have hne:¬ gm c.mts q=gm d.mts q→decide (c=d)=false:=fun he=>decide_eq_false fun e=>he (by rw [e])
              obtain⟨x,hx⟩:∃ x,gm c.mts q=x:=⟨_,rfl⟩
              obtain⟨y,hy⟩:∃ x,gm d.mts q=x:=⟨_,rfl⟩
              rw [hx] at hx1 ht1 rx hne
              rw [hy] at hx2 ht2 ry hne
              have m1:=(hx1 _ (X3.out.trans HQ.out)).2
              have m2:=(hx2 _ (X3.out.trans HQ.out)).2
              obtain⟨Va,ca,rfl,-⟩:=(show ShT.Row wt va x.args from m1.1).cut
              obtain⟨Vc,cc,rfl,-⟩:=id (show Row wt .u8 vc x.code from m1.2.1)
              obtain⟨Vh,ch,rfl,-⟩:=(show ShH.Row wt vh x.hs from m1.2.2).cut
              obtain⟨Va',ca',rfl,-⟩:=(show ShT.Row wt va' y.args from m2.1).cut
              obtain⟨Vc',cc',rfl,-⟩:=id (show Row wt .u8 vc' y.code from m2.2.1)
              obtain⟨Vh',ch',rfl,-⟩:=(show ShH.Row wt vh' y.hs from m2.2.2).cut
              have hF:∀ W,Ext wt W→W.cell? ⟨b1,o1+q*10,none⟩=some (.bool x.st)∧W.cell? ⟨b1,o1+q*10+1,none⟩=some (.bool x.ab)∧W.cell? ⟨b1,o1+q*10+2,none⟩=some (.string x.nm)∧W.cell? ⟨b1,o1+q*10+3,none⟩=some (.int .i64 x.ret.k)∧W.cell? ⟨b1,o1+q*10+4,none⟩=some (.string x.ret.s)∧W.cell? ⟨b1,o1+q*10+5,none⟩=some (.slice Va x.args.length ca)∧W.cell? ⟨b1,o1+q*10+6,none⟩=some (.int .i64 x.sk)∧W.cell? ⟨b1,o1+q*10+7,none⟩=some (.int .i64 x.lo)∧W.cell? ⟨b1,o1+q*10+8,none⟩=some (.slice Vc x.code.length cc)∧W.cell? ⟨b1,o1+q*10+9,none⟩=some (.slice Vh x.hs.length ch)∧W.cell? ⟨b2,o2+q*10,none⟩=some (.bool y.st)∧W.cell? ⟨b2,o2+q*10+1,none⟩=some (.bool y.ab)∧W.cell? ⟨b2,o2+q*10+2,none⟩=some (.string y.nm)∧W.cell? ⟨b2,o2+q*10+3,none⟩=some (.int .i64 y.ret.k)∧W.cell? ⟨b2,o2+q*10+4,none⟩=some (.string y.ret.s)∧W.cell? ⟨b2,o2+q*10+5,none⟩=some (.slice Va' y.args.length ca')∧W.cell? ⟨b2,o2+q*10+6,none⟩=some (.int .i64 y.sk)∧W.cell? ⟨b2,o2+q*10+7,none⟩=some (.int .i64 y.lo)∧W.cell? ⟨b2,o2+q*10+8,none⟩=some (.slice Vc' y.code.length cc')∧W.cell? ⟨b2,o2+q*10+9,none⟩=some (.slice Vh' y.hs.length ch')∧W.cell? ⟨w.heap.size,6,none⟩=some (.slice (some ⟨b1,o1,none⟩) nm cm)∧W.cell? ⟨w.heap.size+1,6,none⟩=some (.slice (some ⟨b2,o2,none⟩) nm dm):=fun W e=>by
               obtain⟨⟨y0,y1,y2,y3,y4,y5,y6,y7,y8,y9⟩,-⟩:=hx1 W ((X3.out.trans HQ.out).trans e)
               obtain⟨⟨u0,u1,u2,u3,u4,u5,u6,u7,u8,u9⟩,-⟩:=hx2 W ((X3.out.trans HQ.out).trans e)
               have a6:=(BX.out _ ((E3.out.trans HQ.out).trans e)).cell 6
               have b6:=(BY.out _ ((E3.out.trans HQ.out).trans e)).cell 6
               simp at a6 b6
               exact⟨y0,y1,y2,y3,y4,y5,y6,y7,y8,y9,u0,u1,u2,u3,u4,u5,u6,u7,u8,u9,a6,b6⟩
              have e1:=(Ext.refl wt).drew
              have f0:=hF _ e1
              have HFF:=Lh hF
              have HSM1:=Lh (fun W (e:Ext wt W)=>Ze2 x y _ _ _ _ _ _ W (m1.ext e) (m2.ext e) rx ry)
              have HT1:=Lh ht1
              have HT2:=Lh ht2
              have HNE:=Lh hne
              have HEQ:=Lh (fun h:decide (x=y)=true=>of_decide_eq_true h)
              have HNQ:=Lh (fun h:decide (x=y)=false=>of_decide_eq_false h)
              unfold Me.vals at HSM1
              obtain⟨r,hr⟩:∃ r,decide (x=y)=r:=⟨_,rfl⟩
              rw [hr] at HSM1 HEQ HNQ
              clear hx1 hx2 hx hy ht1 ht2 rx ry m1 m2 hk1 hk2 hne hF hr
              go_wp2_with fail
              go_region_held3 (fun w'=>w'.cell? ⟨b1,o1+q*10,none⟩=some (.bool x.st)∧w'.cell? ⟨b1,o1+q*10+1,none⟩=some (.bool x.ab)∧w'.cell? ⟨b1,o1+q*10+2,none⟩=some (.string x.nm)∧w'.cell? ⟨b1,o1+q*10+3,none⟩=some (.int .i64 x.ret.k)∧w'.cell? ⟨b1,o1+q*10+4,none⟩=some (.string x.ret.s)∧w'.cell? ⟨b1,o1+q*10+5,none⟩=some (.slice Va x.args.length ca)∧w'.cell? ⟨b1,o1+q*10+6,none⟩=some (.int .i64 x.sk)∧w'.cell? ⟨b1,o1+q*10+7,none⟩=some (.int .i64 x.lo)∧w'.cell? ⟨b1,o1+q*10+8,none⟩=some (.slice Vc x.code.length cc)∧w'.cell? ⟨b1,o1+q*10+9,none⟩=some (.slice Vh x.hs.length ch)∧w'.cell? ⟨b2,o2+q*10,none⟩=some (.bool y.st)∧w'.cell? ⟨b2,o2+q*10+1,none⟩=some (.bool y.ab)∧w'.cell? ⟨b2,o2+q*10+2,none⟩=some (.string y.nm)∧w'.cell? ⟨b2,o2+q*10+3,none⟩=some (.int .i64 y.ret.k)∧w'.cell? ⟨b2,o2+q*10+4,none⟩=some (.string y.ret.s)∧w'.cell? ⟨b2,o2+q*10+5,none⟩=some (.slice Va' y.args.length ca')∧w'.cell? ⟨b2,o2+q*10+6,none⟩=some (.int .i64 y.sk)∧w'.cell? ⟨b2,o2+q*10+7,none⟩=some (.int .i64 y.lo)∧w'.cell? ⟨b2,o2+q*10+8,none⟩=some (.slice Vc' y.code.length cc')∧w'.cell? ⟨b2,o2+q*10+9,none⟩=some (.slice Vh' y.hs.length ch')∧w'.cell? ⟨w.heap.size,6,none⟩=some (.slice (some ⟨b1,o1,none⟩) nm cm)∧w'.cell? ⟨w.heap.size+1,6,none⟩=some (.slice (some ⟨b2,o2,none⟩) nm dm)) (first | with_reducible assumption) (first
               | (go_at_call 38;(with_reducible refine(HSM1.out _ e1).mono ?_);rintro e w3 ⟨rfl,x3⟩;have f1:=HFF.out w3 (e1.trans x3)))
              have X4:=Lh ((X3.out.trans HQ.out).trans (e1.trans x3))
              have HQ2:=Lh (HQ.out.trans (e1.trans x3))
              clear x3 e1 f0 f1 c6 d6
              cases r
              ·have HE:=Lh (HNE.out (HNQ.out rfl))
               go_wp2
               go_ret
               exact⟨ZbM HE.out.symm,X4.out⟩
              ·have HE:=Lh (HEQ.out rfl)
               go_wp2_with fail
               go_roundw
               case rel=>exact⟨q+1,by omega,by go_num,HQ2,Lh (by rw [HT1.out,HT2.out,Hv.out,HE.out])⟩
               case measure=>simp [intOf];omega
             ·obtain rfl:q=nm:=by omega
              go_wp2
              go_ret
              refine⟨ZbM ?_,X3.out.trans HQ.out⟩
              have:=Hv.out
              have e1:=Hnm.out
              have e2:=Gnm.out
              rw [List.take_of_length_le (by omega),List.take_of_length_le (by omega)] at this
              exact(decide_eq_true (HSM.out HI.out HFF.out this)).symm
       ·have HE:=Lh (show decide (c=d)=false from decide_eq_false fun e=>h7 (by rw [e]))
        have e2:(c.nm.toList==d.nm.toList)=true:=by rw [h2];simp
        have f2:=Zav e2
        have e3:(c.sup.toList==d.sup.toList)=true:=by rw [h3];simp
        have f3:=Zav e3
        have e4:(c.inf==d.inf)=true:=by rw [h4];simp
        have f4:=Zav e4
        have f5:((c.ifs.length:Int) != (d.ifs.length:Int))=false:=by simp [h5]
        have f6:((c.fds.length:Int) != (d.fds.length:Int))=false:=by simp [h6]
        have f7:((c.mts.length:Int) != (d.mts.length:Int))=true:=by simp;omega
        simp only [decide_eq_true h1] at H4
        clear h1 h2 h3 h4 h5 h6 h7 HS HS2 HF HF2 HM HM2 R1 R2
        go_enter Tryz.func13,Tryz.ntmps13
        go_wp2_with fail
        refine(H4.out _ (X0.out _ _)).mono ?_
        rintro e w1 ⟨rfl,x1⟩
        have E1:=Lh x1
        have X1:=Lh ((X0.out _ _).trans x1)
        have c1:=(BX.out w1 x1).cell 1
        have d1:=(BY.out w1 x1).cell 1
        have c2:=(BX.out w1 x1).cell 2
        have d2:=(BY.out w1 x1).cell 2
        have c3:=(BX.out w1 x1).cell 3
        have d3:=(BY.out w1 x1).cell 3
        have c4:=(BX.out w1 x1).cell 4
        have d4:=(BY.out w1 x1).cell 4
        have c5:=(BX.out w1 x1).cell 5
        have d5:=(BY.out w1 x1).cell 5
        have c6:=(BX.out w1 x1).cell 6
        have d6:=(BY.out w1 x1).cell 6
        simp at c1 c2 c3 c4 c5 c6 d1 d2 d3 d4 d5 d6
        clear x1
        go_wp2
        go_ret
        exact⟨by rw [HE.out];rfl,X1.out⟩
      ·have HE:=Lh (show decide (c=d)=false from decide_eq_false fun e=>h6 (by rw [e]))
       have e2:(c.nm.toList==d.nm.toList)=true:=by rw [h2];simp
       have f2:=Zav e2
       have e3:(c.sup.toList==d.sup.toList)=true:=by rw [h3];simp
       have f3:=Zav e3
       have e4:(c.inf==d.inf)=true:=by rw [h4];simp
       have f4:=Zav e4
       have f5:((c.ifs.length:Int) != (d.ifs.length:Int))=false:=by simp [h5]
       have f6:((c.fds.length:Int) != (d.fds.length:Int))=true:=by simp;omega
       simp only [decide_eq_true h1] at H4
       clear h1 h2 h3 h4 h5 h6 HS HS2 HF HF2 HM HM2 R1 R2
       go_enter Tryz.func13,Tryz.ntmps13
       go_wp2_with fail
       refine(H4.out _ (X0.out _ _)).mono ?_
       rintro e w1 ⟨rfl,x1⟩
       have E1:=Lh x1
       have X1:=Lh ((X0.out _ _).trans x1)
       have c1:=(BX.out w1 x1).cell 1
       have d1:=(BY.out w1 x1).cell 1
       have c2:=(BX.out w1 x1).cell 2
       have d2:=(BY.out w1 x1).cell 2
       have c3:=(BX.out w1 x1).cell 3
       have d3:=(BY.out w1 x1).cell 3
       have c4:=(BX.out w1 x1).cell 4
       have d4:=(BY.out w1 x1).cell 4
       have c5:=(BX.out w1 x1).cell 5
       have d5:=(BY.out w1 x1).cell 5
       have c6:=(BX.out w1 x1).cell 6
       have d6:=(BY.out w1 x1).cell 6
       simp at c1 c2 c3 c4 c5 c6 d1 d2 d3 d4 d5 d6
       clear x1
       go_wp2
       go_ret
       exact⟨by rw [HE.out];rfl,X1.out⟩
     ·have HE:=Lh (show decide (c=d)=false from decide_eq_false fun e=>h5 (by rw [e]))
      have e2:(c.nm.toList==d.nm.toList)=true:=by rw [h2];simp
      have f2:=Zav e2
      have e3:(c.sup.toList==d.sup.toList)=true:=by rw [h3];simp
      have f3:=Zav e3
      have e4:(c.inf==d.inf)=true:=by rw [h4];simp
      have f4:=Zav e4
      have f5:((c.ifs.length:Int) != (d.ifs.length:Int))=true:=by simp;omega
      simp only [decide_eq_true h1] at H4
      clear h1 h2 h3 h4 h5 HS HS2 HF HF2 HM HM2 R1 R2
      go_enter Tryz.func13,Tryz.ntmps13
      go_wp2_with fail
      refine(H4.out _ (X0.out _ _)).mono ?_
      rintro e w1 ⟨rfl,x1⟩
      have E1:=Lh x1
      have X1:=Lh ((X0.out _ _).trans x1)
      have c1:=(BX.out w1 x1).cell 1
      have d1:=(BY.out w1 x1).cell 1
      have c2:=(BX.out w1 x1).cell 2
      have d2:=(BY.out w1 x1).cell 2
      have c3:=(BX.out w1 x1).cell 3
      have d3:=(BY.out w1 x1).cell 3
      have c4:=(BX.out w1 x1).cell 4
      have d4:=(BY.out w1 x1).cell 4
      have c5:=(BX.out w1 x1).cell 5
      have d5:=(BY.out w1 x1).cell 5
      have c6:=(BX.out w1 x1).cell 6
      have d6:=(BY.out w1 x1).cell 6
      simp at c1 c2 c3 c4 c5 c6 d1 d2 d3 d4 d5 d6
      clear x1
      go_wp2
      go_ret
      exact⟨by rw [HE.out];rfl,X1.out⟩
    ·have HE:=Lh (show decide (c=d)=false from decide_eq_false fun e=>h4 (by rw [e]))
     have e4:=Ze0 h4
     have f4:=ZdQ e4
     have e2:(c.nm.toList==d.nm.toList)=true:=by rw [h2];simp
     have f2:=Zav e2
     have e3:(c.sup.toList==d.sup.toList)=true:=by rw [h3];simp
     have f3:=Zav e3
     simp only [decide_eq_true h1] at H4
     clear h1 h2 h3 h4 HS HS2 HF HF2 HM HM2 R1 R2
     go_enter Tryz.func13,Tryz.ntmps13
     go_wp2_with fail
     refine(H4.out _ (X0.out _ _)).mono ?_
     rintro e w1 ⟨rfl,x1⟩
     have E1:=Lh x1
     have X1:=Lh ((X0.out _ _).trans x1)
     have c1:=(BX.out w1 x1).cell 1
     have d1:=(BY.out w1 x1).cell 1
     have c2:=(BX.out w1 x1).cell 2
     have d2:=(BY.out w1 x1).cell 2
     have c3:=(BX.out w1 x1).cell 3
     have d3:=(BY.out w1 x1).cell 3
     have c4:=(BX.out w1 x1).cell 4
     have d4:=(BY.out w1 x1).cell 4
     have c5:=(BX.out w1 x1).cell 5
     have d5:=(BY.out w1 x1).cell 5
     have c6:=(BX.out w1 x1).cell 6
     have d6:=(BY.out w1 x1).cell 6
     simp at c1 c2 c3 c4 c5 c6 d1 d2 d3 d4 d5 d6
     clear x1
     go_wp2
     go_ret
     exact⟨by rw [HE.out];rfl,X1.out⟩
   ·have HE:=Lh (show decide (c=d)=false from decide_eq_false fun e=>h3 (by rw [e]))
    have e3:=Zfa h3
    have f3:=ZdQ e3
    have e2:(c.nm.toList==d.nm.toList)=true:=by rw [h2];simp
    have f2:=Zav e2
    simp only [decide_eq_true h1] at H4
    clear h1 h2 h3 HS HS2 HF HF2 HM HM2 R1 R2
    go_enter Tryz.func13,Tryz.ntmps13
    go_wp2_with fail
    refine(H4.out _ (X0.out _ _)).mono ?_
    rintro e w1 ⟨rfl,x1⟩
    have E1:=Lh x1
    have X1:=Lh ((X0.out _ _).trans x1)
    have c1:=(BX.out w1 x1).cell 1
    have d1:=(BY.out w1 x1).cell 1
    have c2:=(BX.out w1 x1).cell 2
    have d2:=(BY.out w1 x1).cell 2
    have c3:=(BX.out w1 x1).cell 3
    have d3:=(BY.out w1 x1).cell 3
    have c4:=(BX.out w1 x1).cell 4
    have d4:=(BY.out w1 x1).cell 4
    have c5:=(BX.out w1 x1).cell 5
    have d5:=(BY.out w1 x1).cell 5
    have c6:=(BX.out w1 x1).cell 6
    have d6:=(BY.out w1 x1).cell 6
    simp at c1 c2 c3 c4 c5 c6 d1 d2 d3 d4 d5 d6
    clear x1
    go_wp2
    go_ret
    exact⟨by rw [HE.out];rfl,X1.out⟩
  ·have HE:=Lh (show decide (c=d)=false from decide_eq_false fun e=>h2 (by rw [e]))
   have e2:=Zfa h2
   have f2:=ZdQ e2
   simp only [decide_eq_true h1] at H4
   clear h1 h2 HS HS2 HF HF2 HM HM2 R1 R2
   go_enter Tryz.func13,Tryz.ntmps13
   go_wp2_with fail
   refine(H4.out _ (X0.out _ _)).mono ?_
   rintro e w1 ⟨rfl,x1⟩
   have E1:=Lh x1
   have X1:=Lh ((X0.out _ _).trans x1)
   have c1:=(BX.out w1 x1).cell 1
   have d1:=(BY.out w1 x1).cell 1
   have c2:=(BX.out w1 x1).cell 2
   have d2:=(BY.out w1 x1).cell 2
   have c3:=(BX.out w1 x1).cell 3
   have d3:=(BY.out w1 x1).cell 3
   have c4:=(BX.out w1 x1).cell 4
   have d4:=(BY.out w1 x1).cell 4
   have c5:=(BX.out w1 x1).cell 5
   have d5:=(BY.out w1 x1).cell 5
   have c6:=(BX.out w1 x1).cell 6
   have d6:=(BY.out w1 x1).cell 6
   simp at c1 c2 c3 c4 c5 c6 d1 d2 d3 d4 d5 d6
   clear x1
   go_wp2
   go_ret
   exact⟨by rw [HE.out];rfl,X1.out⟩
 ·have HE:=Lh (show decide (c=d)=false from decide_eq_false fun e=>h1 (by rw [e]))
  simp only [decide_eq_false h1] at H4
  clear h1 HS HS2 HF HF2 HM HM2 R1 R2
  go_enter Tryz.func13,Tryz.ntmps13
  go_wp2_with fail
  refine(H4.out _ (X0.out _ _)).mono ?_
  rintro e w1 ⟨rfl,x1⟩
  have E1:=Lh x1
  have X1:=Lh ((X0.out _ _).trans x1)
  clear x1
  go_wp2
  go_ret
  exact⟨by rw [HE.out];rfl,X1.out⟩
def Kp (w w':World):Prop:=w.heap.size≤w'.heap.size∧∀ b cs T,BK w b cs T→T≠5→T≠64→BK w' b cs T
theorem Kp.refl (w:World):Kp w w:=⟨Nat.le_refl _,fun _ _ _ h _ _=>h⟩
theorem Kp.trans {a b c:World} (h:Kp a b) (k:Kp b c):Kp a c:=⟨Nat.le_trans h.1 k.1,fun x cs T hb h1 h2=>k.2 x cs T (h.2 x cs T hb h1 h2) h1 h2⟩
theorem Kp.ext {a b:World} (e:Ext a b):Kp a b:=⟨e.size,fun _ _ _ h _ _=>h.ext e⟩
theorem Kp.grown {a b:World} {r:Option Nat} (hg:a.grownBy b r) (hr:∀ g,r=some g→∃ c T z,a.heap[g]?=some (.cells c T z)∧(T=5∨T=64)):Kp a b:=by
 refine⟨hg.size,fun x cs T hb h1 h2=>(hg.block x hb.lt (fun e=>?_)).trans hb⟩
 obtain⟨c,T',z,h,h3⟩:=hr x e.symm
 rw [show a.heap[x]?=_ from hb] at h
 injection h with h
 injection h with _ h _
 subst h
 rcases h3 with h3 | h3
 ·exact h1 h3
 ·exact h2 h3
theorem Own.blk {B:Nat} {w:World} {e:TypeId} {k:IntKind} {v:Value} {l:List Int} (h:Own B w e k v l):∀ g,v.ownBlock=some g→∃ c z,w.heap[g]?=some (.cells c e z):=by
 intro g hg
 rcases h.1.2 with⟨rfl,_⟩ | ⟨g',cap,cur,rfl,_,hg',_⟩
 ·cases hg
 ·injection hg with hg
  subst hg
  exact⟨_,_,hg'⟩
def WR (w0 w:World) (g:Nat) (l:List Int):Prop :=
 ∃ v,BK w g #[v] 64∧Own w0.heap.size w 5 .u8 v l∧Ext w0 w∧w0.heap.size≤g
section
variable {w0 w w' : World} {g : Nat} {l m : List Int}
theorem WR.base (h:WR w0 w g l):w0.heap.size≤g:=by
 obtain⟨v,hg,_,_,h4⟩:=h
 exact h4
theorem WR.ext0 (h:WR w0 w g l):Ext w0 w:=by
 obtain⟨v,hg,_,h3,h4⟩:=h
 exact h3
theorem WR.ext (h:WR w0 w g l) (he:Ext w w'):WR w0 w' g l:=by
 obtain⟨v,hg,h2,h3,h4⟩:=h
 exact⟨v,hg.ext he,h2.ext he,h3.trans he,h4⟩
theorem WR.cells (h:WR w0 w g l):∃ A n c,w.cell? ⟨g,0,none⟩=some (.slice A n c)∧w.frozen? ⟨g,0,none⟩=false∧Own w0.heap.size w 5 .u8 (.slice A n c) l∧BK w g #[.slice A n c] 64:=by
 obtain⟨v,hg,h2,h3,h4⟩:=h
 obtain⟨A,n,c,rfl⟩:=h2.slice
 exact⟨A,n,c,hg.cell 0,hg.free 0,h2,hg⟩
theorem WR.app {v v':Value} (hb:BK w g #[v] 64) (ho:Own w0.heap.size w 5 .u8 v l) (hx:Ext w0 w) (h0:w0.heap.size≤g)
 (ho':Own w0.heap.size w' 5 .u8 v' m) (hg:w.grownBy w' v.ownBlock):WR w0 (w'.setCell ⟨g,0,none⟩ v') g m∧Kp w (w'.setCell ⟨g,0,none⟩ v'):=by
 have hne:v.ownBlock≠some g:=Zau ho hb (by decide)
 have hb':BK w' g #[v] 64:=(hg.block g hb.lt (fun e=>hne e.symm)).trans hb
 have hne':v'.ownBlock≠some g:=Zau ho' hb' (by decide)
 have s1:=Zaa (World.grownBy.refl w' (some g)) 0 v'
 refine⟨⟨v',hb'.put 0 v',ho'.kept s1 (fun k hk e=>by injection e with e;subst e;exact hne' hk),(hx.grown hg (fun k hk=>ho.low k hk)).set_ h0 _,h0⟩,?_⟩
 refine(Kp.grown hg (fun k hk=>?_)).trans (Kp.grown s1 fun k hk=>?_)
 ·obtain⟨c,z,hc⟩:=ho.blk k hk
  exact⟨c,_,z,hc,.inl rfl⟩
 ·injection hk with hk
  subst hk
  exact⟨_,_,_,hb',.inr rfl⟩
end
def WRet (w0 w:World) (g:Nat) (l:List Int) (x:Ending) (w':World):Prop:=x=.returned (.tuple #[])∧WR w0 w' g l∧Kp w w'
theorem Zjv (s:ByteArray):Lib.strCells s=(ub s).map (Value.int .u8):=by
 unfold Lib.strCells ub
 rw [List.map_map]
 rfl
theorem ZjY (w:World) {ops:Array Oper} {rest:List Oper} {o:Oper} {a:Act} {Q:Exit→Act→World→Prop} (hgd:o.guard=none) (s y:Operand) (B:Nat)
 (hop:o.op=.call { callee:=.builtin .append,args:=#[s,y],argTypes:=#[29,9] })
 (v:Value) (l:List Int) (hs:a.eval s=v) (ho:Own B w 5 .u8 v l) (t:ByteArray) (hx:a.eval y=.string t) (hb:l.length+t.size≤140737488355328) (hB:B≤w.heap.size)
 (h:∀ v' w',Own B w' 5 .u8 v' (l++ub t)→w.grownBy w' v.ownBlock→wpList Tryz.prog ops Q rest (a.put o.dst v') w'):wpList Tryz.prog ops Q (o :: rest) a w:=by
 obtain⟨i0,hi,hz0,hz1,hz2⟩:=info_parts Zaq
 refine Lib.wpList_append_own_string w hgd s y 29 9 hop B 5 i0 Tryz.underlying29 Tryz.underlying9 hi hz0 hz1 hz2 v l.length (l.map (Value.int .u8)) hs ho.1 t hx (by unfold maxLen;omega) hb hB fun v' w' h1 h2 _=>h v' w' ⟨?_,ho.2.app (ZqZ t)⟩ h2
 rw [List.length_append,Zgf,List.map_append,← Zjv]
 exact h1
theorem ZsQ {n:Int} (h:NN n):uS n=(nu n,0):=ZlH h.1 h.2
theorem NN.b64 {n:Int} (h:NN n):-9223372036854775808≤n∧n≤9223372036854775807:=by unfold NN at h;omega
theorem Znb {ns:List Int} {k:Nat} (h:k<ns.length):(ns.take (k+1)).flatMap nu=(ns.take k).flatMap nu++nu (gi ns k):=by
 rw [List.take_succ_eq_append_getElem h,List.flatMap_append]
 simp [gi,h]
theorem ZjD {ns:List Int} (h:∀ n∈ns,NN n):(ns.flatMap nu).length≤ns.length*8:=by
 induction ns with
 | nil=>simp
 | cons x l ih =>
  rw [List.flatMap_cons,List.length_append,List.length_cons]
  have:=Zaz (h x (List.mem_cons_self ..))
  have:=ih fun y hy=>h y (List.mem_cons_of_mem _ hy)
  omega
set_option maxRecDepth 100000 in
theorem ZaT (w0 w:World) (g:Nat) (l ns:List Int) (gn q:Nat) (hq:ns.length=q) (h:WR w0 w g l) (hn:∀ n∈ns,NN n) (hb:BK w gn (ns.map (Value.int .i64)).toArray 3) (hz:l.length+ns.length*8≤140737488355328) :
 Calls Tryz.prog 112 #[.pointer (some ⟨g,0,none⟩),.slice (some ⟨gn,0,none⟩) q q] w (WRet w0 w g (l++ns.flatMap nu)):=by
 have HB:=Lh hb
 have HN:=Lh hn
 have HQ:=Lh hq
 have H:=Lh h
 obtain⟨L,hL⟩:∃ L,l++ns.flatMap nu=L:=⟨_,rfl⟩
 have HL:=Lh hL
 have HZ:=Lh hz
 have hq0:q≤140737488355328:=by omega
 rw [hL]
 clear h hn hb hq hL hz
 go_enter Tryz.func112,Tryz.ntmps112
 go_wp2
 go_loopw [10] (fun i wr=>∃ (k:Nat),i=.int .i64 k∧k≤q∧Hid (WR w0 wr g (l++(ns.take k).flatMap nu))∧Hid (Kp w wr)) (fun i _=>q-(intOf i).toNat)
 case atStart=>exact⟨0,rfl,by omega,Lh (by simpa using H.out),Lh (Kp.refl w)⟩
 case round =>
  obtain⟨k,rfl,hk,HW,HK⟩:=hrel
  rename World=>wo
  by_cases hlt:k<q
  ·have hkn:k<ns.length:=by have:=HQ.out;omega
   have y0:wo.cell? ⟨gn,k,none⟩=some (.int .i64 (gi ns k)):=by
    rw [(HK.out.2 _ _ _ HB.out (by decide) (by decide)).cell k]
    simp [gi,hkn]
   have hnn:=HN.out _ (Zbb hkn)
   have hft:=Znb hkn
   obtain⟨n,hnk⟩:∃ n,gi ns k=n:=⟨_,rfl⟩
   rw [hnk] at y0 hnn hft
   have hu:=ZsA n wo hnn.b64.1 hnn.b64.2
   rw [ZsQ hnn] at hu
   have HU:=Lh hu
   have hlen:(l++(ns.take k).flatMap nu).length+(nu n).length≤140737488355328:=by
    have h1:=ZjD (ns:=ns.take (k+1)) fun x hx=>HN.out x (List.mem_of_mem_take hx)
    rw [hft,List.length_append] at h1
    have h2:=HZ.out
    rw [List.length_append]
    have h3:(ns.take (k+1)).length≤ns.length:=by rw [List.length_take];omega
    have:=Nat.mul_le_mul_right 8 h3
    omega
   have HFT:=Lh hft
   have HLEN:=Lh hlen
   clear hkn hnn hnk hu hft hlen
   go_wp2_with fail
   refine HU.out.mono ?_
   rintro x w1 ⟨v1,rfl,⟨b1,rfl,ho1⟩,x1⟩
   have W1:=Lh (HW.out.ext x1)
   have K1:=Lh (HK.out.trans (Kp.ext x1))
   have R1:=Lh ho1.row
   obtain⟨A1,n1,c1,rfl⟩:=ho1.slice
   clear ho1 x1 y0
   obtain⟨A2,n2,c2,d0,d1,ho2,hb2⟩:=W1.out.cells
   have O2:=Lh ho2
   have B2:=Lh hb2
   have lg:=hb2.lt
   clear ho2 hb2
   go_wp2_with (first
    | (
     at_builtin;go_loud (refine wpList_app _ rfl _ _ w0.heap.size 29 5 _ 1 .u8 rfl Tryz.underlying29 Zaq rfl (by omega) (.slice A2 n2 c2) (l++(ns.take k).flatMap nu) rfl O2.out (.slice A1 n1 c1) (nu n) rfl R1.out (by have:=HLEN.out;omega) W1.out.ext0.size ?_);intro v3 w3 o3 g3 _
     obtain⟨W3,K3⟩:=WR.app B2.out O2.out W1.out.ext0 W1.out.base o3 g3
     have b3:BK w3 g #[.slice A2 n2 c2] 64:=(g3.block g B2.out.lt (fun e=>Zau O2.out B2.out (by decide) e.symm)).trans B2.out
     have k3:w3.cell? ⟨g,0,none⟩=some (.slice A2 n2 c2):=b3.cell 0
     have f3:w3.frozen? ⟨g,0,none⟩=false:=b3.free 0
     have l3:g<w3.heap.size:=by have:=g3.size;omega
     obtain⟨A3,n3,c3,rfl⟩:=o3.slice
     have HW3:=Lh W3
     have HK3:=Lh (K1.out.trans K3)
     clear W3 K3 o3 g3 d0 d1 b3))
   go_roundw
   case rel=>exact⟨k+1,by go_num,by omega,Lh (by rw [HFT.out,← List.append_assoc];exact HW3.out),HK3⟩
   case measure=>simp [intOf];omega
  ·have hk:k=q:=by omega
   have HE:=Lh (show l++(ns.take k).flatMap nu=L by rw [List.take_of_length_le (by have:=HQ.out;omega)];exact HL.out)
   go_wp2
   refine bodyPost_ret (Zak rfl _ _ _) rfl ?_
   exact⟨rfl,by rw [← HE.out];exact HW.out,HK.out⟩
theorem ZcN (n:Int):([n]:List Int).flatMap nu=nu n:=by simp
theorem Zhr (w0 w:World) (g:Nat) (l:List Int) (b:Bool) (h:WR w0 w g l) (hz:l.length+8≤140737488355328) :
 Calls Tryz.prog 58 #[.pointer (some ⟨g,0,none⟩),.bool b,.int .i64 1] w (WRet w0 w g (l++nu (flg b))):=by
 have HN:=Lh (ZaT w0 (w.alloc (.cells #[.int .i64 (flg b)] 3)) g l [flg b] w.heap.size 1 rfl (h.ext ((Ext.refl w).alloc _)) (fun n hn=>by rw [List.mem_singleton.1 hn];exact(ZbG b).1) (BK.new w _ _) (by simp;omega))
 rw [ZcN] at HN
 have K:=Lh (Kp.ext ((Ext.refl w).alloc (.cells #[.int .i64 (flg b)] 3)))
 clear h hz
 cases b
 ·rw [show flg false=0 from rfl] at HN K ⊢
  go_enter Tryz.func58,Tryz.ntmps58
  go_wp2_with fail
  refine HN.out.mono ?_
  rintro x w1 ⟨rfl,h1,k1⟩
  go_wp2
  refine bodyPost_ret (Zak rfl _ _ _) rfl ?_
  exact⟨rfl,h1,K.out.trans k1⟩
 ·rw [show flg true=1 from rfl] at HN K ⊢
  go_enter Tryz.func58,Tryz.ntmps58
  go_wp2_with fail
  refine HN.out.mono ?_
  rintro x w1 ⟨rfl,h1,k1⟩
  go_wp2
  refine bodyPost_ret (Zak rfl _ _ _) rfl ?_
  exact⟨rfl,h1,K.out.trans k1⟩
theorem Zkb {s:ByteArray} (h:TX s):NN s.size:=by unfold TX at h;unfold NN;omega
theorem ZcQ (s:ByteArray) (h:TX s):(txA s).length≤s.size+8:=by
 unfold txA
 rw [List.length_append,Zgf]
 have:=Zaz (Zkb h)
 omega
theorem Zbf (w0 w:World) (g:Nat) (l:List Int) (s:ByteArray) (h:WR w0 w g l) (ht:TX s) (hz:l.length+s.size+8≤140737488355328) :
 Calls Tryz.prog 59 #[.pointer (some ⟨g,0,none⟩),.string s] w (WRet w0 w g (l++txA s)):=by
 have HN:=Lh (ZaT w0 (w.alloc (.cells #[.int .i64 s.size] 3)) g l [(s.size:Int)] w.heap.size 1 rfl (h.ext ((Ext.refl w).alloc _)) (fun n hn=>by rw [List.mem_singleton.1 hn];exact Zkb ht) (BK.new w _ _) (by simp;omega))
 rw [ZcN] at HN
 have K:=Lh (Kp.ext ((Ext.refl w).alloc (.cells #[.int .i64 s.size] 3)))
 have HZ:=Lh (show (l++nu s.size).length+s.size≤140737488355328 by rw [List.length_append];have:=Zaz (Zkb ht);omega)
 have he:l++txA s=(l++nu s.size)++ub s:=by unfold txA;rw [List.append_assoc]
 rw [he]
 obtain⟨L,hL⟩:∃ L,l++nu s.size=L:=⟨_,rfl⟩
 rw [hL] at HN HZ ⊢
 clear h ht hz he hL
 go_enter Tryz.func59,Tryz.ntmps59
 go_wp2_with fail
 refine HN.out.mono ?_
 rintro x w1 ⟨rfl,h1,k1⟩
 obtain⟨A2,n2,c2,d0,d1,ho2,hb2⟩:=h1.cells
 have W1:=Lh h1
 have K1:=Lh (K.out.trans k1)
 have O2:=Lh ho2
 have B2:=Lh hb2
 have lg:=hb2.lt
 clear ho2 hb2 h1 k1
 go_wp2_with (first
  | (
   at_builtin;go_loud (refine ZjY _ rfl _ _ w0.heap.size rfl (.slice A2 n2 c2) L rfl O2.out s rfl HZ.out W1.out.ext0.size ?_);intro v3 w3 o3 g3
   obtain⟨W3,K3⟩:=WR.app B2.out O2.out W1.out.ext0 W1.out.base o3 g3
   have b3:BK w3 g #[.slice A2 n2 c2] 64:=(g3.block g B2.out.lt (fun e=>Zau O2.out B2.out (by decide) e.symm)).trans B2.out
   have k3:w3.cell? ⟨g,0,none⟩=some (.slice A2 n2 c2):=b3.cell 0
   have f3:w3.frozen? ⟨g,0,none⟩=false:=b3.free 0
   have l3:g<w3.heap.size:=by have:=g3.size;omega
   obtain⟨A3,n3,c3,rfl⟩:=o3.slice
   have HW3:=Lh W3
   have HK3:=Lh (K1.out.trans K3)
   clear W3 K3 o3 g3 d0 d1 b3))
 refine bodyPost_ret (Zak rfl _ _ _) rfl ?_
 exact⟨rfl,HW3.out,HK3.out⟩
end Go.Proofs.YtclamhhgldkhnaaGreatDoor
