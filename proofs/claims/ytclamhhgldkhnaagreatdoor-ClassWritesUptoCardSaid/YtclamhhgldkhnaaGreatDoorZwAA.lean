/- Several texts of this proof, one behind the other. -/
import Derived.Test.YtclamhhgldkhnaaGreatDoorZwY
import Derived.Test.YtclamhhgldkhnaaGreatDoorZwZ
import Derived.Test.YtclamhhgldkhnaaGreatDoorZwG
import Derived.BigQuiet
import Derived.Test.YtclamhhgldkhnaaGreatDoorZwJ
import Derived.Test.YtclamhhgldkhnaaGreatDoorZwF
import Derived.Test.YtclamhhgldkhnaaGreatDoorZwL
namespace Go.Proofs.YtclamhhgldkhnaaGreatDoor
open Go.RowKit
set_option linter.unusedVariables false
set_option maxHeartbeats 16000000
theorem Zr9 {l:List In} {q:Nat} (h:l.length=q+1):l.getD (l.length-1) i0=gn l q:=by rw [h];rfl
theorem Zkq {b:List Int} (h1:¬ 8192<b.length) (h2:¬ b.length=0):cutZ b=cutL (cutF b 0):=by unfold cutZ;rw [if_neg h1,if_neg h2]
theorem ZkP {b:List Int} {R:List In × Int × Int} {a e:Int} (h:R=([],a,e)) (he:e≠0):cutL R=([],a,e):=by
 unfold cutL
 rw [h]
 simp only
 rw [if_neg he]
theorem Zf8 {R:List In × Int × Int} {l:List In} {F:Int} (h:R=(l,0,0)) (hf:Zaj (good l) l=(F,true)):cutL R=([],F,70):=by
 unfold cutL
 rw [h]
 simp only
 rw [if_pos trivial,hf]
 simp
theorem Zk8 {R:List In × Int × Int} {l:List In} {F:Int} {q:Nat} (h:R=(l,0,0)) (hf:Zaj (good l) l=(F,false)) (hq:l.length=q+1):cutL R=if Zbe (gn l q).o=true then (l,0,0) else ([],(gn l q).a,70):=by
 unfold cutL
 rw [h]
 simp only
 rw [if_pos trivial,hf,Zr9 hq]
 simp
set_option maxRecDepth 100000 in
theorem Zmy (v:Value) (b:List Int) (w:World) (h:Row w .u8 v b) (hlb:b.length≤140737488355328) :
 Calls Tryz.prog 135 #[v] w (Ret w (CutAns w.heap.size (cutZ b))):=by
 have H:=Lh h
 have HB:=Lh (Zdh h)
 obtain⟨A,c,rfl,hc,hm,-⟩:=h
 unfold maxLen at hm
 obtain⟨n,hn⟩:∃ n,n=b.length:=⟨_,rfl⟩
 rw [← hn] at hc H ⊢
 have Hn:=Lh hn
 by_cases hbig:8192<b.length
 ·have HZ:=Lh (show cutZ b=([],0,5) by unfold cutZ;rw [if_pos hbig])
  have hbig:8192<n:=by omega
  clear hn
  go_enter Tryz.func135,Tryz.ntmps135
  go_wp2
  go_ret3
  exact Ret.mk (CutAns.bad HZ.out) (Ext.refl w)
 by_cases hnone:b.length=0
 ·have HZ:=Lh (show cutZ b=([],0,70) by unfold cutZ;rw [if_neg hbig,if_pos hnone])
  obtain rfl:n=0:=by omega
  clear hn
  go_enter Tryz.func135,Tryz.ntmps135
  go_wp2
  go_ret3
  exact Ret.mk (CutAns.bad HZ.out) (Ext.refl w)
 have HZ:=Lh (Zkq hbig hnone)
 have hn0:0<n:=by omega
 have hn1:n≤8192:=by omega
 have hb0:0<b.length:=by omega
 obtain⟨R,hR⟩:∃ R,cutF b 0=R:=⟨_,rfl⟩
 have HC:Hid (Come b R [] 0):=Lh (hR ▸ Come.start b)
 have HL:Hid (∀ l,R=(l,0,0)→∃ q,l.length=q+1):=Lh (fun l hl=>by
  have:=Zk6 HB.out hb0 (by rw [hR,hl])
  rw [hR,hl] at this
  simp only at this
  exact⟨l.length-1,by omega⟩)
 rw [hR] at HZ
 clear hR hn hbig hnone hb0
 have hz0:((n:Int)==0)=false:=by simp;omega
 go_enter Tryz.func135,Tryz.ntmps135
 go_wp2
 go_loopw [5,6] (fun u i wr=>∃ (k:Nat) (acc:List In),i=.int .i64 k∧k≤n∧acc.length≤k∧Hid (OwnI w.heap.size wr u acc)∧Hid (Come b R acc k)∧Hid (Ext w wr)) (fun _ i _=>n-(intOf i).toNat)
 case atStart=>exact⟨0,[],rfl,by omega,by simp,Lh (OwnI.nil _ _),HC,Lh (Ext.refl w)⟩
 case round =>
  obtain⟨k,acc,rfl,hk,hak,HO,HCk,HX⟩:=hrel
  by_cases hlt:k<n
  ·have hd:=Zhw _ b k wr (H.out.ext HX.out) hlb
   obtain⟨D,hD⟩:∃ D,Zas b k=D:=⟨_,rfl⟩
   rw [hD] at hd
   obtain⟨x,j,er⟩:=D
   have HD:=Lh hd
   by_cases he:er=0
   ·subst he
    obtain⟨i,hi1,hi2,hi3⟩:=ZcK HB.out (k:=k) (by rw [hD])
    rw [hD] at hi1
    simp only at hi1
    subst hi1
    have HN:=Lh (HCk.out.next HB.out (by have:=Hn.out;omega) hD)
    rw [← Hn.out] at hi3
    clear hd hD
    go_wp2_with fail
    refine HD.out.mono ?_
    rintro e w1 ⟨v',rfl,⟨u1,u2,rfl,o1,o2⟩,x1⟩
    obtain⟨B1,n1,c1,rfl⟩:=o1.slice
    obtain⟨B2,n2,c2,rfl⟩:=o2.slice
    have O1:=Lh o1
    have O2:=Lh o2
    have X1:=Lh x1
    have hsz:=HX.out.size
    have hsz1:=x1.size
    clear o1 o2 x1
    unfold In.vals
    go_wp2_with (at_builtin;go_loud (refine ZfT _ rfl _ _ w.heap.size rfl _ acc rfl ((HO.out.ext X1.out).ext (((Ext.refl _).alloc _).alloc _)) (w1.heap.size+1) x (.slice B1 n1 c1) (.slice B2 n2 c2) 178 rfl (Zhg _ _ _) ((O1.out.base hsz).ext (((Ext.refl _).alloc _).alloc _)) ((O2.out.base hsz).ext (((Ext.refl _).alloc _).alloc _)) (by omega) (by simp;omega) ?_);intro u' w2 ho2 hg2 _)
    have X2:=Lh ((((HX.out.trans X1.out).alloc (.cells #[.int .i64 x.a,.int .i64 x.o,.int .i64 x.n,.int .i64 x.m,.slice B1 n1 c1,.slice B2 n2 c2] 178)).alloc (.cells #[.int .i64 x.a,.int .i64 x.o,.int .i64 x.n,.int .i64 x.m,.slice B1 n1 c1,.slice B2 n2 c2] 178)).grown hg2 (fun g hg=>HO.out.low g hg))
    have HO2:=Lh ho2
    clear ho2 hg2
    go_wp2_with fail
    go_roundw
    case rel=>exact⟨i,acc++[x],rfl,hi3,by simp;omega,HO2,HN,X2⟩
    case measure=>simp [intOf];omega
   ·have HE:=Lh (HCk.out.bad (by have:=Hn.out;omega) (by rw [hD];exact he))
    rw [hD] at HE
    have HE':=Lh (HZ.out.trans (ZkP (b:=b) HE.out he))
    have hb:(er != 0)=true:=by simpa using he
    clear hd hD
    go_wp2_with fail
    refine HD.out.mono ?_
    rintro e w1 ⟨v',rfl,⟨u1,u2,rfl,o1,o2⟩,x1⟩
    obtain⟨B1,n1,c1,rfl⟩:=o1.slice
    obtain⟨B2,n2,c2,rfl⟩:=o2.slice
    have X1:=Lh x1
    clear o1 o2 x1
    unfold In.vals
    go_wp2
    go_ret3
    exact Ret.mk (CutAns.bad HE'.out) ((HX.out.trans X1.out).alloc _)
  ·have HE:=Lh (HCk.out.end_ (by have:=Hn.out;omega))
   obtain⟨q,hq⟩:=HL.out _ HE.out
   obtain⟨A1,c1,rfl,hc1,hm1⟩:=HO.out.slice
   unfold maxLen at hm1
   have HQ:=Lh hq
   have HO':Hid (OwnI w.heap.size wr (.slice A1 (q+1) c1) acc):=by rw [hq] at HO;exact HO
   rw [hq] at hc1 ⊢
   clear hq
   have HG:=Lh (ZjA (.slice A1 (q+1) c1) acc wr HO'.out.row)
   obtain⟨F,hF⟩:∃ F,Zaj (good acc) acc=F:=⟨_,rfl⟩
   obtain⟨fa,fb⟩:=F
   rw [hF] at HG
   cases fb
   ·have HT:=Lh (HZ.out.trans (Zk8 HE.out hF HQ.out))
    clear hF
    obtain⟨b1,o1,rfl,hat⟩:=HO'.out.row.at (by have:=HQ.out;omega)
    obtain⟨v1,v2,hat⟩:=hat q (by have:=HQ.out;omega)
    obtain⟨A3,c3,rfl,-⟩:=(hat _ (Ext.refl wr)).2.1
    obtain⟨A4,c4,rfl,-⟩:=(hat _ (Ext.refl wr)).2.2
    have HA:=Lh hat
    obtain⟨x,hx⟩:∃ x,gn acc q=x:=⟨_,rfl⟩
    rw [hx] at HA HT
    have hwq:IntKind.i64.wrap (((q+1:Nat):Int)-1)=q:=by rw [IntKind.wrap_i64];omega
    clear hat hx
    go_wp2_with fail
    refine HG.out.mono ?_
    rintro e w1 ⟨rfl,x1⟩
    obtain⟨y0,y1,y2,y3,y4,y5⟩:=(HA.out _ x1).1
    have X1:=Lh x1
    clear x1
    have HN:=Lh (fun W=>ZjT x.o W)
    by_cases he:Zbe x.o=true
    ·rw [he] at HN HT
     clear he
     go_wp2_with fail
     refine(HN.out _).mono ?_
     rintro e w2 ⟨rfl,rfl⟩
     go_wp2
     go_ret3
     refine Ret.mk (CutAns.good (HT.out.trans (if_pos trivial)) (HO'.out.ext (X1.out.alloc _))) ((HX.out.trans X1.out).alloc _)
    ·have he:Zbe x.o=false:=by simpa using he
     rw [he] at HN HT
     clear he
     go_wp2_with fail
     refine(HN.out _).mono ?_
     rintro e w2 ⟨rfl,rfl⟩
     go_wp2
     go_quiet (fail)
     go_wp2
     go_ret3
     refine Ret.mk (CutAns.bad (HT.out.trans (if_neg (by simp)))) (((HX.out.trans X1.out).alloc _).drewN _)
   ·have HT:=Lh (HZ.out.trans (Zf8 HE.out hF))
    clear hF
    go_wp2_with fail
    refine HG.out.mono ?_
    rintro e w1 ⟨rfl,x1⟩
    go_wp2
    go_ret3
    exact Ret.mk (CutAns.bad HT.out) (HX.out.trans x1)
set_option maxRecDepth 100000 in
theorem Zmi (v:Value) (l:List In) (w:World) (h:RowI w v l) (ha:Zc4 l) :
 Calls Tryz.prog 195 #[v] w fun e w'=>e=.returned (.tuple #[.int .i64 (Zaj (good l) l).1,.bool (Zaj (good l) l).2])∧Ext w w':=by
 have H:=Lh h
 obtain⟨A,c,rfl,-⟩:=h.cut
 have HB:=Lh (ZdR _ l w h ha)
 have HF:=Lh (fun W (e:Ext w W) f g (hf:FB W f g) (hg:BG W g l)=>Ze6 230 #[.pointer (some ⟨f,0,none⟩)] (good l) _ l W (H.out.ext e) (fun args W=>Tryz.call230 args W)
  (fun W' e' x hx v1 v2 h1 h2=>ZjU x v1 v2 f g l W' h1 h2 (hf.ext e') (hg.ext e') ha))
 obtain⟨F,hF⟩:∃ F,Zaj (good l) l=F:=⟨_,rfl⟩
 rw [hF] at HF ⊢
 clear h ha hF
 go_enter Tryz.func195,Tryz.ntmps195
 go_wp2_with fail
 refine HB.out.mono ?_
 rintro e w1 ⟨g,rfl,hg,hs,x1⟩
 have HG:=Lh hg
 have X1:=Lh x1
 clear hg x1
 go_wp2_with fail
 refine(HF.out _ (X1.out.alloc _) w1.heap.size g (heap_alloc_new w1 _) (HG.out.ext ((Ext.refl w1).alloc _))).mono ?_
 rintro e w2 ⟨rfl,x2⟩
 go_wp2
 go_ret2
 exact⟨rfl,(X1.out.alloc _).trans x2⟩
set_option maxRecDepth 100000 in
theorem ZrZ (v:Value) (b:List Int) (w:World) (h:Row w .u8 v b) :
 Calls Tryz.prog 165 #[v] w (Ret w (CutAns w.heap.size (cutZ b))):=by
 have H:=Lh h
 have HB:=Lh (Zdh h)
 obtain⟨A,c,rfl,hc,hm,-⟩:=h
 unfold maxLen at hm
 obtain⟨n,hn⟩:∃ n,n=b.length:=⟨_,rfl⟩
 rw [← hn] at hc H ⊢
 have Hn:=Lh hn
 by_cases hbig:8192<b.length
 ·have HZ:=Lh (show cutZ b=([],0,5) by unfold cutZ;rw [if_pos hbig])
  have hbig:8192<n:=by omega
  clear hn
  go_enter Tryz.func165,Tryz.ntmps165
  go_wp2
  go_ret3
  exact Ret.mk (CutAns.bad HZ.out) (Ext.refl w)
 by_cases hnone:b.length=0
 ·have HZ:=Lh (show cutZ b=([],0,70) by unfold cutZ;rw [if_neg hbig,if_pos hnone])
  obtain rfl:n=0:=by omega
  clear hn
  go_enter Tryz.func165,Tryz.ntmps165
  go_wp2
  go_ret3
  exact Ret.mk (CutAns.bad HZ.out) (Ext.refl w)
 have HZ:=Lh (Zkq hbig hnone)
 have hn0:0<n:=by omega
 have hn1:n≤8192:=by omega
 have hb0:0<b.length:=by omega
 have hd:=ZhY (.slice A n c) b w H.out (by omega)
 obtain⟨R,hR⟩:∃ R,cutF b 0=R:=⟨_,rfl⟩
 have HL:Hid (R.2.2=0→∃ q,R.1.length=q+1):=Lh (fun hl=>by
  have:=Zk6 HB.out hb0 (by rw [hR,hl])
  rw [hR] at this
  exact⟨R.1.length-1,by omega⟩)
 have HW:Hid (R.2.2=0→Zc4 R.1):=Lh (fun hl x hx=>by
  have:=ZhJ HB.out _ 0 rfl (by rw [hR,hl]) x (by rw [hR];exact hx)
  have h1:=(Zgn this.1).1
  exact⟨h1.1,h1.2.1⟩)
 have HR0:Hid (R.2.2=0→R.2.1=0):=Lh (fun hl=>by rw [← hR] at hl ⊢;exact Zgk hl)
 have HR1:Hid (R.2.2≠0→R.1=[]):=Lh (fun hl=>by rw [← hR] at hl ⊢;exact ZnF hl)
 rw [hR] at HZ hd
 have HD:=Lh hd
 clear hR hn hbig hnone hb0 hd
 have hz0:((n:Int)==0)=false:=by simp;omega
 obtain⟨acc,k,er⟩:=R
 simp only at HL HW HR0 HR1 HD
 go_enter Tryz.func165,Tryz.ntmps165
 go_wp2_with fail
 refine HD.out.mono ?_
 rintro e w1 ⟨v',rfl,⟨u,rfl,ho⟩,x1⟩
 have HO:=Lh ho
 have X1:=Lh x1
 clear ho x1
 by_cases he:er=0
 ·subst he
  obtain rfl:k=0:=HR0.out rfl
  obtain⟨q,hq⟩:=HL.out rfl
  obtain⟨A1,c1,rfl,hc1,hm1⟩:=HO.out.slice
  unfold maxLen at hm1
  have HQ:=Lh hq
  have HO':Hid (OwnI w.heap.size w1 (.slice A1 (q+1) c1) acc):=by rw [hq] at HO;exact HO
  rw [hq] at hc1 ⊢
  clear hq
  have HG:=Lh (Zmi (.slice A1 (q+1) c1) acc w1 HO'.out.row (HW.out rfl))
  obtain⟨F,hF⟩:∃ F,Zaj (good acc) acc=F:=⟨_,rfl⟩
  obtain⟨fa,fb⟩:=F
  rw [hF] at HG
  cases fb
  ·have HT:=Lh (HZ.out.trans (Zk8 rfl hF HQ.out))
   clear hF
   obtain⟨b1,o1,rfl,hat⟩:=HO'.out.row.at (by have:=HQ.out;omega)
   obtain⟨v1,v2,hat⟩:=hat q (by have:=HQ.out;omega)
   obtain⟨A3,c3,rfl,-⟩:=(hat _ (Ext.refl w1)).2.1
   obtain⟨A4,c4,rfl,-⟩:=(hat _ (Ext.refl w1)).2.2
   have HA:=Lh hat
   obtain⟨x,hx⟩:∃ x,gn acc q=x:=⟨_,rfl⟩
   rw [hx] at HA HT
   have hwq:IntKind.i64.wrap (((q+1:Nat):Int)-1)=q:=by rw [IntKind.wrap_i64];omega
   have HB':=Lh (fun(W0 W:World) e=>Zd0 (w:=W0) (W:=W) (x:=x) (v1:=.slice A3 x.to.length c3) (v2:=.slice A4 x.ks.length c4) e)
   unfold In.vals at HB'
   clear hat hx
   go_wp2_with fail
   refine HG.out.mono ?_
   rintro e w2 ⟨rfl,x2⟩
   obtain⟨y0,y1,y2,y3,y4,y5⟩:=(HA.out _ x2).1
   have X2:=Lh x2
   clear x2
   have HN:=Lh (fun W=>Zpi x.o W)
   by_cases he:Zbe x.o=true
   ·rw [he] at HN HT
    clear he
    go_wp2_with fail
    refine(HN.out _).mono ?_
    rintro e w3 ⟨rfl,x3⟩
    go_wp2
    go_ret3
    exact Ret.mk (CutAns.good (HT.out.trans (if_pos trivial)) (HO'.out.ext ((X2.out.alloc _).trans x3))) (((X1.out.trans X2.out).alloc _).trans x3)
   ·have he':Zbe x.o=false:=by simpa using he
    rw [he'] at HN HT
    clear he he'
    go_wp2_with fail
    refine(HN.out _).mono ?_
    rintro e w3 ⟨rfl,x3⟩
    obtain⟨d0,d1,d2,d3,d4,d5⟩:=HB'.out w2 w3 x3
    go_wp2
    go_quiet (fail)
    go_wp2
    go_ret3
    exact Ret.mk (CutAns.bad (HT.out.trans (if_neg (by simp)))) ((((X1.out.trans X2.out).alloc _).trans x3).drewN _)
  ·have HT:=Lh (HZ.out.trans (Zf8 rfl hF))
   clear hF
   go_wp2_with fail
   refine HG.out.mono ?_
   rintro e w2 ⟨rfl,x2⟩
   go_wp2
   go_ret3
   exact Ret.mk (CutAns.bad HT.out) (X1.out.trans x2)
 ·obtain rfl:acc=[]:=HR1.out he
  have hb:(er != 0)=true:=by simpa using he
  have HT:=Lh (HZ.out.trans (ZkP (b:=b) rfl he))
  clear he
  go_wp2
  go_ret3
  exact Ret.mk (CutAns.bad HT.out) X1.out
set_option maxRecDepth 100000 in
theorem ZdU (v:Value) (pool:List Cst) (n a b:Int) (w:World) (h:ShC.Row w v pool) :
 Calls Tryz.prog 172 #[v,.int .i64 n,.int .i64 a,.int .i64 b] w fun e w'=>e=.returned (.bool (isKZ pool n a b))∧Ext w w':=by
 have H:=Lh h
 obtain⟨A,c,rfl,hc,hm,-⟩:=h.cut
 unfold maxLen at hm
 obtain⟨q,hq⟩:∃ q,q=pool.length:=⟨_,rfl⟩
 rw [← hq] at hc H ⊢
 have Hq:=Lh hq
 by_cases h0:0<n
 ·by_cases h1:n<q
  ·obtain⟨j,rfl⟩:∃ j:Nat,n=j:=⟨n.toNat,by omega⟩
   have hj:j<q:=by omega
   obtain⟨bb,o,rfl,hat⟩:=Zh4 H.out (by omega)
   obtain⟨y0,-⟩:=hat w (Ext.refl w) j (by omega)
   obtain⟨k,hk⟩:∃ k,(gc pool j).k=k:=⟨_,rfl⟩
   rw [hk] at y0
   have hz:isKZ pool j a b=(decide (k=a) || decide (k=b)):=by
    unfold isKZ
    rw [decide_eq_true h0,decide_eq_true (show (j:Int)<pool.length by omega),Int.toNat_natCast,hk]
    simp
   rw [hz]
   clear hz hk hat h hq
   by_cases ha:k=a
   ·have b1:(k==a)=true:=by simp [ha]
    rw [decide_eq_true ha]
    clear ha
    go_enter Tryz.func172,Tryz.ntmps172
    go_wp2
    go_ret
    exact⟨rfl,Ext.refl w⟩
   ·have b1:(k==a)=false:=by simp [ha]
    rw [decide_eq_false ha]
    clear ha
    by_cases hb:k=b
    ·have b2:(k==b)=true:=by simp [hb]
     rw [decide_eq_true hb]
     clear hb
     go_enter Tryz.func172,Tryz.ntmps172
     go_wp2
     go_ret
     exact⟨rfl,Ext.refl w⟩
    ·have b2:(k==b)=false:=by simp [hb]
     rw [decide_eq_false hb]
     clear hb
     go_enter Tryz.func172,Tryz.ntmps172
     go_wp2
     go_ret
     exact⟨rfl,Ext.refl w⟩
  ·rw [show isKZ pool n a b=false by unfold isKZ;rw [decide_eq_false (show ¬ n<pool.length by omega)];simp]
   clear hq h
   go_enter Tryz.func172,Tryz.ntmps172
   go_wp2
   go_ret
   exact⟨rfl,Ext.refl w⟩
 ·rw [show isKZ pool n a b=false by unfold isKZ;rw [decide_eq_false h0];simp]
  clear hq h
  go_enter Tryz.func172,Tryz.ntmps172
  go_wp2
  go_ret
  exact⟨rfl,Ext.refl w⟩
set_option maxRecDepth 100000 in
theorem ZiD (v:Value) (s:List Int) (x:Int) (w:World) (h:Row w .i64 v s) :
 Calls Tryz.prog 256 #[v,.int .i64 x] w fun e w'=>e=.returned (.int .i64 (idxP (fun t=>decide (x=t)) s 0))∧w=w':=by
 have H:=Lh h
 obtain⟨A,c,rfl,hc,hm,-,-,hcell⟩:=h
 unfold maxLen at hm
 obtain⟨n,hn⟩:∃ n,n=s.length:=⟨_,rfl⟩
 rw [← hn] at hc H hcell ⊢
 have Hn:=Lh hn
 obtain⟨R,hR⟩:∃ R,idxP (fun t=>decide (x=t)) s 0=R:=⟨_,rfl⟩
 have HR:=Lh hR
 rw [hR]
 clear hn hR
 go_enter Tryz.func256,Tryz.ntmps256
 go_wp2
 go_loopw [8] (fun i wr=>∃ (k:Nat),i=.int .i64 k∧k≤n∧Hid (R=idxP (fun t=>decide (x=t)) (s.drop k) k)∧w=wr) (fun i _=>n-(intOf i).toNat)
 case atStart=>exact⟨0,rfl,by omega,Lh HR.out.symm,rfl⟩
 case round =>
  obtain⟨k,rfl,hk,HP,rfl⟩:=hrel
  by_cases hlt:k<n
  ·obtain⟨b,o,rfl,hb,hx⟩:=hcell (by omega)
   have y0:=hx k hlt
   have hget:=ZqK (l:=s) (k:=k) (by have:=Hn.out;omega)
   obtain⟨t,ht⟩:∃ t,gi s k=t:=⟨_,rfl⟩
   rw [ht] at y0 hget
   by_cases he:x=t
   ·have hb:(x==t)=true:=by simp [he]
    have HE:=Lh (HP.out.trans (ZcC hget (decide_eq_true he)))
    clear hx hcell ht hget he
    go_wp2
    go_ret
    exact⟨by rw [HE.out];rfl,rfl⟩
   ·have hb:(x==t)=false:=by simp [he]
    have HE:=Lh (HP.out.trans (Zcu hget (decide_eq_false he)))
    clear hx hcell ht hget he
    go_wp2_with fail
    go_roundw
    case rel=>exact⟨k+1,by go_num,by omega,HE,trivial⟩
    case measure=>simp [intOf];omega
  ·have HE:=Lh (show R=-1 by rw [HP.out,List.drop_of_length_le (by have:=Hn.out;omega)];rfl)
   go_wp2
   go_ret
   exact⟨by rw [HE.out];rfl,rfl⟩
set_option maxRecDepth 100000 in
theorem Zgh (v:Value) (s:List Int) (x:Int) (w:World) (h:Row w .i64 v s) :
 Calls Tryz.prog 235 #[v,.int .i64 x] w fun e w'=>e=.returned (.bool (s.any fun t=>decide (x=t)))∧w=w':=by
 have HI:=Lh (ZiD v s x w h)
 rw [← ZdE (p:=fun t=>decide (x=t)) (l:=s) (k:=0)]
 obtain⟨A,c,rfl,-⟩:=h
 obtain⟨R,hR⟩:∃ R,idxP (fun t=>decide (x=t)) s 0=R:=⟨_,rfl⟩
 rw [hR] at HI ⊢
 clear hR
 go_enter Tryz.func235,Tryz.ntmps235
 go_wp2_with fail
 refine HI.out.mono ?_
 rintro e w1 ⟨rfl,rfl⟩
 go_wp2
 go_ret
 exact⟨rfl,rfl⟩
def isKs (pool:List Cst) (n:Int) (ks:List Int):Bool:=decide (0<n)&&(decide (n<pool.length)&&ks.any fun t=>decide ((gc pool n.toNat).k=t))
theorem Zpd (pool:List Cst) (n a b:Int):isKs pool n [a,b]=isKZ pool n a b:=by simp [isKs,isKZ]
theorem Zfz (pool:List Cst) (n a:Int):isKs pool n [a]=isKZ pool n a a:=by simp [isKs,isKZ]
set_option maxRecDepth 100000 in
theorem Zgq (v:Value) (pool:List Cst) (n:Int) (vk:Value) (ks:List Int) (w:World) (h:ShC.Row w v pool) (hk:Row w .i64 vk ks) :
 Calls Tryz.prog 203 #[v,.int .i64 n,vk] w fun e w'=>e=.returned (.bool (isKs pool n ks))∧w=w':=by
 have H:=Lh h
 have HC:=Lh (fun x=>Zgh vk ks x w hk)
 obtain⟨A,c,rfl,hc,hm,-⟩:=h.cut
 obtain⟨A2,c2,rfl,-⟩:=hk
 unfold maxLen at hm
 obtain⟨q,hq⟩:∃ q,q=pool.length:=⟨_,rfl⟩
 rw [← hq] at hc H ⊢
 have Hq:=Lh hq
 by_cases h0:0<n
 ·by_cases h1:n<q
  ·obtain⟨j,rfl⟩:∃ j:Nat,n=j:=⟨n.toNat,by omega⟩
   have hj:j<q:=by omega
   obtain⟨bb,o,rfl,hat⟩:=Zh4 H.out (by omega)
   obtain⟨y0,-⟩:=hat w (Ext.refl w) j (by omega)
   obtain⟨k,hk⟩:∃ k,(gc pool j).k=k:=⟨_,rfl⟩
   rw [hk] at y0
   have hz:isKs pool j ks=ks.any fun t=>decide (k=t):=by
    unfold isKs
    rw [decide_eq_true h0,decide_eq_true (show (j:Int)<pool.length by omega),Int.toNat_natCast,hk]
    simp
   rw [hz]
   have hck:=HC.out k
   obtain⟨r,hr⟩:∃ r,(ks.any fun t=>decide (k=t))=r:=⟨_,rfl⟩
   rw [hr] at hck ⊢
   have HK:=Lh hck
   clear hz hk hat h hq hck hr
   go_enter Tryz.func203,Tryz.ntmps203
   go_wp2_with fail
   refine HK.out.mono ?_
   rintro e w1 ⟨rfl,rfl⟩
   go_wp2
   go_ret
   exact⟨rfl,rfl⟩
  ·rw [show isKs pool n ks=false by unfold isKs;rw [decide_eq_false (show ¬ n<pool.length by omega)];simp]
   clear hq h
   go_enter Tryz.func203,Tryz.ntmps203
   go_wp2
   go_ret
   exact⟨rfl,rfl⟩
 ·rw [show isKs pool n ks=false by unfold isKs;rw [decide_eq_false h0];simp]
  clear hq h
  go_enter Tryz.func203,Tryz.ntmps203
  go_wp2
  go_ret
  exact⟨rfl,rfl⟩
def Zq4 (o:Int):Prop:=(o=6∨o=9)∨(o=5∨o=7∨o=8∨o=10∨o=11)∨o=3∨(o=61∨o=62∨o=63∨o=64)∨(o=65∨o=68∨o=76∨o=77)∨(o=79∨o=80∨o=81∨o=82) ∨
 ((o<5∧o≠3)∨(11<o∧o<61)∨(64<o∧o<79∧o≠65∧o≠68∧o≠76∧o≠77)∨82<o)
theorem ZdK (o:Int):Zq4 o:=by unfold Zq4;omega
theorem ZiL {lo:Int} {pool:List Cst} {x:In} (h:x.o=6∨x.o=9):fitZ lo pool x=decide (x.n+1<lo):=by unfold fitZ;rw [if_pos h]
theorem ZkE {lo:Int} {pool:List Cst} {x:In} (h:x.o=5∨x.o=7∨x.o=8∨x.o=10∨x.o=11):fitZ lo pool x=decide (x.n<lo):=by unfold fitZ;rw [if_neg (by omega),if_pos (by omega)]
theorem ZkS {lo:Int} {pool:List Cst} {x:In} (h:x.o=3):fitZ lo pool x=isKZ pool x.n 2 3:=by unfold fitZ;rw [if_neg (by omega),if_neg (by omega),if_pos h]
theorem Zko {lo:Int} {pool:List Cst} {x:In} (h:x.o=61∨x.o=62∨x.o=63∨x.o=64):fitZ lo pool x=isKZ pool x.n 5 5:=by unfold fitZ;rw [if_neg (by omega),if_neg (by omega),if_neg (by omega),if_pos (by omega)]
theorem Zk5 {lo:Int} {pool:List Cst} {x:In} (h:x.o=65∨x.o=68∨x.o=76∨x.o=77):fitZ lo pool x=isKZ pool x.n 4 4:=by unfold fitZ;rw [if_neg (by omega),if_neg (by omega),if_neg (by omega),if_neg (by omega),if_pos h]
theorem Zkr {lo:Int} {pool:List Cst} {x:In} (h:x.o=79∨x.o=80∨x.o=81∨x.o=82):fitZ lo pool x=isKZ pool x.n 6 6:=by unfold fitZ;rw [if_neg (by omega),if_neg (by omega),if_neg (by omega),if_neg (by omega),if_neg (by omega),if_pos (by omega)]
theorem ZkI {lo:Int} {pool:List Cst} {x:In} (h:(x.o<5∧x.o≠3)∨(11<x.o∧x.o<61)∨(64<x.o∧x.o<79∧x.o≠65∧x.o≠68∧x.o≠76∧x.o≠77)∨82<x.o):fitZ lo pool x=true:=by
 unfold fitZ;rw [if_neg (by omega),if_neg (by omega),if_neg (by omega),if_neg (by omega),if_neg (by omega),if_neg (by omega)]
theorem Zod {x:In} (h:mayI x=true) (ho:x.o=6∨x.o=9):0≤x.n∧x.n≤255:=by
 obtain⟨-,-,hf,-⟩:=Zgn h
 unfold Zan at hf
 simp only [Bool.and_eq_true] at hf
 have hz:Zad x.o=1:=by unfold Zad;rw [if_pos (by omega)]
 have h1:=hf.1.1.1
 rw [hz] at h1
 simpa using h1
def ZhB (lo:Int) (x:In):Bool:=if x.o=6∨x.o=9 then decide (x.n+1<lo) else if 5≤x.o∧x.o≤11 then decide (x.n<lo) else true
def ZeT (pool:List Cst) (x:In):Bool:=if x.o=3 then isKZ pool x.n 2 3 else if 61≤x.o∧x.o≤64 then isKZ pool x.n 5 5 else if x.o=65∨x.o=68∨x.o=76∨x.o=77 then isKZ pool x.n 4 4
 else if 79≤x.o∧x.o≤82 then isKZ pool x.n 6 6 else true
theorem ZgU {lo:Int} {x:In} (h:x.o=6∨x.o=9):ZhB lo x=decide (x.n+1<lo):=by unfold ZhB;rw [if_pos h]
theorem Zio {lo:Int} {x:In} (h:x.o=5∨x.o=7∨x.o=8∨x.o=10∨x.o=11):ZhB lo x=decide (x.n<lo):=by unfold ZhB;rw [if_neg (by omega),if_pos (by omega)]
theorem Zbg {lo:Int} {x:In} (h:x.o<5∨11<x.o):ZhB lo x=true:=by unfold ZhB;rw [if_neg (by omega),if_neg (by omega)]
theorem Ziz {pool:List Cst} {x:In} (h:x.o=3):ZeT pool x=isKZ pool x.n 2 3:=by unfold ZeT;rw [if_pos h]
theorem Zje {pool:List Cst} {x:In} (h:x.o=61∨x.o=62∨x.o=63∨x.o=64):ZeT pool x=isKZ pool x.n 5 5:=by unfold ZeT;rw [if_neg (by omega),if_pos (by omega)]
theorem ZiK {pool:List Cst} {x:In} (h:x.o=65∨x.o=68∨x.o=76∨x.o=77):ZeT pool x=isKZ pool x.n 4 4:=by unfold ZeT;rw [if_neg (by omega),if_neg (by omega),if_pos h]
theorem Zii {pool:List Cst} {x:In} (h:x.o=79∨x.o=80∨x.o=81∨x.o=82):ZeT pool x=isKZ pool x.n 6 6:=by unfold ZeT;rw [if_neg (by omega),if_neg (by omega),if_neg (by omega),if_pos (by omega)]
theorem ZcJ {pool:List Cst} {x:In} (h:x.o≠3∧¬ (61≤x.o∧x.o≤64)∧x.o≠65∧x.o≠68∧x.o≠76∧x.o≠77∧¬ (79≤x.o∧x.o≤82)):ZeT pool x=true:=by
 unfold ZeT;rw [if_neg (by omega),if_neg (by omega),if_neg (by omega),if_neg (by omega)]
theorem Zew (w:World) (X:Obj) (T:TypeId) (a:Int) (ha:(Lit.int .i64 a).wf=true):Row ((w.alloc X).alloc (.cells #[.int .i64 a] T)) .i64 (.slice (some ⟨w.heap.size+1,0,none⟩) 1 1) [a]:=by
 have h:=Row.built (w.alloc X) .i64 T [a] (fun y hy=>by rw [List.mem_singleton.1 hy];exact ha) (by simp)
 rwa [show (w.alloc X).heap.size=w.heap.size+1 by simp] at h
theorem Zph (w:World) (X:Obj) (T:TypeId) (a b:Int) (ha:(Lit.int .i64 a).wf=true) (hb:(Lit.int .i64 b).wf=true):Row ((w.alloc X).alloc (.cells #[.int .i64 a,.int .i64 b] T)) .i64 (.slice (some ⟨w.heap.size+1,0,none⟩) 2 2) [a,b]:=by
 have h:=Row.built (w.alloc X) .i64 T [a,b] (fun y hy=>by rcases List.mem_cons.1 hy with rfl | hy;exact ha;rw [List.mem_singleton.1 hy];exact hb) (by simp)
 rwa [show (w.alloc X).heap.size=w.heap.size+1 by simp] at h
theorem Zn9 (lo:Int) (pool:List Cst) (x:In):fitZ lo pool x=(ZhB lo x&&ZeT pool x):=by
 rcases ZdK x.o with h | h | h | h | h | h | h
 ·rw [ZiL h,ZgU h,ZcJ (by omega),Bool.and_true]
 ·rw [ZkE h,Zio h,ZcJ (by omega),Bool.and_true]
 ·rw [ZkS h,Zbg (by omega),Ziz h,Bool.true_and]
 ·rw [Zko h,Zbg (by omega),Zje h,Bool.true_and]
 ·rw [Zk5 h,Zbg (by omega),ZiK h,Bool.true_and]
 ·rw [Zkr h,Zbg (by omega),Zii h,Bool.true_and]
 ·rw [ZkI h,Zbg (by omega),ZcJ (by omega),Bool.true_and]
set_option maxRecDepth 100000 in
theorem Zia (x:In) (v1 v2:Value) (lo:Int) (w:World) (h1:Row w .i64 v1 x.to) (h2:Row w .i64 v2 x.ks) (hm:mayI x=true) :
 Calls Tryz.prog 199 #[.agg (x.vals v1 v2),.int .i64 lo] w fun e w'=>e=.returned (.bool (ZhB lo x))∧Ext w w':=by
 obtain⟨a,o,n,m,tt,ks⟩:=x
 obtain⟨A1,k1,rfl,-⟩:=h1
 obtain⟨A2,k2,rfl,-⟩:=h2
 simp only at *
 unfold In.vals
 simp only
 rcases ZdK o with H0 | H1 | H2 | H3 | H4 | H5 | HG
 ·rw [ZgU (x:=⟨a,o,n,m,tt,ks⟩) H0]
  have hn:=Zod (x:=⟨a,o,n,m,tt,ks⟩) hm H0
  have hw:IntKind.i64.wrap (n+1)=n+1:=by rw [IntKind.wrap_i64];simp only at hn;omega
  clear hm
  rcases H0 with rfl | rfl
  all_goals
   go_enter Tryz.func199,Tryz.ntmps199
   go_wp2
   go_ret
   exact⟨rfl,(Ext.refl w).alloc _⟩
 ·rw [Zio (x:=⟨a,o,n,m,tt,ks⟩) H1]
  clear hm
  rcases H1 with rfl | rfl | rfl | rfl | rfl
  all_goals
   go_enter Tryz.func199,Tryz.ntmps199
   go_wp2
   go_ret
   exact⟨rfl,(Ext.refl w).alloc _⟩
 ·rw [Zbg (x:=⟨a,o,n,m,tt,ks⟩) (by simp only;omega)]
  clear hm
  subst H2
  all_goals
   go_enter Tryz.func199,Tryz.ntmps199
   go_wp2
   go_ret
   exact⟨rfl,(Ext.refl w).alloc _⟩
 ·rw [Zbg (x:=⟨a,o,n,m,tt,ks⟩) (by simp only;omega)]
  clear hm
  rcases H3 with rfl | rfl | rfl | rfl
  all_goals
   go_enter Tryz.func199,Tryz.ntmps199
   go_wp2
   go_ret
   exact⟨rfl,(Ext.refl w).alloc _⟩
 ·rw [Zbg (x:=⟨a,o,n,m,tt,ks⟩) (by simp only;omega)]
  clear hm
  rcases H4 with rfl | rfl | rfl | rfl
  all_goals
   go_enter Tryz.func199,Tryz.ntmps199
   go_wp2
   go_ret
   exact⟨rfl,(Ext.refl w).alloc _⟩
 ·rw [Zbg (x:=⟨a,o,n,m,tt,ks⟩) (by simp only;omega)]
  clear hm
  rcases H5 with rfl | rfl | rfl | rfl
  all_goals
   go_enter Tryz.func199,Tryz.ntmps199
   go_wp2
   go_ret
   exact⟨rfl,(Ext.refl w).alloc _⟩
 ·rw [Zbg (x:=⟨a,o,n,m,tt,ks⟩) (by simp only;omega)]
  clear hm
  have e5:(o==5)=false:=by simp;omega
  have e7:(o==7)=false:=by simp;omega
  have e8:(o==8)=false:=by simp;omega
  have e10:(o==10)=false:=by simp;omega
  have e11:(o==11)=false:=by simp;omega
  have e6:(o==6)=false:=by simp;omega
  have e9:(o==9)=false:=by simp;omega
  clear HG
  go_enter Tryz.func199,Tryz.ntmps199
  go_wp2
  go_ret
  exact⟨rfl,(Ext.refl w).alloc _⟩
set_option maxRecDepth 100000 in
theorem ZhU (x:In) (v1 v2:Value) (vp:Value) (pool:List Cst) (w:World) (h1:Row w .i64 v1 x.to) (h2:Row w .i64 v2 x.ks) (hp:ShC.Row w vp pool) (hm:mayI x=true) :
 Calls Tryz.prog 200 #[.agg (x.vals v1 v2),vp] w fun e w'=>e=.returned (.bool (ZeT pool x))∧Ext w w':=by
 obtain⟨a,o,n,m,tt,ks⟩:=x
 obtain⟨A1,k1,rfl,-⟩:=h1
 obtain⟨A2,k2,rfl,-⟩:=h2
 obtain⟨Ap,cp,rfl,-⟩:=hp.cut
 have HC:=Lh (fun vk l W (e:Ext w W) (hk:Row W .i64 vk l)=>Zgq _ pool n vk l W (hp.ext e) hk)
 simp only at *
 unfold In.vals
 simp only
 clear hp
 rcases ZdK o with H0 | H1 | H2 | H3 | H4 | H5 | HG
 ·rw [ZcJ (x:=⟨a,o,n,m,tt,ks⟩) (by simp only;omega)]
  clear hm
  rcases H0 with rfl | rfl
  all_goals
   go_enter Tryz.func200,Tryz.ntmps200
   go_wp2
   go_ret
   exact⟨rfl,(Ext.refl w).alloc _⟩
 ·rw [ZcJ (x:=⟨a,o,n,m,tt,ks⟩) (by simp only;omega)]
  clear hm
  rcases H1 with rfl | rfl | rfl | rfl | rfl
  all_goals
   go_enter Tryz.func200,Tryz.ntmps200
   go_wp2
   go_ret
   exact⟨rfl,(Ext.refl w).alloc _⟩
 ·rw [Ziz (x:=⟨a,o,n,m,tt,ks⟩) H2]
  clear hm
  subst H2
  all_goals
   have HK:=Lh (fun vk W (e:Ext w W) hk=>HC.out vk [2,3] W e hk)
   rw [Zpd] at HK
   go_enter Tryz.func200,Tryz.ntmps200
   go_wp2_with fail
   refine(HK.out (.slice (some ⟨w.heap.size+1,0,none⟩) 2 2) _ (((Ext.refl w).alloc _).alloc _) (Zph w _ _ 2 3 (by decide) (by decide))).mono ?_
   rintro e w1 ⟨rfl,rfl⟩
   go_wp2
   go_ret
   exact⟨rfl,((Ext.refl w).alloc _).alloc _⟩
 ·rw [Zje (x:=⟨a,o,n,m,tt,ks⟩) H3]
  clear hm
  rcases H3 with rfl | rfl | rfl | rfl
  all_goals
   have HK:=Lh (fun vk W (e:Ext w W) hk=>HC.out vk [5] W e hk)
   rw [Zfz] at HK
   go_enter Tryz.func200,Tryz.ntmps200
   go_wp2_with fail
   refine(HK.out (.slice (some ⟨w.heap.size+1,0,none⟩) 1 1) _ (((Ext.refl w).alloc _).alloc _) (Zew w _ _ 5 (by decide))).mono ?_
   rintro e w1 ⟨rfl,rfl⟩
   go_wp2
   go_ret
   exact⟨rfl,((Ext.refl w).alloc _).alloc _⟩
 ·rw [ZiK (x:=⟨a,o,n,m,tt,ks⟩) H4]
  clear hm
  rcases H4 with rfl | rfl | rfl | rfl
  all_goals
   have HK:=Lh (fun vk W (e:Ext w W) hk=>HC.out vk [4] W e hk)
   rw [Zfz] at HK
   go_enter Tryz.func200,Tryz.ntmps200
   go_wp2_with fail
   refine(HK.out (.slice (some ⟨w.heap.size+1,0,none⟩) 1 1) _ (((Ext.refl w).alloc _).alloc _) (Zew w _ _ 4 (by decide))).mono ?_
   rintro e w1 ⟨rfl,rfl⟩
   go_wp2
   go_ret
   exact⟨rfl,((Ext.refl w).alloc _).alloc _⟩
 ·rw [Zii (x:=⟨a,o,n,m,tt,ks⟩) H5]
  clear hm
  rcases H5 with rfl | rfl | rfl | rfl
  all_goals
   have HK:=Lh (fun vk W (e:Ext w W) hk=>HC.out vk [6] W e hk)
   rw [Zfz] at HK
   go_enter Tryz.func200,Tryz.ntmps200
   go_wp2_with fail
   refine(HK.out (.slice (some ⟨w.heap.size+1,0,none⟩) 1 1) _ (((Ext.refl w).alloc _).alloc _) (Zew w _ _ 6 (by decide))).mono ?_
   rintro e w1 ⟨rfl,rfl⟩
   go_wp2
   go_ret
   exact⟨rfl,((Ext.refl w).alloc _).alloc _⟩
 ·rw [ZcJ (x:=⟨a,o,n,m,tt,ks⟩) (by simp only;omega)]
  clear hm
  have e3:(o==3)=false:=by simp;omega
  have e61:(o==61)=false:=by simp;omega
  have e62:(o==62)=false:=by simp;omega
  have e63:(o==63)=false:=by simp;omega
  have e64:(o==64)=false:=by simp;omega
  have e65:(o==65)=false:=by simp;omega
  have e68:(o==68)=false:=by simp;omega
  have e76:(o==76)=false:=by simp;omega
  have e77:(o==77)=false:=by simp;omega
  have e79:(o==79)=false:=by simp;omega
  have e80:(o==80)=false:=by simp;omega
  have e81:(o==81)=false:=by simp;omega
  have e82:(o==82)=false:=by simp;omega
  clear HG
  go_enter Tryz.func200,Tryz.ntmps200
  go_wp2
  go_ret
  exact⟨rfl,(Ext.refl w).alloc _⟩
def One (w:World) (g:Nat) (u:Value):Prop:=w.cell? ⟨g,0,none⟩=some u∧g<w.heap.size
theorem One.ext {w w':World} {g:Nat} {u:Value} (h:One w g u) (e:Ext w w'):One w' g u:=⟨(e.cell (p:=⟨g,0,none⟩) h.2).trans h.1,Nat.lt_of_lt_of_le h.2 e.size⟩
theorem One.new (w:World) (u:Value) (T:TypeId):One (w.alloc (.cells #[u] T)) w.heap.size u:=by
 refine⟨?_,by simp⟩
 rw [cell_of_row _ w.heap.size 0 _ T (0,0) (heap_alloc_new w _)]
 rfl
theorem One.new2 (w:World) (X:Obj) (u:Value) (T:TypeId):One ((w.alloc X).alloc (.cells #[u] T)) (w.heap.size+1) u:=by
 have h:=One.new (w.alloc X) u T
 rwa [show (w.alloc X).heap.size=w.heap.size+1 by simp] at h
set_option maxRecDepth 100000 in
theorem Zmb (x:In) (v1 v2:Value) (gl gp:Nat) (lo:Int) (vp:Value) (pool:List Cst) (w:World) (h1:Row w .i64 v1 x.to) (h2:Row w .i64 v2 x.ks) (hl:One w gl (.int .i64 lo)) (hg:One w gp vp) (hp:ShC.Row w vp pool) (hm:mayI x=true) :
 Calls Tryz.prog 198 #[.agg (x.vals v1 v2),.pointer (some ⟨gl,0,none⟩),.pointer (some ⟨gp,0,none⟩)] w fun e w'=>e=.returned (.bool (fitZ lo pool x))∧Ext w w':=by
 have HL:=Lh (fun W (e:Ext w W)=>Zia x v1 v2 lo W (h1.ext e) (h2.ext e) hm)
 have HC:=Lh (fun W (e:Ext w W)=>ZhU x v1 v2 vp pool W (h1.ext e) (h2.ext e) (hp.ext e) hm)
 have HG:=Lh hg
 rw [Zn9]
 obtain⟨A1,k1,rfl,-⟩:=h1
 obtain⟨A2,k2,rfl,-⟩:=h2
 obtain⟨Ap,cp,rfl,-⟩:=hp.cut
 have HB:=Lh (fun W e=>Zd0 (w:=w) (W:=W) (x:=x) (v1:=.slice A1 x.to.length k1) (v2:=.slice A2 x.ks.length k2) e)
 obtain⟨d0,d1,d2,d3,d4,d5⟩:=HB.out _ (Ext.refl _)
 obtain⟨r1,hr1⟩:∃ r,ZhB lo x=r:=⟨_,rfl⟩
 obtain⟨r2,hr2⟩:∃ r,ZeT pool x=r:=⟨_,rfl⟩
 rw [hr1] at HL ⊢
 rw [hr2] at HC ⊢
 obtain⟨y0,hlt⟩:=hl
 have hne:¬ gl=w.heap.size:=by omega
 unfold In.vals at HL HC HB d0 d1 d2 d3 d4 d5 ⊢
 clear hr1 hr2 hm hp hg
 go_enter Tryz.func198,Tryz.ntmps198
 go_wp2_with fail
 refine(HL.out _ ((Ext.refl w).alloc _)).mono ?_
 rintro e w1 ⟨rfl,x1⟩
 have X1:=Lh x1
 clear x1 d0 d1 d2 d3 d4 d5 y0
 cases r1
 ·go_wp2
  go_ret
  exact⟨rfl,((Ext.refl w).alloc _).trans X1.out⟩
 ·obtain⟨d0,d1,d2,d3,d4,d5⟩:=HB.out _ X1.out
  have z0:=(HG.out.ext (((Ext.refl w).alloc _).trans X1.out)).1
  go_wp2_with fail
  refine(HC.out _ (((Ext.refl w).alloc _).trans X1.out)).mono ?_
  rintro e w2 ⟨rfl,x2⟩
  go_wp2
  go_ret
  exact⟨by simp,(((Ext.refl w).alloc _).trans X1.out).trans x2⟩
set_option maxRecDepth 100000 in
theorem ZmF (v:Value) (l:List In) (lo:Int) (vp:Value) (pool:List Cst) (w:World) (h:RowI w v l) (hp:ShC.Row w vp pool) (hm:∀ x∈l,mayI x=true) :
 Calls Tryz.prog 166 #[v,.int .i64 lo,vp] w fun e w'=>e=.returned (.tuple #[.int .i64 (Zaj (fitZ lo pool) l).1,.bool (Zaj (fitZ lo pool) l).2])∧Ext w w':=by
 have HF:=Lh (fun W (e:Ext w W) g1 g2 (o1:One W g1 (.int .i64 lo)) (o2:One W g2 vp)=>Ze6 198 #[.pointer (some ⟨g1,0,none⟩),.pointer (some ⟨g2,0,none⟩)] (fitZ lo pool) v l W (h.ext e) (fun args W=>Tryz.call198 args W)
  (fun W' e' x hx v1 v2 h1 h2=>Zmb x v1 v2 g1 g2 lo vp pool W' h1 h2 (o1.ext e') (o2.ext e') (hp.ext (e.trans e')) (hm x hx)))
 obtain⟨A,c,rfl,-⟩:=h.cut
 obtain⟨Ap,cp,rfl,-⟩:=hp.cut
 obtain⟨F,hF⟩:∃ F,Zaj (fitZ lo pool) l=F:=⟨_,rfl⟩
 rw [hF] at HF ⊢
 clear h hp hm hF
 go_enter Tryz.func166,Tryz.ntmps166
 go_wp2_with fail
 refine(HF.out _ (((Ext.refl w).alloc _).alloc _) w.heap.size (w.heap.size+1) ((One.new w _ _).ext ((Ext.refl _).alloc _)) (One.new2 w _ _ _)).mono ?_
 rintro e w2 ⟨rfl,x2⟩
 go_wp2
 go_ret2
 exact⟨rfl,(((Ext.refl w).alloc _).alloc _).trans x2⟩
set_option maxRecDepth 100000 in
theorem Zi6 (m:Me) (va vc vh:Value) (w:World) (h:MeAt w m va vc vh) :
 Calls Tryz.prog 167 #[.agg (m.vals va vc vh)] w fun e w'=>e=.returned (.bool (ZiF m))∧Ext w w':=by
 obtain⟨Aa,ca,rfl,-⟩:=h.1.cut
 obtain⟨Ac,cc,rfl,-⟩:=id h.2.1
 obtain⟨Ah,ch,rfl,-⟩:=h.2.2.cut
 unfold Me.vals ZiF
 clear h
 by_cases h1:0≤m.sk
 ·by_cases h2:m.sk≤255
  ·by_cases h3:0≤m.lo
   ·rw [show decide (0≤m.sk∧m.sk≤255∧0≤m.lo∧m.lo≤255)=decide (m.lo≤255) by simp [h1,h2,h3]]
    go_enter Tryz.func167,Tryz.ntmps167
    go_wp2
    go_ret
    exact⟨rfl,(Ext.refl w).alloc _⟩
   ·rw [show decide (0≤m.sk∧m.sk≤255∧0≤m.lo∧m.lo≤255)=false by simp [h3]]
    go_enter Tryz.func167,Tryz.ntmps167
    go_wp2
    go_ret
    exact⟨rfl,(Ext.refl w).alloc _⟩
  ·rw [show decide (0≤m.sk∧m.sk≤255∧0≤m.lo∧m.lo≤255)=false by simp [h2]]
   go_enter Tryz.func167,Tryz.ntmps167
   go_wp2
   go_ret
   exact⟨rfl,(Ext.refl w).alloc _⟩
 ·rw [show decide (0≤m.sk∧m.sk≤255∧0≤m.lo∧m.lo≤255)=false by simp [h1]]
  go_enter Tryz.func167,Tryz.ntmps167
  go_wp2
  go_ret
  exact⟨rfl,(Ext.refl w).alloc _⟩
end Go.Proofs.YtclamhhgldkhnaaGreatDoor
