/- Several texts of this proof, one behind the other. -/
import Derived.Test.YtclamhhgldkhnaaGreatDoorZwAA
import Derived.Test.YtclamhhgldkhnaaGreatDoorZwY
import Derived.Test.YtclamhhgldkhnaaGreatDoorZwL
import Derived.Deep.RegionHeld3
import Derived.BigQuiet
namespace Go.Proofs.YtclamhhgldkhnaaGreatDoor
open Go.RowKit
set_option linter.unusedVariables false
set_option maxHeartbeats 16000000
set_option maxRecDepth 100000 in
theorem Znh (h:Hd) (f g gm gp:Nat) (l:List In) (m:Me) (va vc vh vp:Value) (pool:List Cst) (w:World) (hf:FB w f g) (hg:BG w g l) (ha:Zc4 l) (hm:MeB w gm m va vc vh) (hmr:MeAt w m va vc vh) (hpv:One w gp vp) (hp:ShC.Row w vp pool) :
 Calls Tryz.prog 202 #[.agg h.vals,.pointer (some ⟨f,0,none⟩),.pointer (some ⟨gm,0,none⟩),.pointer (some ⟨gp,0,none⟩)] w fun e w'=>e=.returned (.bool (ZdN l m.code.length pool h))∧Ext w w':=by
 obtain⟨xf,xt,xa,xc⟩:=h
 have HB:=Lh (fun t=>Zg2 t g l (w.alloc (.cells #[.int .i64 xf,.int .i64 xt,.int .i64 xa,.int .i64 xc] 53)) (hg.ext ((Ext.refl w).alloc _)) ha)
 have HC:=Lh (fun vk W (e:Ext w W) (hk:Row W .i64 vk [4])=>Zgq vp pool xc vk [4] W (hp.ext e) hk)
 have hb1:=HB.out xf
 have hb2:=HB.out xa
 have hb3:=HB.out xt
 rw [Zfz] at HC
 obtain⟨r1,hr1⟩:∃ r,ZaQ l xf=r:=⟨_,rfl⟩
 obtain⟨r2,hr2⟩:∃ r,ZaQ l xa=r:=⟨_,rfl⟩
 obtain⟨r3,hr3⟩:∃ r,ZaQ l xt=r:=⟨_,rfl⟩
 obtain⟨r4,hr4⟩:∃ r,isKZ pool xc 4 4=r:=⟨_,rfl⟩
 obtain⟨n,hn⟩:∃ n,m.code.length=n:=⟨_,rfl⟩
 obtain⟨Z,hZ⟩:∃ Z,ZdN l m.code.length pool ⟨xf,xt,xa,xc⟩=Z:=⟨_,rfl⟩
 have HZ:Hid (Z=(r1&&(r2&&(decide (xf<xt)&&((r3 || decide (xt=(n:Int)))&&(decide (xc=0) || r4)))))):=Lh (by rw [← hZ];unfold ZdN;rw [hr1,hr2,hr3,hr4,hn])
 rw [hr1] at hb1
 rw [hr2] at hb2
 rw [hr3] at hb3
 rw [hr4] at HC
 rw [hZ]
 have H1:=Lh hb1
 have H2:=Lh hb2
 have H3:=Lh hb3
 obtain⟨Ac,cc,rfl,-⟩:=id hmr.2.1
 obtain⟨Ap,cp,rfl,-⟩:=hp.cut
 have yf:=hf.cell
 have ym:=hm.cells.2.2.2.2.2.2.2.2.1
 have yp:=hpv.1
 have lf:=Zab hf
 have lm:=hm.lt
 have lp:=hpv.2
 have nf:¬ f=w.heap.size:=by omega
 have nm:¬ gm=w.heap.size:=by omega
 have np:¬ gp=w.heap.size:=by omega
 rw [hn] at ym
 unfold Hd.vals
 clear hb1 hb2 hb3 hr1 hr2 hr3 hr4 hn hZ hf hg ha hm hmr hpv hp HB
 go_enter Tryz.func202,Tryz.ntmps202
 go_wp2_with fail
 refine H1.out.mono ?_
 rintro e w1 ⟨rfl,rfl⟩
 cases r1
 ·go_wp2
  go_ret
  exact⟨by rw [HZ.out];rfl,(Ext.refl w).alloc _⟩
 go_wp2_with fail
 refine H2.out.mono ?_
 rintro e w1 ⟨rfl,rfl⟩
 cases r2
 ·go_wp2
  go_ret
  exact⟨by rw [HZ.out];rfl,(Ext.refl w).alloc _⟩
 by_cases hlt:xf<xt
 case neg =>
  rw [decide_eq_false hlt] at HZ
  go_wp2
  go_ret
  exact⟨by rw [HZ.out];rfl,(Ext.refl w).alloc _⟩
 rw [decide_eq_true hlt] at HZ
 go_wp2_with fail
 refine H3.out.mono ?_
 rintro e w1 ⟨rfl,rfl⟩
 have last:∀ (s:Bool),r3=s→(s=true∨(s=false∧(xt==(n:Int))=true))→(r3 || decide (xt=(n:Int)))=true:=by
  rintro s rfl (h | ⟨h,h2⟩)
  ·rw [h];rfl
  ·rw [h];simpa using h2
 cases r3
 ·by_cases htn:xt=(n:Int)
  ·have bt:(xt==(n:Int))=true:=by simpa using htn
   rw [decide_eq_true htn] at HZ
   clear last htn
   by_cases hc:xc=0
   ·have bc:(xc==0)=true:=by simpa using hc
    rw [decide_eq_true hc] at HZ
    clear hc
    go_wp2
    go_ret
    exact⟨by rw [HZ.out];rfl,(Ext.refl w).alloc _⟩
   ·have bc:(xc==0)=false:=by simpa using hc
    rw [decide_eq_false hc] at HZ
    clear hc
    go_wp2_with fail
    refine(HC.out (.slice (some ⟨w.heap.size+1,0,none⟩) 1 1) _ (((Ext.refl w).alloc _).alloc _) (Zew w _ _ 4 (by decide))).mono ?_
    rintro e w1 ⟨rfl,rfl⟩
    go_wp2
    go_ret
    exact⟨by rw [HZ.out];simp,((Ext.refl w).alloc _).alloc _⟩
  ·have bt:(xt==(n:Int))=false:=by simpa using htn
   rw [decide_eq_false htn] at HZ
   clear last htn
   go_wp2
   go_ret
   exact⟨by rw [HZ.out];simp,(Ext.refl w).alloc _⟩
 ·clear last
  by_cases hc:xc=0
  ·have bc:(xc==0)=true:=by simpa using hc
   rw [decide_eq_true hc] at HZ
   clear hc
   go_wp2
   go_ret
   exact⟨by rw [HZ.out];simp,(Ext.refl w).alloc _⟩
  ·have bc:(xc==0)=false:=by simpa using hc
   rw [decide_eq_false hc] at HZ
   clear hc
   go_wp2_with fail
   refine(HC.out (.slice (some ⟨w.heap.size+1,0,none⟩) 1 1) _ (((Ext.refl w).alloc _).alloc _) (Zew w _ _ 4 (by decide))).mono ?_
   rintro e w1 ⟨rfl,rfl⟩
   go_wp2
   go_ret
   exact⟨by rw [HZ.out];simp,((Ext.refl w).alloc _).alloc _⟩
def FH (w:World) (f2 f gm gp:Nat):Prop:=One w f2 (.func (.func 202) #[] #[.pointer (some ⟨f,0,none⟩),.pointer (some ⟨gm,0,none⟩),.pointer (some ⟨gp,0,none⟩)])
set_option maxRecDepth 100000 in
theorem Zm9 (h:Hd) (f2 f gm gp:Nat) (r:Bool) (w:World) (hf:FH w f2 f gm gp)
 (hc:∀ W,Ext w W→Calls Tryz.prog 202 #[.agg h.vals,.pointer (some ⟨f,0,none⟩),.pointer (some ⟨gm,0,none⟩),.pointer (some ⟨gp,0,none⟩)] W fun e w'=>e=.returned (.bool r)∧Ext W w') :
 Calls Tryz.prog 205 #[.agg h.vals,.pointer (some ⟨f2,0,none⟩)] w fun e w'=>e=.returned (.bool (!r))∧Ext w w':=by
 have HC:=Lh hc
 have y0:=hf.1
 have l0:=hf.2
 have n0:¬ f2=w.heap.size:=by omega
 unfold Hd.vals at HC ⊢
 clear hf hc
 go_enter Tryz.func205,Tryz.ntmps205
 go_wp2_with fail
 refine(HC.out _ ((Ext.refl w).alloc _)).mono ?_
 rintro e w1 ⟨rfl,x1⟩
 go_wp2
 go_ret
 exact⟨rfl,((Ext.refl w).alloc _).trans x1⟩
set_option maxRecDepth 100000 in
theorem Zlx (fid:FuncId) (caps:Array Value) (p:Hd→Bool) (v:Value) (l:List Hd) (w:World) (h:ShH.Row w v l)
 (hc:∀ args W,(callFunc fid args).run Tryz.prog W=.ok (.enter fid args) W)
 (hp:∀ W,Ext w W→∀ x∈l,Calls Tryz.prog fid (#[.agg x.vals]++caps) W fun e w'=>e=.returned (.bool (p x))∧Ext W w') :
 Calls Tryz.prog 236 #[v,.func (.func fid) #[] caps] w fun e w'=>e=.returned (.int .i64 (idxP p l 0))∧Ext w w':=by
 have H:=Lh h
 obtain⟨A,c,rfl,hc0,hm,-⟩:=h.cut
 unfold maxLen at hm
 obtain⟨n,hn⟩:∃ n,n=l.length:=⟨_,rfl⟩
 rw [← hn] at hc0 H ⊢
 have Hn:=Lh hn
 have HP:=Lh hp
 obtain⟨F,hF⟩:∃ F,idxP p l 0=F:=⟨_,rfl⟩
 have HF:=Lh hF
 rw [hF]
 clear hn h hp hF
 go_enter Tryz.func236,Tryz.ntmps236
 go_wp2
 go_loopw [8] (fun i wr=>∃ (k:Nat),i=.int .i64 k∧k≤n∧Hid (F=idxP p (l.drop k) k)∧Hid (Ext w wr)) (fun i _=>n-(intOf i).toNat)
 case atStart=>exact⟨0,rfl,by omega,Lh HF.out.symm,Lh (Ext.refl w)⟩
 case round =>
  obtain⟨k,rfl,hk,HQ,HX⟩:=hrel
  by_cases hlt:k<n
  ·have hkl:k<l.length:=by have:=Hn.out;omega
   obtain⟨b,o,rfl,hat⟩:=Zde H.out (by omega)
   obtain⟨y0,y1,y2,y3⟩:=hat _ HX.out k hkl
   have HC:=Lh (HP.out wr HX.out _ (Zli hkl))
   have hN:p (gh l k)=false→F=idxP p (l.drop (k+1)) (k+1):=fun e=>HQ.out.trans (Zcu (ZjV hkl) e)
   have hH:p (gh l k)=true→F=k:=fun e=>HQ.out.trans (ZcC (ZjV hkl) e)
   obtain⟨x,hx⟩:∃ x,gh l k=x:=⟨_,rfl⟩
   rw [hx] at y0 y1 y2 y3 HC hN hH
   unfold Hd.vals at HC
   obtain⟨r,hr⟩:∃ r,p x=r:=⟨_,rfl⟩
   rw [hr] at HC hN hH
   have HN:=Lh hN
   have HH:=Lh hH
   clear hat hx hkl hr hN hH
   go_wp2_with fail
   refine HC.out.mono ?_
   rintro e w1 ⟨rfl,x1⟩
   have X1:=Lh x1
   clear x1
   cases r
   ·have HE:=Lh (HN.out rfl)
    go_wp2_with fail
    go_roundw
    case rel=>exact⟨k+1,by go_num,by omega,HE,Lh (HX.out.trans X1.out)⟩
    case measure=>simp [intOf];omega
   ·have HE:=Lh (HH.out rfl)
    go_wp2
    go_ret
    exact⟨by rw [HE.out];rfl,HX.out.trans X1.out⟩
  ·have HE:=Lh (show F=-1 by rw [HQ.out,List.drop_of_length_le (by have:=Hn.out;omega)];rfl)
   go_wp2
   go_ret
   exact⟨by rw [HE.out];rfl,HX.out⟩
set_option maxRecDepth 100000 in
theorem ZhN (fid:FuncId) (caps:Array Value) (p:Hd→Bool) (v:Value) (l:List Hd) (w:World) (h:ShH.Row w v l)
 (hc:∀ args W,(callFunc fid args).run Tryz.prog W=.ok (.enter fid args) W)
 (hp:∀ W,Ext w W→∀ x∈l,Calls Tryz.prog fid (#[.agg x.vals]++caps) W fun e w'=>e=.returned (.bool (p x))∧Ext W w') :
 Calls Tryz.prog 204 #[v,.func (.func fid) #[] caps] w fun e w'=>e=.returned (.bool (l.any p))∧Ext w w':=by
 have HI:=Lh (Zlx fid caps p v l w h hc hp)
 rw [← ZdE (p:=p) (l:=l) (k:=0)]
 obtain⟨A,c,rfl,-⟩:=h.cut
 obtain⟨R,hR⟩:∃ R,idxP p l 0=R:=⟨_,rfl⟩
 rw [hR] at HI ⊢
 clear hR h hp
 go_enter Tryz.func204,Tryz.ntmps204
 go_wp2_with fail
 refine HI.out.mono ?_
 rintro e w1 ⟨rfl,x1⟩
 go_wp2
 go_ret
 exact⟨rfl,x1⟩
theorem ZpC {s:List Hd} {p:Hd→Bool}:(!s.any fun t=>!p t)=s.all p:=by
 induction s with
 | nil=>rfl
 | cons x s ih=>rw [List.any_cons,List.all_cons,← ih];cases p x <;> simp
set_option maxRecDepth 100000 in
theorem ZfV (v:Value) (l:List In) (m:Me) (va vc vh vp:Value) (pool:List Cst) (w:World) (h:RowI w v l) (ha:Zc4 l) (hm:MeAt w m va vc vh) (hp:ShC.Row w vp pool) :
 Calls Tryz.prog 168 #[.agg (m.vals va vc vh),v,vp] w fun e w'=>e=.returned (.bool (Zcv l m pool))∧Ext w w':=by
 have HM:=Lh hm
 obtain⟨A,c,rfl,-⟩:=h.cut
 obtain⟨Aa,ca,rfl,-⟩:=hm.1.cut
 obtain⟨Ac,cc,rfl,-⟩:=id hm.2.1
 obtain⟨Ah,ch,rfl,hch,hmh,-⟩:=hm.2.2.cut
 unfold maxLen at hmh
 obtain⟨Ap,cp,rfl,-⟩:=hp.cut
 have HB:=Lh (fun W (e:Ext w W)=>ZdR _ l W (h.ext e) ha)
 have HMB:=Lh (fun W (e:Ext (w.alloc (.cells (m.vals (.slice Aa m.args.length ca) (.slice Ac m.code.length cc) (.slice Ah m.hs.length ch)) 47)) W)=>(MeB.new w m (.slice Aa m.args.length ca) (.slice Ac m.code.length cc) (.slice Ah m.hs.length ch)).ext e)
 obtain⟨q,hq⟩:∃ q,m.hs.length=q:=⟨_,rfl⟩
 by_cases hbig:256<q
 ·rw [show Zcv l m pool=false by unfold Zcv;rw [decide_eq_false (by omega)];simp]
  rw [hq]
  unfold Me.vals
  clear hm hp h ha hq
  go_enter Tryz.func168,Tryz.ntmps168
  go_wp2
  go_ret
  exact⟨rfl,((Ext.refl w).alloc _).alloc _⟩
 ·have HF:=Lh (fun W (e:Ext w W) f2 f g gm gp (h2:FH W f2 f gm gp) (hf:FB W f g) (hg:BG W g l) (hb:MeB W gm m (.slice Aa m.args.length ca) (.slice Ac m.code.length cc) (.slice Ah m.hs.length ch)) (ho:One W gp (.slice Ap pool.length cp)) =>
   ZhN 205 #[.pointer (some ⟨f2,0,none⟩)] (fun x=>!ZdN l m.code.length pool x) _ m.hs W (HM.out.2.2.ext e) (fun args W=>Tryz.call205 args W)
   (fun W' e' x hx=>Zm9 x f2 f gm gp _ W' (One.ext h2 e') (fun W2 e2=>Znh x f g gm gp l m _ _ _ _ pool W2 (hf.ext (e'.trans e2)) (hg.ext (e'.trans e2)) ha (hb.ext (e'.trans e2)) (HM.out.ext (e.trans (e'.trans e2))) (ho.ext (e'.trans e2)) (hp.ext (e.trans (e'.trans e2))))))
  rw [show Zcv l m pool=!(m.hs.any fun x=>!ZdN l m.code.length pool x) by unfold Zcv;rw [decide_eq_true (show m.hs.length≤256 by omega),Bool.and_true,ZpC]]
  obtain⟨r,hr⟩:∃ r,(m.hs.any fun x=>!ZdN l m.code.length pool x)=r:=⟨_,rfl⟩
  rw [hr] at HF ⊢
  rw [hq] at HF HMB ⊢
  unfold Me.vals at HMB ⊢
  clear hm hp h ha hq hr HM
  go_enter Tryz.func168,Tryz.ntmps168
  go_wp2_with fail
  refine(HB.out _ (((Ext.refl w).alloc _).alloc _)).mono ?_
  rintro e w1 ⟨g,rfl,hg,hs,x1⟩
  have X1:=Lh x1
  have HG:=Lh hg
  clear hg x1
  have hmb:=HMB.out _ (((Ext.refl _).alloc _).trans X1.out)
  have y9:=hmb.cells.2.2.2.2.2.2.2.2.2
  have hlt:=hmb.lt
  have n1:¬ w.heap.size=w1.heap.size:=by omega
  have n2:¬ w.heap.size=w1.heap.size+1:=by omega
  have HM2:=Lh hmb
  clear hmb
  go_wp2_with fail
  refine(HF.out _ ((((((Ext.refl w).alloc _).alloc _).trans X1.out).alloc _).alloc _) (w1.heap.size+1) w1.heap.size g w.heap.size (w.heap.size+1) (One.new2 w1 _ _ _) ((heap_alloc_old _ _ (by simp)).trans (heap_alloc_new w1 _)) (HG.out.ext (((Ext.refl w1).alloc _).alloc _)) (HM2.out.ext (((Ext.refl w1).alloc _).alloc _)) ((One.new2 w _ _ _).ext ((X1.out.alloc _).alloc _))).mono ?_
  rintro e w2 ⟨rfl,x2⟩
  go_wp2
  go_ret
  exact⟨rfl,((((((Ext.refl w).alloc _).alloc _).trans X1.out).alloc _).alloc _).trans x2⟩
theorem ZoL {w W:World} {f t a c:Int} (e:Ext (w.alloc (.cells #[.int .i64 f,.int .i64 t,.int .i64 a,.int .i64 c] 53)) W) :
 W.cell? ⟨w.heap.size,0,none⟩=some (.int .i64 f)∧W.cell? ⟨w.heap.size,1,none⟩=some (.int .i64 t)∧W.cell? ⟨w.heap.size,2,none⟩=some (.int .i64 a)∧W.cell? ⟨w.heap.size,3,none⟩=some (.int .i64 c):=by
 have hb:=(e.block w.heap.size (by simp)).trans (heap_alloc_new w (.cells #[.int .i64 f,.int .i64 t,.int .i64 a,.int .i64 c] 53))
 refine⟨?_,?_,?_,?_⟩ <;> rw [cell_of_row W w.heap.size _ _ _ (0,0) hb] <;> rfl
theorem Zoj {l:List Hd} {p:Hd→Bool} {k:Nat} (h:k<l.length) (ha:(l.take k).all p=true) (hp:p (gh l k)=true):(l.take (k+1)).all p=true:=by
 rw [List.take_succ_eq_append_getElem h,List.all_append,ha,← Zlb h]
 simp [hp]
theorem Zrh {l:List Hd} {p:Hd→Bool} {k:Nat} (h:k<l.length) (hp:p (gh l k)=false):l.all p=false:=by
 rw [List.all_eq_false]
 exact⟨_,Zli h,by rw [hp];simp⟩
set_option maxRecDepth 100000 in
theorem Zeg (v:Value) (l:List In) (m:Me) (va vc vh vp:Value) (pool:List Cst) (w:World) (h:RowI w v l) (hm:MeAt w m va vc vh) (hp:ShC.Row w vp pool) :
 Calls Tryz.prog 137 #[v,.agg (m.vals va vc vh),vp] w fun e w'=>e=.returned (.bool (Zcv l m pool))∧Ext w w':=by
 have HM:=Lh hm
 have HB:=Lh (fun t W (e:Ext w W)=>ZeE v l t W (h.ext e))
 have HC:=Lh (fun c W (e:Ext w W)=>ZdU vp pool c 4 4 W (hp.ext e))
 obtain⟨A,c,rfl,-⟩:=h.cut
 obtain⟨Aa,ca,rfl,-⟩:=hm.1.cut
 obtain⟨Ac,cc,rfl,-⟩:=id hm.2.1
 obtain⟨Ah,ch,rfl,hch,hmh,-⟩:=hm.2.2.cut
 unfold maxLen at hmh
 obtain⟨Ap,cp,rfl,-⟩:=hp.cut
 have HMB:=Lh (fun W (e:Ext (w.alloc (.cells (m.vals (.slice Aa m.args.length ca) (.slice Ac m.code.length cc) (.slice Ah m.hs.length ch)) 47)) W)=>(MeB.new w m (.slice Aa m.args.length ca) (.slice Ac m.code.length cc) (.slice Ah m.hs.length ch)).ext e)
 obtain⟨n,hn⟩:∃ n,m.hs.length=n:=⟨_,rfl⟩
 have Hn:=Lh hn
 obtain⟨len,hlen⟩:∃ n,m.code.length=n:=⟨_,rfl⟩
 obtain⟨Z,hZ⟩:∃ Z,Zcv l m pool=Z:=⟨_,rfl⟩
 have HZ:Hid (Z=(m.hs.all (ZdN l len pool)&&decide (n≤256))):=Lh (by rw [← hZ,← hn,← hlen];rfl)
 rw [hZ]
 rw [hn] at HM HMB hch ⊢
 rw [hlen] at HMB ⊢
 unfold Me.vals at HMB ⊢
 clear hm hp h hn hlen hZ
 go_enter Tryz.func137,Tryz.ntmps137
 go_wp2
 go_loopw [7] (fun i wr=>∃ (k:Nat),i=.int .i64 k∧k≤n∧Hid ((m.hs.take k).all (ZdN l len pool)=true)∧Hid (Ext (w.alloc (.cells #[.bool m.st,.bool m.ab,.string m.nm,.int .i64 m.ret.k,.string m.ret.s,.slice Aa m.args.length ca,.int .i64 m.sk,.int .i64 m.lo,.slice Ac len cc,.slice Ah n ch] 47)) wr)) (fun i _=>n-(intOf i).toNat)
 case atStart=>exact⟨0,rfl,by omega,Lh rfl,Lh (Ext.refl _)⟩
 case round =>
  obtain⟨k,rfl,hk,HT,HX⟩:=hrel
  have hmb:=(HMB.out _ HX.out).cells
  have y9:=hmb.2.2.2.2.2.2.2.2.2
  clear hmb
  by_cases hlt:k<n
  ·have hkl:k<m.hs.length:=by have:=Hn.out;omega
   have X0:Ext w wr:=((Ext.refl w).alloc _).trans HX.out
   have EX:=Lh X0
   obtain⟨b,o,rfl,hat⟩:=Zde (show ShH.Row w (.slice Ah n ch) m.hs from HM.out.2.2) (by omega)
   obtain⟨z0,z1,z2,z3⟩:=hat _ X0 k hkl
   have hN:=fun(e:ZdN l len pool (gh m.hs k)=true)=>Zoj hkl HT.out e
   have hH:=fun(e:ZdN l len pool (gh m.hs k)=false)=>Zrh hkl e
   obtain⟨x,hx⟩:∃ x,gh m.hs k=x:=⟨_,rfl⟩
   rw [hx] at z0 z1 z2 z3 hN hH
   obtain⟨xf,xt,xa,xc⟩:=x
   simp only at z0 z1 z2 z3
   have HD:=Lh (fun W e=>ZoL (w:=wr) (W:=W) (f:=xf) (t:=xt) (a:=xa) (c:=xc) e)
   have HE9:=Lh (fun W (e:Ext (wr.alloc (.cells #[.int .i64 xf,.int .i64 xt,.int .i64 xa,.int .i64 xc] 53)) W)=>(HMB.out _ (HX.out.trans (((Ext.refl wr).alloc _).trans e))).cells.2.2.2.2.2.2.2.2.1)
   have HEW:=Lh (fun W (e:Ext (wr.alloc (.cells #[.int .i64 xf,.int .i64 xt,.int .i64 xa,.int .i64 xc] 53)) W)=>X0.trans (((Ext.refl wr).alloc _).trans e))
   have HEX:=Lh (fun W (e:Ext (wr.alloc (.cells #[.int .i64 xf,.int .i64 xt,.int .i64 xa,.int .i64 xc] 53)) W)=>HX.out.trans (((Ext.refl wr).alloc _).trans e))
   have hb1:=HB.out xf
   have hb2:=HB.out xa
   have hb3:=HB.out xt
   have hc4:=HC.out xc
   obtain⟨r1,hr1⟩:∃ r,ZaQ l xf=r:=⟨_,rfl⟩
   obtain⟨r2,hr2⟩:∃ r,ZaQ l xa=r:=⟨_,rfl⟩
   obtain⟨r3,hr3⟩:∃ r,ZaQ l xt=r:=⟨_,rfl⟩
   obtain⟨r4,hr4⟩:∃ r,isKZ pool xc 4 4=r:=⟨_,rfl⟩
   have HP:Hid (ZdN l len pool ⟨xf,xt,xa,xc⟩=(r1&&(r2&&(decide (xf<xt)&&((r3 || decide (xt=(len:Int)))&&(decide (xc=0) || r4)))))):=Lh (by unfold ZdN;rw [hr1,hr2,hr3,hr4])
   rw [hr1] at hb1
   rw [hr2] at hb2
   rw [hr3] at hb3
   rw [hr4] at hc4
   have H1:=Lh hb1
   have H2:=Lh hb2
   have H3:=Lh hb3
   have H4:=Lh hc4
   have HN:=Lh hN
   have HH:=Lh hH
   have HQ:Hid (ZdN l len pool ⟨xf,xt,xa,xc⟩=false→Z=false):=Lh (fun e=>by rw [HZ.out,HH.out e];rfl)
   have hk0:=HX.out.size
   clear hb1 hb2 hb3 hc4 hr1 hr2 hr3 hr4 hat hx hkl hN hH X0
   go_wp2_with fail
   refine(H1.out _ (EX.out.alloc _)).mono ?_
   rintro e w1 ⟨rfl,x1⟩
   have X1:=Lh x1
   obtain⟨d0,d1,d2,d3⟩:=HD.out _ x1
   have d9:=HE9.out _ x1
   clear x1 z0 z1 z2 z3 y9
   cases r1
   ·have HF:=Lh (HQ.out (by rw [HP.out];rfl))
    go_wp2
    go_ret
    exact⟨by rw [HF.out];rfl,HEW.out _ X1.out⟩
   go_wp2_with fail
   refine(H2.out _ (HEW.out _ X1.out)).mono ?_
   rintro e w2 ⟨rfl,x2⟩
   have X2:=Lh (X1.out.trans x2)
   clear d0 d1 d2 d3 d9 x2
   obtain⟨d0,d1,d2,d3⟩:=HD.out _ X2.out
   have d9:=HE9.out _ X2.out
   cases r2
   ·have HF:=Lh (HQ.out (by rw [HP.out];rfl))
    go_wp2
    go_ret
    exact⟨by rw [HF.out];rfl,HEW.out _ X2.out⟩
   by_cases hxt:xf<xt
   case neg =>
    have HF:=Lh (HQ.out (by rw [HP.out,decide_eq_false hxt];rfl))
    go_wp2
    go_ret
    exact⟨by rw [HF.out];rfl,HEW.out _ X2.out⟩
   rw [decide_eq_true hxt] at HP
   go_wp2_with fail
   refine(H3.out _ (HEW.out _ X2.out)).mono ?_
   rintro e w3 ⟨rfl,x3⟩
   have X3:=Lh (X2.out.trans x3)
   clear d0 d1 d2 d3 d9 x3
   obtain⟨d0,d1,d2,d3⟩:=HD.out _ X3.out
   have d9:=HE9.out _ X3.out
   have hgo:r3=false∧(xt==(len:Int))=false∨(r3=true∨(xt==(len:Int))=true):=by
    cases r3
    ·cases hq:(xt==(len:Int))
     ·exact .inl ⟨rfl,rfl⟩
     ·exact .inr (.inr rfl)
    ·exact .inr (.inl rfl)
   rcases hgo with⟨rfl,hq⟩ | hgo
   ·have HF:=Lh (HQ.out (by
     rw [HP.out];have:¬ xt=(len:Int):=by simpa using hq
     simp [this]))
    have hq':(xt != (len:Int))=true:=by simpa using hq
    clear hq
    go_wp2
    go_ret
    exact⟨by rw [HF.out];rfl,HEW.out _ X3.out⟩
   have HP2:Hid (ZdN l len pool ⟨xf,xt,xa,xc⟩=(decide (xc=0) || r4)):=Lh (by
    rw [HP.out]
    rcases hgo with h | h
    ·rw [h];simp
    ·have:xt=(len:Int):=by simpa using h
     rw [this];simp)
   have hnx:r3=false→(xt != (len:Int))=false:=fun e=>by
    rcases hgo with h | h
    ·rw [e] at h;cases h
    ·simpa using h
   have HNX:=Lh hnx
   clear hgo hnx
   by_cases hc:xc=0
   ·have bc:(xc != 0)=false:=by simpa using hc
    have HF:=Lh (HN.out (by rw [HP2.out,decide_eq_true hc];rfl))
    clear hc
    cases r3
    ·have bt:=HNX.out rfl
     go_wp2_with fail
     go_roundw
     case rel=>exact⟨k+1,by go_num,by omega,HF,Lh (HEX.out _ X3.out)⟩
     case measure=>simp [intOf];omega
    ·go_wp2_with fail
     go_roundw
     case rel=>exact⟨k+1,by go_num,by omega,HF,Lh (HEX.out _ X3.out)⟩
     case measure=>simp [intOf];omega
   ·have bc:(xc != 0)=true:=by simpa using hc
    rw [decide_eq_false hc] at HP2
    clear hc
    cases r3
    ·have bt:=HNX.out rfl
     go_wp2_with fail
     refine(H4.out _ (HEW.out _ X3.out)).mono ?_
     rintro e w4 ⟨rfl,x4⟩
     have X4:=Lh (X3.out.trans x4)
     clear x4
     cases r4
     ·have HF:=Lh (HQ.out (by rw [HP2.out];rfl))
      go_wp2
      go_ret
      exact⟨by rw [HF.out];rfl,HEW.out _ X4.out⟩
     ·have HF:=Lh (HN.out (by rw [HP2.out];rfl))
      clear d0 d1 d2 d3 d9
      go_wp2_with fail
      go_roundw
      case rel=>exact⟨k+1,by go_num,by omega,HF,Lh (HEX.out _ X4.out)⟩
      case measure=>simp [intOf];omega
    ·go_wp2_with fail
     refine(H4.out _ (HEW.out _ X3.out)).mono ?_
     rintro e w4 ⟨rfl,x4⟩
     have X4:=Lh (X3.out.trans x4)
     clear x4
     cases r4
     ·have HF:=Lh (HQ.out (by rw [HP2.out];rfl))
      go_wp2
      go_ret
      exact⟨by rw [HF.out];rfl,HEW.out _ X4.out⟩
     ·have HF:=Lh (HN.out (by rw [HP2.out];rfl))
      clear d0 d1 d2 d3 d9
      go_wp2_with fail
      go_roundw
      case rel=>exact⟨k+1,by go_num,by omega,HF,Lh (HEX.out _ X4.out)⟩
      case measure=>simp [intOf];omega
  ·have HE:Hid (Z=decide ((n:Int)≤256)):=Lh (by
    have:=HT.out
    rw [List.take_of_length_le (by have:=Hn.out;omega)] at this
    rw [HZ.out,this,Bool.true_and]
    by_cases h:n≤256
    ·rw [decide_eq_true h,decide_eq_true (by omega)]
    ·rw [decide_eq_false h,decide_eq_false (by omega)])
   go_wp2
   go_ret
   exact⟨by rw [HE.out];rfl,((Ext.refl w).alloc _).trans HX.out⟩
set_option maxRecDepth 100000 in
theorem Zjo (x:In) (v1 v2:Value) (mm:Me) (va vc vh vp:Value) (pool:List Cst) (w:World) (h1:Row w .i64 v1 x.to) (h2:Row w .i64 v2 x.ks) (ha:MeAt w mm va vc vh) (hp:ShC.Row w vp pool) (hm:mayI x=true) :
 Calls Tryz.prog 136 #[.agg (x.vals v1 v2),.agg (mm.vals va vc vh),vp] w fun e w'=>e=.returned (.bool (fitZ mm.lo pool x))∧Ext w w':=by
 obtain⟨a,o,n,m,tt,ks⟩:=x
 obtain⟨A1,k1,rfl,-⟩:=h1
 obtain⟨A2,k2,rfl,-⟩:=h2
 obtain⟨Aa,ca,rfl,-⟩:=ha.1.cut
 obtain⟨Ac,cc,rfl,-⟩:=id ha.2.1
 obtain⟨Ah,ch,rfl,-⟩:=ha.2.2.cut
 obtain⟨Ap,cp,rfl,-⟩:=hp.cut
 have HC:=Lh (fun i j W (e:Ext w W)=>ZdU _ pool n i j W (hp.ext e))
 simp only at *
 unfold In.vals Me.vals
 simp only
 clear ha hp
 rcases ZdK o with H0 | H1 | H2 | H3 | H4 | H5 | HG
 ·rw [ZiL (x:=⟨a,o,n,m,tt,ks⟩) H0]
  have hn:=Zod (x:=⟨a,o,n,m,tt,ks⟩) hm H0
  have hw:IntKind.i64.wrap (n+1)=n+1:=by rw [IntKind.wrap_i64];simp only at hn;omega
  clear hm
  rcases H0 with rfl | rfl
  all_goals
   go_enter Tryz.func136,Tryz.ntmps136
   go_wp2
   go_ret
   exact⟨rfl,((Ext.refl w).alloc _).alloc _⟩
 ·rw [ZkE (x:=⟨a,o,n,m,tt,ks⟩) H1]
  clear hm
  rcases H1 with rfl | rfl | rfl | rfl | rfl
  all_goals
   go_enter Tryz.func136,Tryz.ntmps136
   go_wp2
   go_ret
   exact⟨rfl,((Ext.refl w).alloc _).alloc _⟩
 ·rw [ZkS (x:=⟨a,o,n,m,tt,ks⟩) H2]
  clear hm
  subst H2
  all_goals
   have HK:=Lh (HC.out 2 3)
   go_enter Tryz.func136,Tryz.ntmps136
   go_wp2_with fail
   refine(HK.out _ (((Ext.refl w).alloc _).alloc _)).mono ?_
   rintro e w1 ⟨rfl,x1⟩
   go_wp2
   go_ret
   exact⟨rfl,(((Ext.refl w).alloc _).alloc _).trans x1⟩
 ·rw [Zko (x:=⟨a,o,n,m,tt,ks⟩) H3]
  clear hm
  rcases H3 with rfl | rfl | rfl | rfl
  all_goals
   have HK:=Lh (HC.out 5 5)
   go_enter Tryz.func136,Tryz.ntmps136
   go_wp2_with fail
   refine(HK.out _ (((Ext.refl w).alloc _).alloc _)).mono ?_
   rintro e w1 ⟨rfl,x1⟩
   go_wp2
   go_ret
   exact⟨rfl,(((Ext.refl w).alloc _).alloc _).trans x1⟩
 ·rw [Zk5 (x:=⟨a,o,n,m,tt,ks⟩) H4]
  clear hm
  rcases H4 with rfl | rfl | rfl | rfl
  all_goals
   have HK:=Lh (HC.out 4 4)
   go_enter Tryz.func136,Tryz.ntmps136
   go_wp2_with fail
   refine(HK.out _ (((Ext.refl w).alloc _).alloc _)).mono ?_
   rintro e w1 ⟨rfl,x1⟩
   go_wp2
   go_ret
   exact⟨rfl,(((Ext.refl w).alloc _).alloc _).trans x1⟩
 ·rw [Zkr (x:=⟨a,o,n,m,tt,ks⟩) H5]
  clear hm
  rcases H5 with rfl | rfl | rfl | rfl
  all_goals
   have HK:=Lh (HC.out 6 6)
   go_enter Tryz.func136,Tryz.ntmps136
   go_wp2_with fail
   refine(HK.out _ (((Ext.refl w).alloc _).alloc _)).mono ?_
   rintro e w1 ⟨rfl,x1⟩
   go_wp2
   go_ret
   exact⟨rfl,(((Ext.refl w).alloc _).alloc _).trans x1⟩
 ·rw [ZkI (x:=⟨a,o,n,m,tt,ks⟩) HG]
  clear hm
  have e6:(o==6)=false:=by simp;omega
  have e9:(o==9)=false:=by simp;omega
  have e3:(o==3)=false:=by simp;omega
  have e65:(o==65)=false:=by simp;omega
  have e68:(o==68)=false:=by simp;omega
  have e76:(o==76)=false:=by simp;omega
  have e77:(o==77)=false:=by simp;omega
  rcases HG with⟨g1,g2⟩ | ⟨g1,g2⟩ | ⟨g1,g2,g3,g4,g5,g6⟩ | g1
  ·
   have d5:decide ((5:Int)≤o)=false:=by simp;omega
   go_enter Tryz.func136,Tryz.ntmps136
   go_wp2
   go_ret
   exact⟨rfl,((Ext.refl w).alloc _).alloc _⟩
  ·
   have d5:decide ((5:Int)≤o)=true:=by simp;omega
   have d11:decide (o≤(11:Int))=false:=by simp;omega
   have d61:decide ((61:Int)≤o)=false:=by simp;omega
   have d79:decide ((79:Int)≤o)=false:=by simp;omega
   go_enter Tryz.func136,Tryz.ntmps136
   go_wp2
   go_ret
   exact⟨rfl,((Ext.refl w).alloc _).alloc _⟩
  ·
   have d5:decide ((5:Int)≤o)=true:=by simp;omega
   have d11:decide (o≤(11:Int))=false:=by simp;omega
   have d61:decide ((61:Int)≤o)=true:=by simp;omega
   have d64:decide (o≤(64:Int))=false:=by simp;omega
   have d79:decide ((79:Int)≤o)=false:=by simp;omega
   go_enter Tryz.func136,Tryz.ntmps136
   go_wp2
   go_ret
   exact⟨rfl,((Ext.refl w).alloc _).alloc _⟩
  ·
   have d5:decide ((5:Int)≤o)=true:=by simp;omega
   have d11:decide (o≤(11:Int))=false:=by simp;omega
   have d61:decide ((61:Int)≤o)=true:=by simp;omega
   have d64:decide (o≤(64:Int))=false:=by simp;omega
   have d79:decide ((79:Int)≤o)=true:=by simp;omega
   have d82:decide (o≤(82:Int))=false:=by simp;omega
   go_enter Tryz.func136,Tryz.ntmps136
   go_wp2
   go_ret
   exact⟨rfl,((Ext.refl w).alloc _).alloc _⟩
theorem ZkB {m:Me} {pool:List Cst} {R:List In × Int × Int} {a e:Int} (h:R=([],a,e)) (he:e≠0):chkL m pool R=([],a,e):=by
 unfold chkL
 rw [h]
 simp only
 rw [if_neg he]
theorem ZgT {m:Me} {pool:List Cst} {R:List In × Int × Int} {l:List In} {F a:Int} (h:R=(l,a,0)) (hf:Zaj (fitZ m.lo pool) l=(F,true)):chkL m pool R=([],F,70):=by
 unfold chkL
 rw [h]
 simp only
 rw [if_pos trivial,hf]
 simp
theorem ZkL {m:Me} {pool:List Cst} {R:List In × Int × Int} {l:List In} {F a:Int} (h:R=(l,a,0)) (hf:Zaj (fitZ m.lo pool) l=(F,false)):chkL m pool R=if ZiF m=true∧Zcv l m pool=true then (l,0,0) else ([],0,70):=by
 unfold chkL
 rw [h]
 simp only
 rw [if_pos trivial,hf]
 simp
theorem ZgZ {b:List Int} (hb:Zen b) {l:List In} {a e:Int} (h:cutZ b=(l,a,e)):Zc4 l∧(∀ x∈l,mayI x=true)∧l.length≤8192:=by
 have h1:=Zpa hb
 have h2:=Zp9 hb
 rw [h] at h1 h2
 refine⟨fun x hx=>?_,fun x hx=>(h1 x hx).1,h2⟩
 have:=(Zgn (h1 x hx).1).1
 exact⟨this.1,this.2.1⟩
theorem OwnI.base {B B':Nat} {w:World} {v:Value} {l:List In} (h:OwnI B w v l) (hB:B'≤B):OwnI B' w v l:=by
 obtain⟨es,e,⟨⟨h1,h2⟩,hf⟩⟩:=h
 refine⟨es,e,⟨⟨h1,?_⟩,fun x hx=>⟨(hf x hx).1.base hB,(hf x hx).2.base hB⟩⟩⟩
 rcases h2 with h2 | ⟨g,cap,cur,hv,hb,hr⟩
 ·exact .inl h2
 ·exact .inr ⟨g,cap,cur,hv,by omega,hr⟩
theorem Zs5 {a b c d e f:Prop} {Q:Prop} (p:a∧b∧c∧d∧e∧f) (q:Q):a∧b∧c∧d∧e∧f∧Q:=by
 obtain⟨p1,p2,p3,p4,p5,p6⟩:=p
 exact⟨p1,p2,p3,p4,p5,p6,q⟩
set_option maxRecDepth 100000 in
theorem Znc (m:Me) (va vc vh vp:Value) (pool:List Cst) (w:World) (hm:MeAt w m va vc vh) (hp:ShC.Row w vp pool) :
 Calls Tryz.prog 133 #[.agg (m.vals va vc vh),vp] w (Ret w (CutAns w.heap.size (Zcc m pool))):=by
 have HM:=Lh hm
 have HB:=Lh (Zdh hm.2.1)
 have HC:=Lh (fun W (e:Ext w W)=>ZrZ vc m.code W (hm.2.1.ext e))
 have HU:=Lh (fun v l lo W (e:Ext w W) (h:RowI W v l) h2=>ZmF v l lo vp pool W h (hp.ext e) h2)
 have HR:=Lh (fun W (e:Ext w W)=>Zi6 m va vc vh W (hm.ext e))
 have HF:=Lh (fun v l W (e:Ext w W) (h:RowI W v l) h2=>ZfV v l m va vc vh vp pool W h h2 (hm.ext e) (hp.ext e))
 obtain⟨Aa,ca,rfl,-⟩:=hm.1.cut
 obtain⟨Ac,cc,rfl,-⟩:=id hm.2.1
 obtain⟨Ah,ch,rfl,-⟩:=hm.2.2.cut
 obtain⟨Ap,cp,rfl,-⟩:=hp.cut
 have HMB:=Lh (fun W (e:Ext (w.alloc (.cells (m.vals (.slice Aa m.args.length ca) (.slice Ac m.code.length cc) (.slice Ah m.hs.length ch)) 47)) W)=>((MeB.new w m (.slice Aa m.args.length ca) (.slice Ac m.code.length cc) (.slice Ah m.hs.length ch)).ext e).cells)
 obtain⟨R,hR⟩:∃ R,cutZ m.code=R:=⟨_,rfl⟩
 obtain⟨l,a,er⟩:=R
 have HW:=Lh (ZgZ HB.out hR)
 have HN:Hid (er≠0→l=[]):=Lh (fun e=>by have:=Zem (b:=m.code) (by rw [hR];exact e);rwa [hR] at this)
 have HZ:Hid (Zcc m pool=chkL m pool (l,a,er)):=Lh (by unfold Zcc;rw [hR])
 rw [hR] at HC
 unfold Me.vals at HMB HR HF ⊢
 clear hm hp hR
 obtain⟨y0,y1,y2,y3,y4,y5,y6,y7,y8,y9⟩:=HMB.out _ (Ext.refl _)
 go_enter Tryz.func133,Tryz.ntmps133
 go_wp2_with fail
 refine(HC.out _ ((Ext.refl w).alloc _)).mono ?_
 rintro e w1 ⟨v',rfl,⟨u,rfl,ho⟩,x1⟩
 have HO:=Lh (ho.base (show w.heap.size≤(w.alloc (.cells #[.bool m.st,.bool m.ab,.string m.nm,.int .i64 m.ret.k,.string m.ret.s,.slice Aa m.args.length ca,.int .i64 m.sk,.int .i64 m.lo,.slice Ac m.code.length cc,.slice Ah m.hs.length ch] 47)).heap.size by simp))
 have X1:=Lh x1
 clear ho x1 y0 y1 y2 y3 y4 y5 y6 y7 y8 y9
 by_cases he:er=0
 ·subst he
  obtain⟨A1,c1,rfl,-⟩:=HO.out.slice
  obtain⟨F,hF⟩:∃ F,Zaj (fitZ m.lo pool) l=F:=⟨_,rfl⟩
  obtain⟨fa,fb⟩:=F
  have hu:=HU.out _ l m.lo w1 (((Ext.refl w).alloc _).trans X1.out) HO.out.row HW.out.2.1
  rw [hF] at hu
  have HU1:=Lh hu
  obtain⟨y0,y1,y2,y3,y4,y5,y6,y7,y8,y9⟩:=HMB.out _ X1.out
  clear hu
  cases fb
  ·have HE:=Lh (HZ.out.trans (ZkL rfl hF))
   clear hF
   go_wp2_with fail
   refine HU1.out.mono ?_
   rintro e w2 ⟨rfl,x2⟩
   have X2:=Lh (X1.out.trans x2)
   have O2:=Lh (HO.out.ext x2)
   clear x2 y0 y1 y2 y3 y4 y5 y6 y7 y8 y9
   obtain⟨y0,y1,y2,y3,y4,y5,y6,y7,y8,y9⟩:=HMB.out _ X2.out
   obtain⟨r1,hr1⟩:∃ r,ZiF m=r:=⟨_,rfl⟩
   rw [hr1] at HE HR
   clear hr1
   go_wp2_with fail
   refine(HR.out _ (((Ext.refl w).alloc _).trans X2.out)).mono ?_
   rintro e w3 ⟨rfl,x3⟩
   have X3:=Lh (X2.out.trans x3)
   have O3:=Lh (O2.out.ext x3)
   clear x3 y0 y1 y2 y3 y4 y5 y6 y7 y8 y9
   obtain⟨y0,y1,y2,y3,y4,y5,y6,y7,y8,y9⟩:=HMB.out _ X3.out
   cases r1
   ·go_wp2
    go_ret3
    exact Ret.mk (CutAns.bad (HE.out.trans (if_neg (by simp)))) (((Ext.refl w).alloc _).trans X3.out)
   ·obtain⟨r2,hr2⟩:∃ r,Zcv l m pool=r:=⟨_,rfl⟩
    have hf:=HF.out _ l w3 (((Ext.refl w).alloc _).trans X3.out) O3.out.row HW.out.1
    rw [hr2] at HE hf
    have HF1:=Lh hf
    clear hr2 hf
    go_wp2_with fail
    refine HF1.out.mono ?_
    rintro e w4 ⟨rfl,x4⟩
    cases r2
    ·go_wp2
     go_ret3
     exact Ret.mk (CutAns.bad (HE.out.trans (if_neg (by simp)))) ((((Ext.refl w).alloc _).trans X3.out).trans x4)
    ·go_wp2
     go_ret3
     exact Ret.mk (CutAns.good (HE.out.trans (if_pos (by simp))) (O3.out.ext x4)) ((((Ext.refl w).alloc _).trans X3.out).trans x4)
  ·have HE:=Lh (HZ.out.trans (ZgT rfl hF))
   clear hF
   go_wp2_with fail
   refine HU1.out.mono ?_
   rintro e w2 ⟨rfl,x2⟩
   go_wp2
   go_ret3
   exact Ret.mk (CutAns.bad HE.out) ((((Ext.refl w).alloc _).trans X1.out).trans x2)
 ·obtain rfl:l=[]:=HN.out he
  have hb:(er != 0)=true:=by simpa using he
  have HE:=Lh (HZ.out.trans (ZkB rfl he))
  clear he
  go_wp2
  go_ret3
  exact Ret.mk (CutAns.bad HE.out) (((Ext.refl w).alloc _).trans X1.out)
end Go.Proofs.YtclamhhgldkhnaaGreatDoor
