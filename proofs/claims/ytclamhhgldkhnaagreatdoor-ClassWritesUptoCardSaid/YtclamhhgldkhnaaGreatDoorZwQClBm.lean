/- The document's methodBytes of layer 8, walked. (gen_clbm.py) -/
import Derived.Test.YtclamhhgldkhnaaGreatDoorZwQClU
import Derived.Test.YtclamhhgldkhnaaGreatDoorZwAE
import Derived.Test.YtclamhhgldkhnaaGreatDoorZwAG
import Derived.Test.YtclamhhgldkhnaaGreatDoorZwW
import Derived.Test.YtclamhhgldkhnaaGreatDoorZwP
import Derived.Deep.RegionHeld3
namespace Go.Proofs.YtclamhhgldkhnaaGreatDoor
open Go.RowKit
set_option linter.unusedVariables false
set_option maxHeartbeats 16000000
theorem Zmj (n:Int) (hn:NN n) (W:World) (v:Value) (h:Row W .i64 v [n]) :
 Calls Tryz.prog 66 #[v] W (Ret W (fun u w'=>Own W.heap.size w' 5 .u8 u (nu n))):=by
 have:=Zfp v [n] W h (fun x hx=>by rw [List.mem_singleton.1 hx];exact hn) (by simp)
 simpa only [List.flatMap_cons,List.flatMap_nil,List.append_nil] using this
theorem Zrd (n:Int) (hn:NN n) (W:World) (T:TypeId) (g:Nat) (hg:g=W.heap.size) :
 Calls Tryz.prog 66 #[.slice (some ⟨g,0,none⟩) 1 1] (W.alloc (.cells #[.int .i64 n] T)).drew fun e w'=>∃ v,e=.returned v∧Own W.heap.size w' 5 .u8 v (nu n)∧Ext W w' :=
 (Zmj n hn _ _ ((ZbQ T g [n] hg (fun x hx=>by rw [List.mem_singleton.1 hx];exact hn) (by simp)).ext ((Ext.refl _).drew))).mono (by
  rintro e w' ⟨v,rfl,o,x⟩
  exact⟨v,rfl,o.base (by simp [World.drew]),(((Ext.refl W).alloc _).drew).trans x⟩)
theorem Zg6 {n:Int} (hn:NN n):∀ x∈[n],NN x:=fun x hx=>by rw [List.mem_singleton.1 hx];exact hn
theorem ZoS (x:Hd):[x.f,x.t,x.a,x.c].flatMap nu=hdZ x:=by
 unfold hdZ
 simp only [List.flatMap_cons,List.flatMap_nil,List.append_nil]
theorem ZsI {x:Hd} (h:HdOk x):∀ y∈[x.f,x.t,x.a,x.c],NN y:=by
 obtain⟨h1,h2,h3,h4⟩:=h
 intro y hy
 simp at hy
 rcases hy with rfl | rfl | rfl | rfl <;> assumption
theorem Zq0 {x y:Int} (h:NN x) (h':NN y):∀ z∈[x,y],NN z:=by
 intro z hz
 simp at hz
 rcases hz with rfl | rfl <;> assumption
theorem ZsW {l:List Hd} (h:∀ x∈l,HdOk x) (hn:l.length≤256) (k:Nat):((l.take k).flatMap hdZ).length≤8192:=by
 have h1:=ZcV (f:=hdZ) (b:=32) (l:=l.take k) fun x hx=>Zhm (h x (List.mem_of_mem_take hx))
 have h2:(l.take k).length≤l.length:=by rw [List.length_take];omega
 omega
set_option maxRecDepth 100000 in
theorem Zty (w:World) (m:Me) (va vc vh:Value) (ha:MeAt w m va vc vh) (hn:nmB m.nm=true) (hp:Zap m.pr=0) (hr:MeRoom m) (hab:m.ab=true) :
 Calls Tryz.prog 70 #[.agg (m.vals va vc vh)] w (Ret w (fun u w'=>Own w.heap.size w' 5 .u8 u (meZ m))):=by
 obtain⟨n1,n2,n3⟩:=ZaJ hn
 obtain⟨t1,t2,t3⟩:=Zey hp
 have t4:=ZcQ _ t2
 have HS:=Lh (show w.heap.size≤(w.alloc (.cells (m.vals va vc vh) 47)).heap.size by simp)
 obtain⟨w0,hw0⟩:∃ W,w.alloc (.cells (m.vals va vc vh) 47)=W:=⟨_,rfl⟩
 have E0:=Lh (show Ext w w0 from hw0 ▸ (Ext.refl w).alloc _)
 have BX:=Lh (fun W (e:Ext w0 W)=>(show BK w0 w.heap.size (m.vals va vc vh) 47 from hw0 ▸ BK.new w _ _).ext e)
 rw [hw0] at HS
 have X0:=Lh (Ext.refl w0)
 have HW:=Lh hw0
 clear hw0
 have C2:=Lh (fun W=>ZaZ m.nm W (by have:=n1;unfold TX at this;omega))
 have C3:=Lh (fun W (e:Ext w0 W)=>Zdc m va W (ha.1.ext (E0.out.trans e)) hr)
 rw [t1] at C3
 have C4:=Lh (fun W=>ZaZ (bs (ZaN m.pr)) W (by have:=t2;unfold TX at this;omega))
 have C1:=Lh (Zrd 2 ⟨by omega,by omega⟩)
 have hfz:=ZqQ hab
 have z1:=Zaz (n:=2) ⟨by omega,by omega⟩
 have z2:(txA m.nm).length≤72:=n3
 have z3:(txA (bs (ZaN m.pr))).length≤1149:=by omega
 obtain⟨Z,hZ⟩:∃ x,meZ m=x:=⟨_,rfl⟩
 rw [hZ] at hfz ⊢
 obtain⟨tx,htx⟩:∃ x,bs (ZaN m.pr)=x:=⟨_,rfl⟩
 simp only [htx] at C3 C4 z3 hfz
 obtain⟨N1,hN1⟩:∃ x,nu 2=x:=⟨_,rfl⟩
 obtain⟨N2,hN2⟩:∃ x,txA m.nm=x:=⟨_,rfl⟩
 obtain⟨N3,hN3⟩:∃ x,txA tx=x:=⟨_,rfl⟩
 rw [hN1] at z1 C1 hfz
 rw [hN2] at z2 C2 hfz
 rw [hN3] at z3 C4 hfz
 have HZ:=Lh hfz
 clear ha hn hp hr n1 n2 n3 t1 t2 t3 t4 hfz hZ hN1 hN2 hN3 htx
 obtain⟨st,ab,nm,ret,args,sk,lo,code,hs⟩:=m
 obtain⟨k,s⟩:=ret
 simp only at hab
 subst hab
 unfold Me.vals at BX HW ⊢
 simp only at C2 C3 BX HW ⊢
 go_enter Tryz.func70,Tryz.ntmps70
 go_wp2_with fail
 refine(Zfs _ _).mono ?_
 rintro e w' ⟨rfl,rfl⟩
 go_wp2_with fail
 rw [HW.out]
 refine(C3.out w0 X0.out).mono ?_
 rintro x w1 ⟨rfl,x1⟩
 have X1:=Lh x1
 clear x1
 have z1:w1.cell? ⟨w.heap.size,2,none⟩=some (.string nm):=(BX.out w1 X1.out).cell 2
 go_wp2_with fail
 go_region_held3 (fun w'=>w'.cell? ⟨w.heap.size,2,none⟩=some (.string nm)) (first | go_keep | assumption) (first
  | (go_at_call 66;((with_reducible refine(C1.out _ _ _ (by first | rfl | simp)).mono ?_);rintro e w2 ⟨v2,rfl,o2,x2⟩);have X2:=Lh (X1.out.trans x2);have O2:=Lh (o2.base (show w0.heap.size≤_ from X1.out.size));have z2:w2.cell? ⟨w.heap.size,2,none⟩=some (.string nm):=(BX.out w2 X2.out).cell 2;clear o2 x2)
  | (go_at_call 68;((with_reducible refine(C2.out _).mono ?_);rintro e w3 ⟨v3,rfl,o3,x3⟩);have X3:=Lh (X2.out.trans x3);have O3:=Lh (O2.out.ext x3);have R3:=Lh o3.row;have z3:w3.cell? ⟨w.heap.size,2,none⟩=some (.string nm):=(BX.out w3 X3.out).cell 2;clear o3 x3)
  | ((refine ZaM rfl _ _ w0.heap.size 29 5 _ 1 .u8 rfl Tryz.underlying29 Zaq rfl (by omega) v2 (N1) rfl O3.out v3 (N2) rfl R3.out (by first | omega | (simp only [List.length_append];omega)) (by exact X3.out.size) ?_);intro v4 w4 o4 g4 b4;have X4:=Lh (X3.out.grown g4 O3.out.low);have O4:=Lh o4;have z4:w4.cell? ⟨w.heap.size,2,none⟩=some (.string nm):=(BX.out w4 X4.out).cell 2;clear o4 g4 b4)
  | (go_at_call 68;((with_reducible refine(C4.out _).mono ?_);rintro e w5 ⟨v5,rfl,o5,x5⟩);have X5:=Lh (X4.out.trans x5);have O5:=Lh (O4.out.ext x5);have R5:=Lh o5.row;have z5:w5.cell? ⟨w.heap.size,2,none⟩=some (.string nm):=(BX.out w5 X5.out).cell 2;clear o5 x5)
  | ((refine ZaM rfl _ _ w0.heap.size 29 5 _ 1 .u8 rfl Tryz.underlying29 Zaq rfl (by omega) v4 (N1++N2) rfl O5.out v5 (N3) rfl R5.out (by first | omega | (simp only [List.length_append];omega)) (by exact X5.out.size) ?_);intro v6 w6 o6 g6 b6;have X6:=Lh (X5.out.grown g6 O5.out.low);have O6:=Lh o6;have z6:w6.cell? ⟨w.heap.size,2,none⟩=some (.string nm):=(BX.out w6 X6.out).cell 2;clear o6 g6 b6))
 have c1:w6.cell? ⟨w.heap.size,1,none⟩=some (.bool true):=(BX.out w6 X6.out).cell 1
 go_wp2
 go_ret
 rw [HZ.out]
 exact Ret.mk (O6.out.base HS.out) (E0.out.trans X6.out)
set_option maxRecDepth 100000 in
theorem Ztb (w:World) (m:Me) (va vc vh:Value) (ha:MeAt w m va vc vh) (hn:nmB m.nm=true) (hp:Zap m.pr=0) (hr:MeRoom m) (hab:m.ab=false) (hf:Fit .u8 m.code)
 (hq:NN m.sk∧NN m.lo∧m.code.length≤8192∧m.hs.length≤256∧∀ h∈m.hs,HdOk h) :
 Calls Tryz.prog 70 #[.agg (m.vals va vc vh)] w (Ret w (fun u w'=>Own w.heap.size w' 5 .u8 u (meZ m))):=by
 obtain⟨n1,n2,n3⟩:=ZaJ hn
 obtain⟨Ah,ch,rfl,hc1,hm1,-⟩:=(show ShH.Row w vh m.hs from ha.2.2).cut
 unfold maxLen at hm1
 obtain⟨Ac,cc,rfl,-⟩:=id ha.2.1
 obtain⟨t1,t2,t3⟩:=Zey hp
 have t4:=ZcQ _ t2
 have HS:=Lh (show w.heap.size≤(w.alloc (.cells (m.vals va (.slice Ac m.code.length cc) (.slice Ah m.hs.length ch)) 47)).heap.size by simp)
 obtain⟨w0,hw0⟩:∃ W,w.alloc (.cells (m.vals va (.slice Ac m.code.length cc) (.slice Ah m.hs.length ch)) 47)=W:=⟨_,rfl⟩
 have E0:=Lh (show Ext w w0 from hw0 ▸ (Ext.refl w).alloc _)
 have BX:=Lh (fun W (e:Ext w0 W)=>(show BK w0 w.heap.size (m.vals va (.slice Ac m.code.length cc) (.slice Ah m.hs.length ch)) 47 from hw0 ▸ BK.new w _ _).ext e)
 rw [hw0] at HS
 have X0:=Lh (Ext.refl w0)
 have HW:=Lh hw0
 clear hw0
 have C2:=Lh (fun W=>ZaZ m.nm W (by have:=n1;unfold TX at this;omega))
 have C3:=Lh (fun W (e:Ext w0 W)=>Zdc m va W (ha.1.ext (E0.out.trans e)) hr)
 rw [t1] at C3
 have C4:=Lh (fun W=>ZaZ (bs (ZaN m.pr)) W (by have:=t2;unfold TX at this;omega))
 obtain⟨q1,q2,q3,q4,q5⟩:=hq
 have z2:(txA m.nm).length≤72:=n3
 have z3:(txA (bs (ZaN m.pr))).length≤1149:=by omega
 have z1:=Zaz (ZbG m.st).1
 have z4:([m.sk,m.lo].flatMap nu).length≤16:=by
  have:=Zaz q1
  have:=Zaz q2
  simp only [List.flatMap_cons,List.flatMap_nil,List.append_nil,List.length_append]
  omega
 have z5:(txA (strOfNums m.code)).length≤8200:=by
  rw [ZhX hf,List.length_append]
  have:=Zaz (n:=(m.code.length:Int)) ⟨by omega,by omega⟩
  omega
 have z6:=Zaz (n:=(m.hs.length:Int)) ⟨by omega,by omega⟩
 have tc:(strOfNums m.code).size≤140737488000000:=by rw [Zek];omega
 have C1:=Lh (Zrd (flg m.st) (ZbG m.st).1)
 have Q1:=Lh (Zg6 (ZbG m.st).1)
 have C5:=Lh (fun W v (h:Row W .i64 v [m.sk,m.lo])=>Zfp v _ W h (Zq0 q1 q2) (by simp))
 have Q5:=Lh (Zq0 q1 q2)
 have C6:=Lh (fun W=>ZaZ (strOfNums m.code) W tc)
 have C7:=Lh (Zmj (m.hs.length:Int) ⟨by omega,by omega⟩)
 have Q7:=Lh (Zg6 (n:=(m.hs.length:Int)) ⟨by omega,by omega⟩)
 have C8:=Lh (fun x (hx:x∈m.hs) W v (h:Row W .i64 v [x.f,x.t,x.a,x.c])=>(ZoS x) ▸ Zfp v _ W h (ZsI (q5 x hx)) (by simp))
 have Q8:=Lh (fun x (hx:x∈m.hs)=>ZsI (q5 x hx))
 have Z8:=Lh (fun x (hx:x∈m.hs)=>Zhm (q5 x hx))
 have ZF:=Lh (ZsW q5 q4)
 have HC:=Lh ha.2.1
 have HH:=Lh ha.2.2
 obtain⟨n,hN⟩:∃ n,m.hs.length=n:=⟨_,rfl⟩
 have hfz:meZ m=(((((nu (flg m.st)++txA m.nm)++txA (bs (ZaN m.pr)))++[m.sk,m.lo].flatMap nu)++txA (strOfNums m.code))++nu n)++(m.hs.take n).flatMap hdZ:=by
  rw [Zq2 hab hf,← hN,List.take_length]
  unfold lsZ
  simp only [List.append_assoc]
 obtain⟨Z,hZ⟩:∃ x,meZ m=x:=⟨_,rfl⟩
 rw [hZ] at hfz ⊢
 rw [hN] at C7 Q7 z6 hc1 q4 HH HW BX ⊢
 have HN:=Lh hN
 obtain⟨tx,htx⟩:∃ x,bs (ZaN m.pr)=x:=⟨_,rfl⟩
 obtain⟨cs,hcs⟩:∃ x,strOfNums m.code=x:=⟨_,rfl⟩
 obtain⟨kd,hkd⟩:∃ x,flg m.st=x:=⟨_,rfl⟩
 simp only [htx] at C3 C4 z3 hfz
 have HK:=Lh hkd
 have HCS:=Lh hcs
 rw [hcs] at C6 z5 hfz
 rw [hkd] at C1 Q1 z1 hfz
 obtain⟨N1,hN1⟩:∃ x,nu kd=x:=⟨_,rfl⟩
 obtain⟨N2,hN2⟩:∃ x,txA m.nm=x:=⟨_,rfl⟩
 obtain⟨N3,hN3⟩:∃ x,txA tx=x:=⟨_,rfl⟩
 obtain⟨N4,hN4⟩:∃ x,[m.sk,m.lo].flatMap nu=x:=⟨_,rfl⟩
 obtain⟨N5,hN5⟩:∃ x,txA cs=x:=⟨_,rfl⟩
 obtain⟨N6,hN6⟩:∃ x,nu n=x:=⟨_,rfl⟩
 rw [hN1] at z1 C1 hfz
 rw [hN2] at z2 C2 hfz
 rw [hN3] at z3 C4 hfz
 rw [hN4] at z4 C5 hfz
 rw [hN5] at z5 C6 hfz
 rw [hN6] at z6 C7 hfz
 have HZ:=Lh hfz
 clear ha hn hp hr n1 n2 n3 t1 t2 t3 t4 hfz hZ hN1 hN2 hN3 hN4 hN5 hN6 htx hcs hkd tc q1 q2 q3 q5 hf hN
 obtain⟨st,ab,nm,ret,args,sk,lo,code,hs⟩:=m
 obtain⟨k,s⟩:=ret
 simp only at hab
 subst hab
 unfold Me.vals at BX HW ⊢
 simp only at C2 C3 C5 Q5 C8 Q8 Z8 ZF HC HH HN HK HCS HZ BX HW ⊢
 go_enter Tryz.func70,Tryz.ntmps70
 go_wp2_with fail
 refine(Zfs _ _).mono ?_
 rintro e w' ⟨rfl,rfl⟩
 rw [HK.out]
 go_wp2_with fail
 rw [HW.out]
 refine(C3.out w0 X0.out).mono ?_
 rintro x w1 ⟨rfl,x1⟩
 have X1:=Lh x1
 clear x1
 have z1:w1.cell? ⟨w.heap.size,2,none⟩=some (.string nm):=(BX.out w1 X1.out).cell 2
 go_wp2_with fail
 go_region_held3 (fun w'=>w'.cell? ⟨w.heap.size,2,none⟩=some (.string nm)) (first | go_keep | assumption) (first
  | (go_at_call 66;((with_reducible refine(C1.out _ _ _ (by first | rfl | simp)).mono ?_);rintro e w2 ⟨v2,rfl,o2,x2⟩);have X2:=Lh (X1.out.trans x2);have O2:=Lh (o2.base (show w0.heap.size≤_ from X1.out.size));have z2:w2.cell? ⟨w.heap.size,2,none⟩=some (.string nm):=(BX.out w2 X2.out).cell 2;clear o2 x2)
  | (go_at_call 68;((with_reducible refine(C2.out _).mono ?_);rintro e w3 ⟨v3,rfl,o3,x3⟩);have X3:=Lh (X2.out.trans x3);have O3:=Lh (O2.out.ext x3);have R3:=Lh o3.row;have z3:w3.cell? ⟨w.heap.size,2,none⟩=some (.string nm):=(BX.out w3 X3.out).cell 2;clear o3 x3)
  | ((refine ZaM rfl _ _ w0.heap.size 29 5 _ 1 .u8 rfl Tryz.underlying29 Zaq rfl (by omega) v2 (N1) rfl O3.out v3 (N2) rfl R3.out (by first | omega | (simp only [List.length_append];omega)) (by exact X3.out.size) ?_);intro v4 w4 o4 g4 b4;have X4:=Lh (X3.out.grown g4 O3.out.low);have O4:=Lh o4;have z4:w4.cell? ⟨w.heap.size,2,none⟩=some (.string nm):=(BX.out w4 X4.out).cell 2;clear o4 g4 b4)
  | (go_at_call 68;((with_reducible refine(C4.out _).mono ?_);rintro e w5 ⟨v5,rfl,o5,x5⟩);have X5:=Lh (X4.out.trans x5);have O5:=Lh (O4.out.ext x5);have R5:=Lh o5.row;have z5:w5.cell? ⟨w.heap.size,2,none⟩=some (.string nm):=(BX.out w5 X5.out).cell 2;clear o5 x5)
  | ((refine ZaM rfl _ _ w0.heap.size 29 5 _ 1 .u8 rfl Tryz.underlying29 Zaq rfl (by omega) v4 (N1++N2) rfl O5.out v5 (N3) rfl R5.out (by first | omega | (simp only [List.length_append];omega)) (by exact X5.out.size) ?_);intro v6 w6 o6 g6 b6;have X6:=Lh (X5.out.grown g6 O5.out.low);have O6:=Lh o6;have z6:w6.cell? ⟨w.heap.size,2,none⟩=some (.string nm):=(BX.out w6 X6.out).cell 2;clear o6 g6 b6))
 obtain⟨L6,hL6⟩:∃ x,(N1++N2)++N3=x:=⟨_,rfl⟩
 have zL6:L6.length≤1300:=by rw [← hL6];simp only [List.length_append];omega
 rw [hL6] at O6
 have h:=HZ.out
 rw [hL6] at h
 have HZ:=Lh h
 clear h hL6 z1 z2 z3
 have c1:w6.cell? ⟨w.heap.size,1,none⟩=some (.bool false):=(BX.out w6 X6.out).cell 1
 have c6:w6.cell? ⟨w.heap.size,6,none⟩=some (.int .i64 sk):=(BX.out w6 X6.out).cell 6
 have c7:w6.cell? ⟨w.heap.size,7,none⟩=some (.int .i64 lo):=(BX.out w6 X6.out).cell 7
 go_wp2_with fail
 refine(C5.out _ _ (ZbQ _ _ [sk,lo] rfl (Q5.out) (by simp))).mono ?_
 rintro e w7 ⟨v7,rfl,o7,x7⟩
 have O7:=Lh (o7.base (show w0.heap.size≤_ by have:=X6.out.size;simp;omega))
 have E7:=Lh (((Ext.refl w6).alloc _).trans x7)
 have X7:=Lh (X6.out.trans E7.out)
 have O6:=Lh (O6.out.ext E7.out)
 have R7:=Lh o7.row
 obtain⟨A7,k7,rfl,-⟩:=id o7.row
 clear o7 x7
 clear c1 c6 c7
 go_wp2_with (at_builtin;go_loud (refine wpList_app _ rfl _ _ w0.heap.size 29 5 _ 1 .u8 rfl Tryz.underlying29 Zaq rfl (by omega) _ (L6) rfl O6.out _ (N4) rfl R7.out (by first | omega | (simp only [List.length_append];omega)) (by exact X7.out.size) ?_);intro v8 w8 o8 g8 b8;have X8:=Lh (X7.out.grown g8 O6.out.low);have O8:=Lh o8;clear o8 g8 b8;have c8:w8.cell? ⟨w.heap.size,8,none⟩=some (.slice Ac code.length cc):=(BX.out w8 X8.out).cell 8;have hcv:=(HC.out.ext (E0.out.trans X8.out)).conv;rw [HCS.out] at hcv)
 refine(C6.out w8).mono ?_
 rintro e w9 ⟨v9,rfl,o9,x9⟩
 have O9:=Lh (o9.base X8.out.size)
 have E9:=Lh x9
 have X9:=Lh (X8.out.trans E9.out)
 have O8:=Lh (O8.out.ext E9.out)
 have R9:=Lh o9.row
 obtain⟨A9,k9,rfl,-⟩:=id o9.row
 clear o9 x9
 clear c8 hcv
 go_wp2_with (at_builtin;go_loud (refine wpList_app _ rfl _ _ w0.heap.size 29 5 _ 1 .u8 rfl Tryz.underlying29 Zaq rfl (by omega) _ (L6++N4) rfl O8.out _ (N5) rfl R9.out (by first | omega | (simp only [List.length_append];omega)) (by exact X9.out.size) ?_);intro v10 w10 o10 g10 b10;have X10:=Lh (X9.out.grown g10 O8.out.low);have O10:=Lh o10;clear o10 g10 b10;have c9:w10.cell? ⟨w.heap.size,9,none⟩=some (.slice Ah n ch):=(BX.out w10 X10.out).cell 9)
 refine(C7.out _ _ (ZbQ _ _ [(n:Int)] rfl (Q7.out) (by simp))).mono ?_
 rintro e w11 ⟨v11,rfl,o11,x11⟩
 have O11:=Lh (o11.base (show w0.heap.size≤_ by have:=X10.out.size;simp;omega))
 have E11:=Lh (((Ext.refl w10).alloc _).trans x11)
 have X11:=Lh (X10.out.trans E11.out)
 have O10:=Lh (O10.out.ext E11.out)
 have R11:=Lh o11.row
 obtain⟨A11,k11,rfl,-⟩:=id o11.row
 clear o11 x11
 clear c9
 go_wp2_with (at_builtin;go_loud (refine wpList_app _ rfl _ _ w0.heap.size 29 5 _ 1 .u8 rfl Tryz.underlying29 Zaq rfl (by omega) _ ((L6++N4)++N5) rfl O10.out _ (N6) rfl R11.out (by first | omega | (simp only [List.length_append];omega)) (by exact X11.out.size) ?_);intro v12 w12 o12 g12 b12;have X12:=Lh (X11.out.grown g12 O10.out.low);have O12:=Lh o12;clear o12 g12 b12)
 obtain⟨L,hL⟩:∃ x,((L6++N4)++N5)++N6=x:=⟨_,rfl⟩
 have zL:L.length≤10000:=by rw [← hL];simp only [List.length_append];omega
 rw [hL] at O12
 have h:=HZ.out
 rw [hL] at h
 have HZ:=Lh h
 clear h hL zL6 z4 z5 z6
 go_wp2_with fail
 go_loopw [6,7] (fun o i wr=>∃ k:Nat,i=.int .i64 k∧k≤n∧Own w0.heap.size wr 5 .u8 o (L++(hs.take k).flatMap hdZ)∧Ext w0 wr) (fun _ i _=>n-(intOf i).toNat)
 case atStart=>exact⟨0,rfl,by omega,by simpa using O12.out,X12.out⟩
 case round =>
  obtain⟨k,rfl,hk,ho,hx⟩:=hrel
  rename World=>wr
  have O20:=Lh ho
  have X20:=Lh hx
  clear ho hx
  have c9:wr.cell? ⟨w.heap.size,9,none⟩=some (.slice Ah n ch):=(BX.out wr X20.out).cell 9
  by_cases hlt:k<n
  ·have hkl:k<hs.length:=by have:=HN.out;omega
   obtain⟨b1,o1,rfl,hx1⟩:=Zde HH.out (by have:=HN.out;omega)
   obtain⟨y0,y1,y2,y3⟩:=hx1 wr (E0.out.trans X20.out) k (by have:=HN.out;omega)
   have ht:=Lh (ZfN hkl)
   have hm:=Zli hkl
   have D8:=Lh (C8.out _ hm)
   have P8:=Lh (Q8.out _ hm)
   have z8:=Z8.out _ hm
   have zF:=ZF.out k
   obtain⟨x,hxx⟩:∃ x,gh hs k=x:=⟨_,rfl⟩
   obtain⟨fl,hfl⟩:∃ x,(hs.take k).flatMap hdZ=x:=⟨_,rfl⟩
   have hfl':=Lh (show (hs.take (k+1)).flatMap hdZ=fl++hdZ x by rw [ht.out,List.flatMap_append,hfl,hxx];simp)
   rw [hxx] at y0 y1 y2 y3 D8 P8 z8
   rw [hfl] at O20 zF
   clear hx1 hm hxx hfl hkl ht
   obtain⟨N8,hN8⟩:∃ y,hdZ x=y:=⟨_,rfl⟩
   rw [hN8] at D8 z8 hfl'
   clear hN8
   obtain⟨hf,ht,ha,hc⟩:=x
   simp only at y0 y1 y2 y3 D8 P8
   go_wp2_with fail
   refine(D8.out _ _ (ZbQ _ _ [hf,ht,ha,hc] (by simp) P8.out (by simp))).mono ?_
   rintro e w21 ⟨v21,rfl,o21,x21⟩
   have E21:=Lh ((((Ext.refl wr).alloc _).alloc _).trans x21)
   have X21:=Lh (X20.out.trans E21.out)
   have O20:=Lh (O20.out.ext E21.out)
   have R21:=Lh o21.row
   obtain⟨A21,k21,rfl,-⟩:=id o21.row
   clear o21 x21
   go_wp2_with (at_builtin;go_loud (refine wpList_app _ rfl _ _ w0.heap.size 29 5 _ 1 .u8 rfl Tryz.underlying29 Zaq rfl (by omega) _ (L++fl) rfl O20.out _ (N8) rfl R21.out (by first | omega | (simp only [List.length_append];omega)) (by exact X21.out.size) ?_);intro v22 w22 o22 g22 b22;have X22:=Lh (X21.out.grown g22 O20.out.low);have O22:=Lh o22;clear o22 g22 b22)
   go_wp2_with fail
   go_roundw
   case rel=>exact⟨k+1,by go_num,by omega,by rw [hfl'.out,← List.append_assoc];exact O22.out,X22.out⟩
   case measure=>simp [intOf];omega
  ·obtain rfl:k=n:=by omega
   go_wp2
   go_ret
   rw [HZ.out]
   exact Ret.mk (O20.out.base HS.out) (E0.out.trans X20.out)
theorem Zeq (pool:List Cst) (w:World) (m:Me) (va vc vh:Value) (ha:MeAt w m va vc vh) (hp:pool.length≤4096) (ho:okMe pool m=true) (hf:Fit .u8 m.code) (hr:MeRoom m) :
 Calls Tryz.prog 70 #[.agg (m.vals va vc vh)] w (Ret w (fun u w'=>Own w.heap.size w' 5 .u8 u (meZ m))):=by
 obtain⟨h1,h2,h3⟩:=ZhS hp ho hf
 cases hab:m.ab
 ·exact Ztb w m va vc vh ha h1 h2 hr hab hf (h3 hab)
 ·exact Zty w m va vc vh ha h1 h2 hr hab
end Go.Proofs.YtclamhhgldkhnaaGreatDoor
